/- Two tables side by side: what keeps them, Put of both exactly, the document's Load, begin. -/
import Derived.Test.YtplodjccjobjbaaG06a
namespace Go.Proofs.Ytplodjccjobjbaa
open Go.RowKit Go.Px Go.Maps
set_option linter.unusedVariables false
section
variable {w w' : World} {B t bm N : Nat} {D : DataW Value} {m : TM} {r : Nat} {A : Option Addr} {n c : Nat} {cs : List Value} {es : List RowT}
/-! ### what a store into the map, or into the document's table, leaves -/
theorem own_heap {b n : Nat} {D : DataW Value} (h : w.ownsMap Try.prog 3 rdV b n D) : ∃ es clock, w.heap[b]? = some (.map es clock) := by
  obtain ⟨es, clock, hh, _⟩ := h
  exact ⟨es, clock, hh⟩
theorem blk_ne_map {g b : Nat} {vs : List Value} {T : TypeId} (hB : Blk w g vs T) {es : Array MapEntry} {cl : Nat} (h : w.heap[b]? = some (.map es cl)) : g ≠ b := by
  rintro rfl
  rw [hB] at h
  injection h with h
  cases h
theorem rd_ne_map {b : Nat} {xs : List Value} {A : Option Addr} {es : Array MapEntry} {cl : Nat} (h : w.heap[b]? = some (.map es cl)) (hr : Rd w A xs) (hx : xs ≠ []) : ∀ a, A = some a → a.block ≠ b := by
  rintro a rfl rfl
  obtain ⟨x, r, rfl⟩ := List.exists_cons_of_ne_nil hx
  have := hr.at_ (j := 0) (u := x) rfl
  unfold World.cell? at this
  rw [add_block, h] at this
  cases this
theorem Rd.gMap {b : Nat} {xs : List Value} {A : Option Addr} {es : Array MapEntry} {cl : Nat} (h : w.heap[b]? = some (.map es cl)) (hr : Rd w A xs) (hg : w.grownBy w' (some b)) : Rd w' A xs := by
  cases xs with
  | nil => exact Rd.nil
  | cons x xs => exact hr.grown hg (fun a ha e => rd_ne_map h hr (by simp) a ha (Option.some.inj e))
theorem Rd.gSl {T : TypeId} (hB : Blk w r [.slice A n c] T) {D : Option Addr} {bs : List UInt8} (hr : Rd w D (bys bs)) (hg : w.grownBy w' (some r)) : Rd w' D (bys bs) := by
  cases bs with
  | nil => exact Rd.nil
  | cons b bs => exact hr.grown hg (fun a ha e => rd_sepV hB hr (k := .u8) (y := (b.toNat : Int)) rfl a ha (Option.some.inj e))
theorem RfIs.gMap (h : RfIs w r A n c cs es) {b : Nat} {ents : Array MapEntry} {cl : Nat} (hm : w.heap[b]? = some (.map ents cl)) (hg : w.grownBy w' (some b)) : RfIs w' r A n c cs es :=
  ⟨(hg.block r h.blk.lt (fun e => blk_ne_map h.blk hm (Option.some.inj e))).trans h.blk, h.len, h.nc, h.cm, Rd.gMap hm h.rd hg, h.rows.keep (fun A xs hr _ => Rd.gMap hm hr hg) (fun _ h => h)⟩
theorem TabIs.gSl (h : TabIs w B t bm N D m) {T : TypeId} (hB : Blk w r [.slice A n c] T) (hg : w.grownBy w' (some r)) : TabIs w' B t bm N D m := by
  obtain ⟨ents, cl, hm⟩ := own_heap h.own
  have h1 : some t ≠ some r := by
    intro e
    injection e with e
    subst e
    have h1 := h.blk
    have h2 : Blk w t [.slice A n c] T := hB
    have h3 := h1.symm.trans h2
    simp at h3
  have h2 : some bm ≠ some r := fun e => blk_ne_map hB hm (Option.some.inj e).symm
  refine { blk := (hg.block t h.blk.lt h1).trans h.blk, own := h.own.kept hg h2, at_ := fun c => ?_, ne := h.ne, hB := h.hB }
  have := h.at_ c
  cases hmc : m c with
  | none => rw [hmc] at this; exact this
  | some y =>
    obtain ⟨s, k, bs⟩ := y
    rw [hmc] at this
    obtain ⟨q0, q8, A', d, dc, q1, q2, q3, q4, q5, q6, q7⟩ := this
    exact ⟨q0, q8, A', d, dc, q1, q2, q3, q4, q5, Rd.gSl hB q6 hg, q7⟩
theorem Blk.gMap {g b : Nat} {vs : List Value} {T : TypeId} (hB : Blk w g vs T) {es : Array MapEntry} {cl : Nat} (h : w.heap[b]? = some (.map es cl)) (hg : w.grownBy w' (some b)) : Blk w' g vs T := (hg.block g (Blk.lt hB) (fun e => blk_ne_map hB h (Option.some.inj e))).trans hB
/-! ### what Put makes -/
theorem askV_none {m : TM} {S : Nat} {x s : Int} (h : (askV m S x s).2.1 = 0) : serB x = true ∧ serB s = true := by
  rcases serB_two (x := x) (s := s) with hb | hb
  · rw [askV_bad hb] at h; cases h
  · exact hb
theorem askV_err {m : TM} {S : Nat} {x s : Int} : (askV m S x s).2.1 = 0 ∨ (askV m S x s).2.1 = 5 := by
  rcases serB_two (x := x) (s := s) with hb | hb
  · rw [askV_bad hb]; exact .inr rfl
  · unfold askV
    rw [if_pos hb]
    left
    split
    · split <;> rfl
    · split
      · rfl
      · split <;> rfl
theorem askV_new {m : TM} {S : Nat} {x s : Int} (h : (askV m S x s).1 = 1) : m x = none → S < 64 := by
  intro hm
  unfold askV at h
  split at h
  · rw [hm] at h
    by_cases hS : 64 ≤ S
    · rw [if_pos hS] at h; cases h
    · omega
  · cases h
theorem putV_zero {m : TM} {S : Nat} {x s : Int} {k d : Nat} (h : putV m S x s k d = 0) : (askV m S x s).2.1 = 0 ∧ rsE k d = 0 ∧ (askV m S x s).1 = 1 := by
  unfold putV at h
  by_cases h1 : (askV m S x s).2.1 = 0
  · rw [if_pos h1] at h
    by_cases h2 : rsE k d = 0
    · rw [if_pos h2] at h
      by_cases h3 : (askV m S x s).1 = 4
      · rw [if_pos h3] at h; cases h
      · rw [if_neg h3] at h
        by_cases h4 : (askV m S x s).1 = 1
        · exact ⟨h1, h2, h4⟩
        · rw [if_neg h4] at h; cases h
    · rw [if_neg h2] at h; cases h
  · rw [if_neg h1] at h; exact absurd h h1
def putM (m : TM) (S : Nat) (x s : Int) (k d : Nat) (bs : List UInt8) : TM := if putV m S x s k d = 0 then tmPut m x s k bs else m
def putS (m : TM) (S : Nat) (x s : Int) (k d : Nat) : Nat := if putV m S x s k d = 0 then szNew m x S else S
theorem putM_ser {m : TM} {S : Nat} {x s : Int} {k d : Nat} {bs : List UInt8} (h : ∀ c y, m c = some y → serB c = true) : ∀ c y, putM m S x s k d bs c = some y → serB c = true := by
  intro c y hc
  unfold putM at hc
  split at hc
  · rename_i h0
    obtain ⟨h1, _, _⟩ := putV_zero h0
    unfold tmPut at hc
    split at hc
    · rename_i e
      rw [e]; exact (askV_none h1).1
    · exact h c y hc
  · exact h c y hc
theorem putS_le {m : TM} {S : Nat} {x s : Int} {k d : Nat} (h : S ≤ 64) : putS m S x s k d ≤ 64 := by
  unfold putS
  split
  · rename_i h0
    obtain ⟨_, _, h1⟩ := putV_zero h0
    unfold szNew
    split
    · exact h
    · rename_i hm
      have := askV_new h1 (by cases hmx : m x <;> simp_all)
      omega
  · exact h
/-- What Put of the table leaves. -/
def PutT (B t bm N : Nat) (m' : TM) (S' : Nat) (w w' : World) : Prop := (∃ N' D', TabIs w' B t bm N' D' m' ∧ N' ≤ N + 1 ∧ Maps.size D' = S') ∧ w.grownBy w' (some bm) ∧ w.heap.size ≤ w'.heap.size
theorem PutT.same (h : TabIs w B t bm N D m) (hb : Below w.heap.size w w') : PutT B t bm N m (Maps.size D) w w' := ⟨⟨N, D, h.below hb, by omega, rfl⟩, grown_of_below hb _, hb.size⟩
theorem put_any6 (h : TabIs w B t bm N D m) (x s : Int) (k : Nat) (A : Option Addr) (d dc : Nat) (bs : List UInt8) (hk : k < 256) (hd : bs.length = d) (hdc : d ≤ dc) (hdm : dc ≤ 9223372036854775807) (hr : Rd w A (bys bs)) (hn : N < 4096) :
    Calls Try.prog 17 #[.pointer (some ⟨t, 0, none⟩), .int .i64 x, .int .i64 s, resv k A d dc] w fun e w' => e = .returned (.int .i64 (putV m (Maps.size D) x s k d)) ∧ PutT B t bm N (putM m (Maps.size D) x s k d bs) (putS m (Maps.size D) x s k d) w w' := by
  have hask := fun W (hW : TabIs W B t bm N D m) => ask_any6 hW x s
  unfold putM putS putV
  by_cases h1 : (askV m (Maps.size D) x s).2.1 = 0
  · simp only [if_pos h1]
    rw [h1] at hask
    by_cases h2 : rsE k d = 0
    · simp only [if_pos h2]
      by_cases h3 : (askV m (Maps.size D) x s).1 = 4
      · simp only [if_pos h3]
        rw [h3] at hask
        exact (put_full h x s 4 _ _ hask k A d dc bs hk hd hdc hdm hr h2 rfl).mono fun e w' ⟨he, hb⟩ => ⟨he, PutT.same h hb⟩
      · simp only [if_neg h3]
        by_cases h4 : (askV m (Maps.size D) x s).1 = 1
        · simp only [if_pos h4]
          rw [h4] at hask
          obtain ⟨hc, hs⟩ := askV_none h1
          obtain ⟨c1, c2⟩ := serB_out hc
          refine (put_ok2 h x s _ _ hask k A d dc bs hk hd hdc hdm hr h2 (rsE_zero h2) (by omega) (by omega) hn).mono fun e w' ⟨he, ⟨A4, c4, hT, _⟩, hg, hz, _⟩ => ⟨he, ⟨N + 1, _, hT, by omega, ?_⟩, hg, hz⟩
          rw [h.size_put]; rfl
        · simp only [if_neg h4]
          exact (put_arg h x s _ _ _ hask k A d dc bs hk hd hdc hdm hr h2 h3 h4).mono fun e w' ⟨he, hb⟩ => ⟨he, PutT.same h hb⟩
    · simp only [if_neg h2]
      exact (put_badR h x s _ _ _ hask k A d dc bs hk hd hdc hdm hr h2).mono fun e w' ⟨he, hb⟩ => ⟨he, PutT.same h hb⟩
  · simp only [if_neg h1]
    exact (put_err h x s _ _ _ _ hask k A d dc bs hk hd hdc hdm hr h1).mono fun e w' ⟨he, hb⟩ => ⟨he, PutT.same h hb⟩
/-- What Put of the document's leaves. -/
def PutR (r : Nat) (m' : TM) (S' : Nat) (w w' : World) : Prop := (∃ A' c' cs' es', RfIs w' r A' S' c' cs' es' ∧ TbOf m' es') ∧ w.grownBy w' (some r)
theorem PutR.same (h : RfIs w r A n c cs es) (ht : TbOf m es) (hb : Below w.heap.size w w') : PutR r m n w w' := ⟨⟨A, c, cs, es, h.below hb, ht⟩, grown_of_below hb _⟩
theorem rput_any6 (h : RfIs w r A n c cs es) (ht : TbOf m es) (x s : Int) (k : Nat) (D : Option Addr) (d dc : Nat) (bs : List UInt8) (hk : k < 256) (hd : bs.length = d) (hdc : d ≤ dc) (hdm : dc ≤ 9223372036854775807) (hr : Rd w D (bys bs)) (hn : n ≤ 4096) :
    Calls Try.prog 24 #[.pointer (some ⟨r, 0, none⟩), .int .i64 x, .int .i64 s, resv k D d dc] w fun e w' => e = .returned (.int .i64 (putV m n x s k d)) ∧ PutR r (putM m n x s k d bs) (putS m n x s k d) w w' := by
  unfold putM putS putV
  by_cases h1 : (askV m n x s).2.1 = 0
  · simp only [if_pos h1]
    by_cases h2 : rsE k d = 0
    · simp only [if_pos h2]
      by_cases h3 : (askV m n x s).1 = 4
      · simp only [if_pos h3]
        exact (rput_full h ht x s k D d dc bs hk hd hdc hdm hr h1 h2 h3).mono fun e w' ⟨he, hb⟩ => ⟨he, PutR.same h ht hb⟩
      · simp only [if_neg h3]
        by_cases h4 : (askV m n x s).1 = 1
        · simp only [if_pos h4]
          refine (rput_ok h ht x s k D d dc bs hk hd hdc hdm hr h1 h2 h4 hn).mono fun e w' ⟨he, ⟨A', c', cs', hR⟩, hg⟩ => ⟨he, ⟨A', c', cs', _, ?_, insG_tb ht x s k bs⟩, hg⟩
          rw [insG_size ht, h.len] at hR
          exact hR
        · simp only [if_neg h4]
          exact (rput_arg h ht x s k D d dc bs hk hd hdc hdm hr h1 h2 ⟨h4, h3⟩).mono fun e w' ⟨he, hb⟩ => ⟨he, PutR.same h ht hb⟩
    · simp only [if_neg h2]
      exact (rput_badR h ht x s k D d dc bs hk hd hdc hdm hr h1 h2).mono fun e w' ⟨he, hb⟩ => ⟨he, PutR.same h ht hb⟩
  · simp only [if_neg h1]
    exact (rput_bad h ht x s k D d dc bs hk hd hdc hdm hr h1).mono fun e w' ⟨he, hb⟩ => ⟨he, PutR.same h ht hb⟩
end
/-! ### the document's Load, begin -/
theorem rows_one {w : World} {Q : Nat → Prop} {cs : List Value} {es : List RowT} (h : RwRows w Q cs es) : ∀ u ∈ cs, u.oneCell' = true := by
  intro u hu
  obtain ⟨j, hj, rfl⟩ := List.mem_iff_getElem.1 hu
  have hl := h.1
  have hq : j / 4 < es.length := by omega
  obtain ⟨A, d, dc, h1, h2, h3, h4, _⟩ := h.2 (j / 4) _ (List.getElem?_eq_getElem hq)
  have hj' : cs[j]? = some cs[j] := List.getElem?_eq_getElem hj
  have h4' : j % 4 = 0 ∨ j % 4 = 1 ∨ j % 4 = 2 ∨ j % 4 = 3 := by omega
  rcases h4' with e | e | e | e
  · rw [show 4 * (j / 4) = j by omega, hj'] at h1; injection h1 with h1; rw [h1]; rfl
  · rw [show 4 * (j / 4) + 1 = j by omega, hj'] at h2; injection h2 with h2; rw [h2]; rfl
  · rw [show 4 * (j / 4) + 2 = j by omega, hj'] at h3; injection h3 with h3; rw [h3]; rfl
  · rw [show 4 * (j / 4) + 3 = j by omega, hj'] at h4; injection h4 with h4; rw [h4]; rfl
set_option maxRecDepth 20000 in
set_option maxHeartbeats 1600000 in
theorem rload_bad (A : Option Addr) (n c : Nat) (cs : List Value) (es : List RowT) (Q : Nat → Prop) (w : World) (hn : es.length = n) (hr : Rd w A cs) (hE : RwRows w Q cs es) (hB : rowsB es = false) :
    Calls Try.prog 23 #[.slice A n c] w fun e w' => e = .returned (.tuple #[.pointer none, .int .i64 60]) ∧ Below w.heap.size w w' := by
  have HB := hide hB
  clear hB
  go_enter Try.func23, Try.ntmps23
  go_wp2_with fail
  go_fit (right_any A n c cs es Q w hn hr hE)
  rw [HB.out]
  rintro x w1 ⟨rfl, hb1⟩
  go_wp2
  go_ret2
  exact ⟨rfl, hb1⟩
set_option maxRecDepth 20000 in
set_option maxHeartbeats 1600000 in
theorem rload_any (A : Option Addr) (n c : Nat) (cs : List Value) (es : List RowT) (Q : Nat → Prop) (w : World) (hn : es.length = n) (hr : Rd w A cs) (hE : RwRows w Q cs es) (hB : rowsB es = true) :
    Calls Try.prog 23 #[.slice A n c] w fun e w' => ∃ r A' c', e = .returned (.tuple #[.pointer (some ⟨r, 0, none⟩), .int .i64 0]) ∧ RfIs w' r A' n c' cs es ∧ w.heap.size ≤ r ∧ Below w.heap.size w w' := by
  obtain ⟨h64, _, _⟩ := rowsB_out hB
  have HB := hide hB
  have hl := hE.1
  clear hB
  go_enter Try.func23, Try.ntmps23
  go_wp2_with fail
  go_fit (right_any A n c cs es Q w hn hr hE)
  rw [HB.out]
  rintro x w1 ⟨rfl, hb1⟩
  have hown : (w1.alloc (.cells #[] 68)).ownsRow w1.heap.size 68 4 (.slice (some ⟨w1.heap.size, 0, none⟩) 0 0) 0 [] := own_made #[] 0 0 (Nat.le_refl _) (Nat.le_refl _) (by decide) (by simp)
  have hb2 : Below w.heap.size w (w1.alloc (.cells #[] 68)) := hb1.alloc hb1.size _
  have hr2 := hr.below hb2
  have sz1 := hb1.size
  have ho0 : ∀ g, (Value.slice (some ⟨w1.heap.size, 0, none⟩) 0 0).ownBlock = some g → w.heap.size ≤ g := by
    intro g hg
    have hg' : w1.heap.size = g := by simpa [Value.ownBlock] using hg
    omega
  go_wp2_with (first | (with_reducible refine stop_append rfl ?_) | (with_reducible refine stop_copy rfl ?_) | (with_reducible refine stop_make rfl ?_))
  refine go_append rfl rfl tRows rfl hown rfl (m := n) (news := cs) (by omega) hr2 (rows_one hE) (by omega) (by omega) (by simp) ?_
  intro v w3 ho3 hg3 hv3
  have hb3 : Below w.heap.size w w3 := hb2.grown hg3 (by simp; omega) ho0
  obtain ⟨A1, c1, hv1, hl1, hc1, hcm1, hr1, ha1⟩ := own_out ho3
  subst hv1
  have sz3 := hb3.size
  go_wp2
  go_ret2
  refine ⟨w3.heap.size, A1, c1, by simp, ?_, sz3, hb3.alloc sz3 _⟩
  have hbz : Below w3.heap.size w3 (w3.alloc (.cells #[.slice A1 (0 + n) c1] 38)) := (Below.refl _ _).alloc (Nat.le_refl _) _
  rw [Nat.zero_add] at *
  exact ⟨Blk.new w3 [.slice A1 n c1] _, hn, hc1, by unfold maxLen at hcm1; omega, by simpa using hr1.below hbz, (hE.below (hb3.trans (hbz.mono sz3))).keep (fun _ _ h _ => h) (fun _ _ => trivial)⟩
/-- Both tables at once. -/
def Both6 (w : World) (W0 t bm r : Nat) (m : TM) (S N : Nat) : Prop :=
  ∃ D A c cs es, TabIs w W0 t bm N D m ∧ RfIs w r A S c cs es ∧ TbOf m es ∧ Maps.size D = S ∧ S ≤ 64 ∧ W0 ≤ r ∧ (∀ c y, m c = some y → serB c = true)
theorem tb_of {m : TM} {es : List RowT} (h : rowsB es = true) (hm : ∀ e : RowT, e ∈ es ↔ m e.1 = some e.2) : TbOf m es := ⟨hm, (rowsB_out h).2.2⟩
set_option maxHeartbeats 1600000 in
theorem begin6_bad (A : Option Addr) (n c : Nat) (cs : List Value) (es : List RowT) (Q : Nat → Prop) (w : World) (hn : es.length = n) (hr : Rd w A cs) (hE : RwRows w Q cs es) (hB : rowsB es = false) :
    Calls Try.prog 9 #[.slice A n c] w fun e w' => e = .returned (.tuple #[.pointer none, .pointer none, .bool true]) ∧ Below w.heap.size w w' := by
  have Hn := hide hn
  have HB := hide hB
  clear hn hB
  go_enter Try.func9, Try.ntmps9
  go_wp2_with fail
  go_fit (load_bad A n c cs es Q w Hn.out hr hE HB.out)
  rintro x w1 ⟨rfl, hb1⟩
  go_wp2_with fail
  go_fit (rload_bad A n c cs es Q w1 Hn.out (hr.below hb1) (hE.below hb1) HB.out)
  rintro x w2 ⟨rfl, hb2⟩
  go_wp2
  go_ret3
  exact ⟨rfl, hb1.trans (hb2.mono hb1.size)⟩
set_option maxHeartbeats 1600000 in
theorem begin6_any (A : Option Addr) (n c : Nat) (cs : List Value) (es : List RowT) (Q : Nat → Prop) (w : World) (hn : es.length = n) (hr : Rd w A cs) (hE : RwRows w Q cs es) (hB : rowsB es = true) :
    Calls Try.prog 9 #[.slice A n c] w fun e w' => ∃ t bm r m S N, e = .returned (.tuple #[.pointer (some ⟨t, 0, none⟩), .pointer (some ⟨r, 0, none⟩), .bool true]) ∧ Both6 w' w.heap.size t bm r m S N ∧ N ≤ 64 ∧ Below w.heap.size w w' := by
  have h64 := (rowsB_out hB).1
  have Hn := hide hn
  have HB := hide hB
  clear hn hB
  go_enter Try.func9, Try.ntmps9
  go_wp2_with fail
  go_fit (load_any A n c cs es Q w Hn.out hr hE HB.out)
  rintro x w1 ⟨t, bm, N, D, m, rfl, hT, hN, hsz, hm, hb1⟩
  have HN := hide hN
  have Hsz := hide hsz
  have Hm := hide hm
  have tl := hT.blk.lt
  clear hN hsz hm
  go_wp2_with fail
  go_fit (rload_any A n c cs es Q w1 Hn.out (hr.below hb1) (hE.below hb1) HB.out)
  rintro x w2 ⟨r, A', c', rfl, hR, hrl, hb2⟩
  go_wp2
  go_ret3
  have := hb1.size
  exact ⟨t, bm, r, m, n, N, rfl, ⟨D, A', c', cs, es, hT.below hb2, hR, tb_of HB.out Hm.out, by rw [Hsz.out, Hn.out], by rw [← Hn.out]; exact h64, by omega, fun c y hc => ((rowsB_out HB.out).2.1 (c, y) ((Hm.out (c, y)).2 hc)).1⟩, by rw [HN.out]; exact h64, hb1.trans (hb2.mono hb1.size)⟩
end Go.Proofs.Ytplodjccjobjbaa
