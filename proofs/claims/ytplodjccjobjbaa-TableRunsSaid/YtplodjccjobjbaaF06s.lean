/- package table: Rows: the rows of a table, by client. -/
import Derived.Test.YtplodjccjobjbaaF06m
import Derived.Test.YtplodjccjobjbaaReg
import Derived.Test.YtplodjccjobjbaaS06
import Derived.Maps.RangeWalk
namespace Go.Proofs.Ytplodjccjobjbaa
open Go.RowKit Go.Px Go.Maps Go.Shelf Go.Lib Go.Sort
set_option linter.unusedVariables false
/-- A row of the table's, as it lies in memory; its client is one. -/
structure RowE where
  c : Int
  s : Int
  k : Nat
  A : Option Addr
  d : Nat
  dc : Nat
  h : 1 ≤ c ∧ c ≤ 4611686018427387904
instance : Inhabited RowE := ⟨⟨1, 0, 0, none, 0, 0, by omega⟩⟩
def encR (x : RowE) : List Value := [.int .i64 x.c, .int .i64 x.s, .int .u8 x.k, .slice x.A x.d x.dc]
theorem encR_length (x : RowE) : (encR x).length = 4 := rfl
def cfR (x y : RowE) : Int := x.c - y.c
theorem swoR : SWO (ltOf cfR) where
  irrefl x := by unfold ltOf cfR; simp
  trans x y z h1 h2 := by unfold ltOf cfR at *; simp at *; omega
  ntrans x y z h1 h2 := by unfold ltOf cfR at *; simp at *; omega
theorem closR_any (x y : RowE) (W : World) : Calls Try.prog 30 #[.agg (encR x).toArray, .agg (encR y).toArray] W fun e w' => e = .returned (.int .i64 (cfR x y)) ∧ ∃ q os', w' = grow (W.drewN q) os' := by
  obtain ⟨c1, s1, k1, A1, d1, dc1, h1, h1'⟩ := x
  obtain ⟨c2, s2, k2, A2, d2, dc2, h2, h2'⟩ := y
  unfold cfR encR
  have hw : IntKind.i64.wrap (c1 - c2) = c1 - c2 := IntWalk.i64_in _ (by omega)
  go_enter Try.func30, Try.ntmps30
  go_wp2
  go_ret
  exact ⟨rfl, 0, _, by rw [alloc_eq_grow, alloc_eq_grow, grow_grow]; rfl⟩
/-- What the rows made so far are: each is what the table says of its client. -/
def RowOk (w : World) (Q : Nat → Prop) (m : TM) (x : RowE) : Prop :=
  ∃ bs, m x.c = some (x.s, x.k, bs) ∧ x.k < 256 ∧ bs.length = x.d ∧ x.d ≤ x.dc ∧ x.dc ≤ 9223372036854775807 ∧ Rd w x.A (bys bs) ∧ (bs ≠ [] → ∀ a, x.A = some a → Q a.block)
theorem RowOk.keep {w w' : World} {Q Q' : Nat → Prop} {m : TM} {x : RowE} (h : RowOk w Q m x) (hk : ∀ A xs, Rd w A xs → (∀ a, A = some a → Q a.block) → Rd w' A xs) (hQ : ∀ b, Q b → Q' b) : RowOk w' Q' m x := by
  obtain ⟨bs, h1, h2, h3, h4, h5, h6, h7⟩ := h
  refine ⟨bs, h1, h2, h3, h4, h5, ?_, fun hne a ha => hQ _ (h7 hne a ha)⟩
  cases bs with
  | nil => exact Rd.nil
  | cons b bs => exact hk _ _ h6 (h7 (by simp))
theorem flat_snoc (ds : List RowE) (x : RowE) : (ds ++ [x]).flatMap encR = ds.flatMap encR ++ encR x := by simp
theorem flat_length (ds : List RowE) : (ds.flatMap encR).length = 4 * ds.length := by
  induction ds with
  | nil => rfl
  | cons x xs ih => simp [List.flatMap_cons, ih, encR]; omega
theorem flat_get : ∀ (ds : List RowE) (t : Nat), t < 4 * ds.length → (ds.flatMap encR)[t]? = some ((encR (ds.toArray[t / 4]!))[t % 4]!)
  | [], t, h => by simp at h
  | x :: xs, t, h => by
    rw [List.flatMap_cons]
    by_cases h4 : t < 4
    · rw [List.getElem?_append_left (by rw [encR_length]; exact h4)]
      have h0 : t / 4 = 0 := by omega
      have h1 : t % 4 = t := by omega
      rw [h0, h1]
      have : t = 0 ∨ t = 1 ∨ t = 2 ∨ t = 3 := by omega
      rcases this with rfl | rfl | rfl | rfl <;> simp [encR]
    · obtain ⟨s, rfl⟩ : ∃ s, t = s + 4 := ⟨t - 4, by omega⟩
      rw [List.getElem?_append_right (by rw [encR_length]; omega), encR_length, show s + 4 - 4 = s by omega]
      have hs : s < 4 * xs.length := by simp at h; omega
      rw [flat_get xs s hs, show (s + 4) / 4 = s / 4 + 1 by omega, show (s + 4) % 4 = s % 4 by omega]
      have h1 : s / 4 < xs.length := by omega
      rw [getElem!_pos (x :: xs).toArray (s / 4 + 1) (by simp; omega), getElem!_pos xs.toArray (s / 4) (by simpa using h1)]
      simp
theorem own_holdsR {w : World} {base e n c blk : Nat} {ds : List RowE} (h : w.ownsRow base e 4 (.slice (some ⟨blk, 0, none⟩) n c) n (ds.flatMap encR)) : HoldsK encR 4 w blk 0 ds.toArray := fun t ht => by
  rw [size_flatK] at ht
  have ht' : t < 4 * ds.length := by simp at ht; omega
  have h1 := h.cells (g := blk) rfl t _ (flat_get ds t ht')
  rw [addr_add0] at h1
  rw [Nat.zero_add, get_flatK _ _ _ _ ht]
  exact ⟨h1, h.frozenAt t⟩
theorem rd_holdsR {w : World} {blk : Nat} {es : List RowE} (h : HoldsK encR 4 w blk 0 es.toArray) : Rd w (some ⟨blk, 0, none⟩) (es.flatMap encR) := fun t u hu => by
  have ht : t < 4 * es.length := by rw [← flat_length]; exact (List.getElem?_eq_some_iff.1 hu).1
  have ht' : t < es.toArray.size * 4 := by simp; omega
  have h1 := (h t (by rw [size_flatK]; exact ht')).1
  rw [Nat.zero_add, get_flatK _ _ _ _ ht'] at h1
  rw [flat_get es t ht] at hu
  injection hu with hu
  refine ⟨_, rfl, ?_⟩
  rw [addr_add0, h1, ← hu]; rfl
theorem grown_sortR {w : World} {blk : Nat} (n : Nat) (d : Array RowE) (os : Array Obj) : w.grownBy (sortWorldK encR 4 w blk 0 n d os) (some blk) :=
  ⟨rfl, rfl, rfl, by unfold sortWorldK; rw [size_grow]; unfold putRowK; rw [size_putRow]; exact Nat.le_add_right _ _, fun k hk hne => by
    unfold sortWorldK
    rw [heap_grow_old _ _ (by unfold putRowK; rw [size_putRow]; exact hk)]
    show ((Sort.ahead w n).heap.modify blk _)[k]? = _
    rw [Array.getElem?_modify, if_neg (fun e => hne (by rw [e]))]; rfl⟩
theorem cmpR (blk off size : Nat) (w : World) : CmpLays Try.prog 30 #[] encR 4 cfR blk off size w := fun _ _ _ _ x y => closR_any x y _
theorem sortR_any {w : World} {base n c blk : Nat} {ds : List RowE} (h : w.ownsRow base 68 4 (.slice (some ⟨blk, 0, none⟩) n c) n (ds.flatMap encR)) (hn : ds.length = n) (hblk : blk < w.heap.size) (h12 : n ≤ 4096) :
    Calls Try.prog 29 #[.slice (some ⟨blk, 0, none⟩) n c, .func (.func 30) #[] #[]] w fun e w' => e = .returned (.tuple #[]) ∧ ∃ es : List RowE, es.Perm ds ∧ es.Pairwise (fun x y => ¬ y.c < x.c) ∧ Rd w' (some ⟨blk, 0, none⟩) (es.flatMap encR) ∧ w.grownBy w' (some blk) := by
  have eg : ∀ args w, (callFunc 30 args).run Try.prog w = .ok (.enter 30 args) w := enters_of Try.func30 (by kernel_rfl) rfl
  have hsz : ds.toArray.size = n := by simpa using hn
  have hcon := AnyQ.slices_SortFunc Try.sortRow 4 Try.isAgg68 Try.sizeOf68 encR (fun _ => rfl) (fun x v hv => by simp [encR] at hv; rcases hv with rfl | rfl | rfl | rfl <;> rfl) cfR swoR 30 #[] blk 0 c ds.toArray w eg (cmpR blk 0 _ w) (own_holdsR h) hblk (by omega)
  rw [hsz] at hcon
  refine (show Calls Try.prog 29 _ _ _ from hcon).mono ?_
  rintro e w' ⟨rfl, d', n', os, hp, hs, rfl⟩
  have hsz' : d'.size = ds.length := by rw [hp.1]; simp
  have hperm : d'.toList.Perm ds := by
    have := hp.2.2
    rw [Array.extract_eq_self_of_le (by omega), Array.extract_eq_self_of_le (by simp; omega)] at this
    simpa using this
  refine ⟨rfl, d'.toList, hperm, ?_, rd_holdsR ?_, grown_sortR _ _ _⟩
  · rw [List.pairwise_iff_getElem]
    intro i j hi hj hij hlt
    have hi' : i < d'.size := by simpa using hi
    have hj' : j < d'.size := by simpa using hj
    have := hs i j (Nat.zero_le _) hij (by omega)
    rw [getElem!_pos d' j hj', getElem!_pos d' i hi'] at this
    unfold ltOf cfR at this
    simp at this
    simp at hlt
    omega
  · rw [show d'.toList.toArray = d' by simp]
    exact holdsK_grow encR 4 _ os blk 0 d' (by unfold putRowK; rw [size_putRow]; exact hblk) (holdsK_putRowK encR 4 (Sort.ahead w n') blk 0 ds.toArray d' (holdsK_ahead encR 4 w n' blk 0 _ (own_holdsR h)) (by simp [hsz']))
/-- A row, by what the table says of its client. -/
def toRow (m : TM) (x : RowE) : RowT := (x.c, (m x.c).getD (0, 0, []))
/-- What the loop over the map has made. -/
structure LoopR (w0 wr : World) (t bm r n : Nat) (D : DataW Value) (m : TM) (o : Value) (left : Lit → Bool) (cnt : Nat) (ds : List RowE) : Prop where
  rng : wr.ranges Try.prog 3 rdV bm r n D left cnt
  own : wr.ownsRow w0.heap.size 68 4 o ds.length (ds.flatMap encR)
  ok : ∀ x ∈ ds, RowOk wr (fun b => w0.heap.size ≤ b ∧ b < wr.heap.size ∧ b ≠ r ∧ some b ≠ o.ownBlock) m x
  gone : ∀ x ∈ ds, left (.int .i64 x.c) = false
  all : ∀ c y, m c = some y → left (.int .i64 c) = false → ∃ x ∈ ds, x.c = c
  sub : ∀ kl, left kl = true → Maps.has D kl = true
  nd : ds.Pairwise (fun x y => x.c ≠ y.c)
  len : ds.length + cnt ≤ Maps.size D
  bel : Below w0.heap.size w0 wr
  ne : o ≠ .slice none 0 0
  sep : some r ≠ o.ownBlock
  hr : w0.heap.size ≤ r
theorem own_grownS {w w' : World} {base e size n : Nat} {v : Value} {xs : List Value} {row : Option Nat} (h : w.ownsRow base e size v n xs) (hg : w.grownBy w' row) (hne : ∀ g, v.ownBlock = some g → row ≠ some g) : w'.ownsRow base e size v n xs := by
  refine ⟨h.1, ?_⟩
  rcases h.2 with h2 | ⟨g, cap, cur, rfl, hbg, hgg, r⟩
  · exact .inl h2
  · exact .inr ⟨g, cap, cur, rfl, hbg, (hg.block g (Array.getElem?_eq_some_iff.1 hgg).1 (fun e => hne g rfl e.symm)).trans hgg, r⟩
theorem own_ltS {w : World} {base e n size : Nat} {v : Value} {xs : List Value} (h : w.ownsRow base e size v n xs) : ∀ g, v.ownBlock = some g → base ≤ g ∧ g < w.heap.size := by
  intro g hg
  rcases h.2 with ⟨rfl, _⟩ | ⟨g', cap, cur, rfl, hbg, hgg, _⟩
  · simp [Value.ownBlock] at hg
  · simp [Value.ownBlock] at hg
    subst hg
    exact ⟨hbg, (Array.getElem?_eq_some_iff.1 hgg).1⟩
theorem cellS {w w' : World} (hb : RowKit.Below w.heap.size w w') {a : Addr} {u : Value} (h : w.cell? a = some u) : w'.cell? a = some u := (hb.cell (p := a) (World.block_lt_of_cell? w _ h)).trans h
theorem cellG {w w' : World} {row : Option Nat} (hg : w.grownBy w' row) {a : Addr} {u : Value} (h : w.cell? a = some u) (hne : some a.block ≠ row) : w'.cell? a = some u := hg.cell h hne
set_option maxRecDepth 20000 in
set_option maxHeartbeats 3200000 in
theorem rows_any {w : World} {B t bm n : Nat} {D : DataW Value} {m : TM} (h : TabIs w B t bm n D m) (hsz : Maps.size D ≤ 4096) (hser : ∀ c x, m c = some x → serB c = true) :
    Calls Try.prog 15 #[.pointer (some ⟨t, 0, none⟩)] w fun e w' => ∃ A c cs es, e = .returned (.slice A es.length c) ∧ es.length ≤ c ∧ c ≤ 9223372036854775807 ∧ Rd w' A cs ∧ RwRows w' (fun _ => True) cs es ∧ es.Pairwise (fun x y => x.1 < y.1) ∧ (∀ e : RowT, e ∈ es ↔ m e.1 = some e.2) ∧ es.length ≤ 4096 ∧ Below w.heap.size w w' := by
  have x0 := h.blk.cell (j := 0) rfl
  have hl := fun ty => h.len ty
  go_enter Try.func15, Try.ntmps15
  go_wp2_with fail
  go_fit (made06_any h)
  rintro x w1 ⟨rfl, rfl⟩
  go_wp2_with (first | (with_reducible refine stop_append rfl ?_) | (with_reducible refine stop_copy rfl ?_) | (with_reducible refine stop_make rfl ?_))
  refine go_make rfl rfl tRows rfl rfl (n := 0) (m := Maps.size D) rfl rfl (by omega) (by omega) (by omega) (Nat.le_refl _) ?_
  rintro z w2 - - hw2 hown2 hg2
  have hb2 : Below w.heap.size w w2 := by rw [hw2]; exact (Below.refl _ _).alloc (Nat.le_refl _) _
  have hT2 := h.below hb2
  have y0 := hT2.blk.cell (j := 0) rfl
  have sz2 : w2.heap.size = w.heap.size + 1 := by rw [hw2]; simp
  rw [List.take_zero] at hown2
  have Hw2 := hide hw2
  clear hw2
  go_wp2_with (first | (at_range; refine wpList_range_own _ rfl _ 56 rfl 3 64 keyed_int Try.underlying56 rdV bm n D rfl hT2.own ?_; intro w3 hrg3 hg3 hs3))
  go_frame
  have hb3 : Below w.heap.size w w3 := hb2.grown hg3 hb2.size (fun g hg => by cases hg)
  have Hsz2 := hide sz2
  clear sz2
  go_loopw [3] (fun o wr => ∃ left cnt ds, LoopR w wr t bm w2.heap.size n D m o left cnt ds) (fun _ wr => wr.rangeLeft bm w2.heap.size)
  case atStart =>
    refine ⟨Maps.has D, Maps.size D, [], ⟨hrg3, own_below hown2 ⟨hg3.os, hg3.tape, hg3.output, hg3.size, fun k hk => hg3.block k hk (by simp)⟩, fun x hx => (by cases hx), fun x hx => (by cases hx), fun c y hm hl => ?_, fun _ h => h, List.Pairwise.nil, by simp, hb3, by simp, by have := Hsz2.out; simp [Value.ownBlock]; omega, by have := Hsz2.out; omega⟩⟩
    have := h.at_ c
    rw [hm] at this
    obtain ⟨s, k, bs⟩ := y
    rw [this.1] at hl
    cases hl
  case round =>
    obtain ⟨left, cnt, ds, hL⟩ := hrel
    have hTr := h.below hL.bel
    go_wp2_with (first | (at_next; refine wpList_next_ranges (α := Int) (β := Value) _ rfl _ rfl 3 keyed_int rdV (Value.int .i64) id (fun key kl hk => by obtain ⟨x, rfl, _⟩ := Maps.keyOf_int_inv Try.underlying3 hk; exact ⟨x, rfl⟩) (fun v y hv => ⟨v, rfl⟩) bm w2.heap.size n D left cnt rfl hL.rng ?_ ?_))
    · intro hc0 hl0
      obtain ⟨hn0, hv⟩ := hL.own
      rcases hv with ⟨h0, _⟩ | ⟨blk, cap, cur, rfl, hbg, hgg, hcc⟩
      · exact absurd h0 hL.ne
      have hblk : blk < wr.heap.size := (Array.getElem?_eq_some_iff.1 hgg).1
      have hlen := hL.len
      obtain ⟨dn, hdn⟩ : ∃ x, ds.length = x := ⟨_, rfl⟩
      have hown := hL.own
      rw [hdn] at hown
      have C := hide (sortR_any hown hdn hblk (by omega))
      have HL := hide hL
      have Hdn := hide hdn
      have hcap := hcc.1
      have hcm := hcc.2.1
      rw [hdn] at hlen hcap
      rw [hdn]
      clear hL hgg hcc hn0 hown x0 hl y0 hrg3 hg3 hb3 hb2 hT2 hown2 hg2 hdn
      go_wp2_with fail
      go_fit C.out
      rintro xx w8 ⟨rfl, es, hperm, hsrt, hrd8, hg8⟩
      go_wp2
      go_ret
      have hok : ∀ x ∈ es, RowOk w8 (fun _ => True) m x := fun x hx => (HL.out.ok x (hperm.mem_iff.1 hx)).keep (fun A xs hr hq => hr.grown hg8 (fun a ha e => (hq a ha).2.2.2 (by simpa [Value.ownBlock] using e))) (fun _ _ => trivial)
      have hel : es.length = dn := by rw [hperm.length_eq]; exact Hdn.out
      refine ⟨some ⟨blk, 0, none⟩, cap, es.flatMap encR, es.map (toRow m), by simp [hel], by simp [hel]; exact hcap, by unfold maxLen at hcm; omega, hrd8, ⟨by rw [flat_length]; simp, fun j e he => ?_⟩, ?_, fun e => ⟨fun hm => ?_, fun hm => ?_⟩, by simp [hel]; omega, ?_⟩
      · rw [List.getElem?_map] at he
        obtain ⟨x, hx, rfl⟩ := Option.map_eq_some_iff.1 he
        have hj := (List.getElem?_eq_some_iff.1 hx).1
        have hxm : x ∈ es := List.mem_of_getElem? hx
        obtain ⟨bs, h1, h2, h3, h4, h5, h6, _⟩ := hok x hxm
        have hg : ∀ r, r < 4 → (es.flatMap encR)[4 * j + r]? = some ((encR x)[r]!) := fun r hr => by
          rw [flat_get es (4 * j + r) (by omega), show (4 * j + r) / 4 = j by omega, show (4 * j + r) % 4 = r by omega, getElem!_pos es.toArray j (by simpa using hj)]
          rw [List.getElem?_eq_getElem hj] at hx
          injection hx with hx
          simp [hx]
        have ht : toRow m x = (x.c, x.s, x.k, bs) := by unfold toRow; rw [h1]; rfl
        rw [ht]
        exact ⟨x.A, x.d, x.dc, hg 0 (by omega), hg 1 (by omega), hg 2 (by omega), hg 3 (by omega), h2, h3, h4, h5, h6, fun _ _ _ => trivial⟩
      · rw [List.pairwise_map]
        have hnd : es.Pairwise (fun x y => x.c ≠ y.c) := (hperm.pairwise_iff (fun h => Ne.symm h)).2 HL.out.nd
        refine (hsrt.and hnd).imp ?_
        rintro x y ⟨h1, h2⟩
        show x.c < y.c
        omega
      · obtain ⟨x, hx, rfl⟩ := List.mem_map.1 hm
        obtain ⟨bs, h1, _⟩ := hok x hx
        have ht : toRow m x = (x.c, x.s, x.k, bs) := by unfold toRow; rw [h1]; rfl
        rw [ht]; exact h1
      · obtain ⟨x, hx, hxc⟩ := HL.out.all e.1 e.2 hm (hl0 _)
        refine List.mem_map.2 ⟨x, hperm.mem_iff.2 hx, ?_⟩
        unfold toRow
        rw [hxc, hm]; rfl
      · exact HL.out.bel.grown hg8 (by have := HL.out.bel.size; omega) (fun g hg => by injection hg with hg; omega)
    · intro x v kl y1 y2 w4 cnt4 hkey hlk hrd hat hrg4 hlt4 hg4 hs4 hen
      obtain ⟨x', hx', rfl, hwf⟩ := Maps.keyOf_int_inv Try.underlying3 hkey
      injection hx' with _ hx'
      subst hx'
      injection hrd with hrd
      injection hrd with hrd1 hrd2
      subst hrd1 hrd2
      have hhas := hL.sub _ hlk
      have hax := h.at_ x
      cases hmx : m x with
      | none => rw [hmx] at hax; rw [show Maps.has D (.int .i64 x) = false from hax] at hhas; cases hhas
      | some q =>
        obtain ⟨s, k, bs⟩ := q
        rw [hmx] at hax
        obtain ⟨_, hk8, A, d, dc, ha1, hd, hdc, hd8, hdm, hrA, hA⟩ := hax
        have hv := (hat (.held zeroE)).symm.trans ha1
        injection hv with hv
        have hv' : v = entV s k A d dc := hv
        subst hv'
        have hser' := serB_out (hser x _ hmx)
        have hb4 : RowKit.Below w.heap.size w w4 := hL.bel.grown hg4 (by have := hL.bel.size; omega) (fun g hg => by injection hg with hg; have := hL.hr; omega)
        have hrA4 := hrA.below hb4
        have Hd := hide hd
        have hL' := hide hL
        have Hmx := hide hmx
        have Hlk := hide hlk
        have hTr' := hide hTr
        have hb4' := hide hb4
        clear hd hat hv hL hTr hkey hlk hhas hmx ha1 hA x0 hl y0 hrg3 hg3 hb3 hb2 hT2 hown2 hg2
        have Hs4 := hide hs4
        clear hs4
        go_wp2_with fail
        obtain ⟨w5, hw5⟩ : ∃ y, w4.alloc (.cells #[.int .i64 s, .int .u8 k, .slice A d dc] 64) = y := ⟨_, rfl⟩
        have hR5 : Blk w5 w4.heap.size [.int .i64 s, .int .u8 k, .slice A d dc] 64 := by rw [← hw5]; exact Blk.new w4 [.int .i64 s, .int .u8 k, .slice A d dc] _
        have hb45 : RowKit.Below w4.heap.size w4 w5 := by rw [← hw5]; exact (RowKit.Below.refl _ _).alloc (Nat.le_refl _) _
        have Hw5 := hide hw5
        clear hw5
        rw [Hw5.out]
        have hlo := own_ltS hL'.out.own
        have hown5 := own_below (own_grownS hL'.out.own hg4 (fun g hg e => hL'.out.sep (by rw [hg]; exact e))) hb45
        have sz5 := hb45.size
        have szr := hL'.out.bel.size
        have hrr := hL'.out.rng.lt
        have hlen := hL'.out.len
        have hrA5 := hrA4.below hb45
        have p0 := hR5.cell (j := 0) rfl
        have p1 := hR5.cell (j := 1) rfl
        have p2 := hR5.cell (j := 2) rfl
        have g5lt := hR5.lt
        rw [← Hs4.out] at hrr szr hlo
        have Mk := hide (show ∀ X X', RowKit.Below X.heap.size X X' → (X.cell? ⟨w4.heap.size, 0, none⟩ = some (.int .i64 s) ∧ X.cell? ⟨w4.heap.size, 1, none⟩ = some (.int .u8 k) ∧ X.cell? ⟨w4.heap.size, 2, none⟩ = some (.slice A d dc)) → (X'.cell? ⟨w4.heap.size, 0, none⟩ = some (.int .i64 s) ∧ X'.cell? ⟨w4.heap.size, 1, none⟩ = some (.int .u8 k) ∧ X'.cell? ⟨w4.heap.size, 2, none⟩ = some (.slice A d dc)) from fun X X' hX h => ⟨cellS hX h.1, cellS hX h.2.1, cellS hX h.2.2⟩)
        have MkG := hide (show ∀ X X' : World, X.grownBy X' u3.ownBlock → (X.cell? ⟨w4.heap.size, 0, none⟩ = some (.int .i64 s) ∧ X.cell? ⟨w4.heap.size, 1, none⟩ = some (.int .u8 k) ∧ X.cell? ⟨w4.heap.size, 2, none⟩ = some (.slice A d dc)) → (X'.cell? ⟨w4.heap.size, 0, none⟩ = some (.int .i64 s) ∧ X'.cell? ⟨w4.heap.size, 1, none⟩ = some (.int .u8 k) ∧ X'.cell? ⟨w4.heap.size, 2, none⟩ = some (.slice A d dc)) from fun X X' hX h => ⟨cellG hX h.1 (fun e => by have := hlo w4.heap.size e.symm; omega), cellG hX h.2.1 (fun e => by have := hlo w4.heap.size e.symm; omega), cellG hX h.2.2 (fun e => by have := hlo w4.heap.size e.symm; omega)⟩)
        have S0 := (show (w5.drew.cell? ⟨w4.heap.size, 0, none⟩ = some (.int .i64 s) ∧ w5.drew.cell? ⟨w4.heap.size, 1, none⟩ = some (.int .u8 k) ∧ w5.drew.cell? ⟨w4.heap.size, 2, none⟩ = some (.slice A d dc)) from ⟨p0, p1, p2⟩)
        go_wp2_with fail
        first
          | (go_region_held_law (fun W => W.cell? ⟨w4.heap.size, 0, none⟩ = some (.int .i64 s) ∧ W.cell? ⟨w4.heap.size, 1, none⟩ = some (.int .u8 k) ∧ W.cell? ⟨w4.heap.size, 2, none⟩ = some (.slice A d dc)) (first | assumption | exact Mk.out _ _ ((RowKit.Below.refl _ _).alloc (Nat.le_refl _) _) (by assumption)) (first
              | (go_at_call 28; refine (cloneR_any k A d dc bs _ Hd.out hd8 hrA5.drew).mono ?_; rintro xx w6 ⟨A6, c6, rfl, hc6, hm6, hr6, ha6, hb6⟩; have S6 := Mk.out _ _ hb6 S0)
              | (refine step_own rfl rfl tRows (by simp [Act.eval]) (own_below (own_below hown5 (show RowKit.Below w5.heap.size w5 w6 from ⟨hb6.os, hb6.tape, hb6.output, hb6.size, hb6.block⟩)) ((RowKit.Below.refl _ _).alloc (Nat.le_refl _) _)) (by simp [Act.eval]; rfl) (m := 1) (news := [.int .i64 x, .int .i64 s, .int .u8 k, .slice A6 d c6]) rfl (Rd.newN w6 [.int .i64 x, .int .i64 s, .int .u8 k, .slice A6 d c6] _ (0, 0)) (by intro u hu; simp at hu; rcases hu with rfl | rfl | rfl | rfl <;> rfl) (by omega) (by omega) (by have h6 : w5.heap.size ≤ w6.heap.size := hb6.size; rw [World.size_alloc]; omega) ?_; intro v8 w8 ho8 hg8 hv8; simp only [List.getElem_toArray, List.getElem_cons_succ, List.getElem_cons_zero, Act.put, List.setIfInBounds_toArray, List.set_cons_zero, List.set_cons_succ]; have S8 := MkG.out _ _ hg8 (Mk.out _ _ ((RowKit.Below.refl _ _).alloc (Nat.le_refl _) _) S6))))
        all_goals
          have hb56 : RowKit.Below w5.heap.size w5 w6 := ⟨hb6.os, hb6.tape, hb6.output, hb6.size, hb6.block⟩
          have sz6 := hb56.size
          have hb67 : RowKit.Below w6.heap.size w6 (w6.alloc (.cells #[.int .i64 x, .int .i64 s, .int .u8 k, .slice A6 d c6] 68)) := (RowKit.Below.refl _ _).alloc (Nat.le_refl _) _
          have hb47 := hb45.trans ((hb56.trans (hb67.mono sz6)).mono sz5)
          have sz7 : (w6.alloc (.cells #[.int .i64 x, .int .i64 s, .int .u8 k, .slice A6 d c6] 68)).heap.size = w6.heap.size + 1 := World.size_alloc _ _
          have sz8 := hg8.size
          rw [sz7] at sz8
          have hne : ∀ b, b < w6.heap.size → some b ≠ u3.ownBlock → some b ≠ v8.ownBlock := fun b hb hb' e => by
            rcases hv8 with e' | e'
            · rw [e'] at e; exact hb' e
            · rw [e', sz7] at e; injection e with e; omega
          have hb8 : RowKit.Below w.heap.size w w8 := (hb4'.out.trans (hb47.mono (by omega))).grown hg8 (by omega) (fun g hg => (hlo g hg).1)
          have hrng8 := ((hrg4.kept (grown_of_below hb47 none) (by simp) (by simp)).kept hg8 (fun e => by have := (hlo bm e.symm).1; have := h.own.lt; omega) (hL'.out.sep))
          go_wp2
          go_roundw
          case rel =>
            refine ⟨_, cnt4, ds ++ [⟨x, s, k, A6, d, c6, hser'⟩], ⟨hrng8, by rw [flat_snoc]; simpa [encR] using ho8, ?_, ?_, ?_, ?_, ?_, by simp; omega, hb8, ?_, ?_, hL'.out.hr⟩⟩
            · intro y hy
              rcases List.mem_append.1 hy with hy | hy
              · refine (hL'.out.ok y hy).keep (fun A' xs hr hq => ?_) (fun b hb => ⟨hb.1, ?_, hb.2.2.1, hne b ?_ hb.2.2.2⟩)
                · exact (((hr.grown hg4 (fun a ha e => by injection e with e; exact (hq a ha).2.2.1 e)).below hb47).grown hg8 (fun a ha e => (hq a ha).2.2.2 e))
                · have := hb.2.1; have := Hs4.out; omega
                · have := hb.2.1; have := Hs4.out; omega
              · obtain rfl : y = ⟨x, s, k, A6, d, c6, hser'⟩ := by simpa using hy
                have hne6 : ∀ a, A6 = some a → some a.block ≠ u3.ownBlock := fun a ha e => by
                  have h1 := (hlo _ e.symm).2
                  have h2 := ha6 a ha
                  have h3 : w5.drew.heap.size = w5.heap.size := rfl
                  omega
                have hrz : Rd w8 A6 (bys bs) := (hr6.below hb67).grown hg8 hne6
                refine ⟨bs, Hmx.out, hk8, Hd.out, hc6, hm6, hrz, fun hnb a ha => ⟨?_, rd_ltB hrz hnb a ha, ?_, hne _ (rd_ltB hr6 hnb a ha) (hne6 a ha)⟩⟩
                · have h2 := ha6 a ha
                  have h3 : w5.drew.heap.size = w5.heap.size := rfl
                  have := hL'.out.bel.size
                  omega
                · have h2 := ha6 a ha
                  have h3 : w5.drew.heap.size = w5.heap.size := rfl
                  omega
            · intro y hy
              rcases List.mem_append.1 hy with hy | hy
              · show (left _ && _) = false
                rw [hL'.out.gone y hy]; rfl
              · obtain rfl : y = ⟨x, s, k, A6, d, c6, hser'⟩ := by simpa using hy
                simp [Lit.sameKey]
            · intro c y hm hz
              by_cases hcx : c = x
              · exact ⟨⟨x, s, k, A6, d, c6, hser'⟩, by simp, hcx.symm⟩
              · have hz' : left (.int .i64 c) = false := by simpa [Lit.sameKey, hcx] using hz
                obtain ⟨q, hq, hqc⟩ := hL'.out.all c y hm hz'
                exact ⟨q, List.mem_append_left _ hq, hqc⟩
            · intro kl hk
              exact hL'.out.sub kl (by cases hl2 : left kl <;> simp_all)
            · refine List.pairwise_append.2 ⟨hL'.out.nd, by simp, fun a ha b hb e => ?_⟩
              obtain rfl : b = ⟨x, s, k, A6, d, c6, hser'⟩ := by simpa using hb
              have h1 := hL'.out.gone a ha
              have e' : a.c = x := e
              rw [e'] at h1
              rw [Hlk.out] at h1
              cases h1
            · intro e
              rcases ho8.2 with ⟨_, h0⟩ | ⟨g, cap, cur, hv, _⟩
              · omega
              · rw [e] at hv; cases hv
            · exact hne _ (by omega) hL'.out.sep
          case measure => rw [hrng8.left_eq, hL'.out.rng.left_eq]; omega
end Go.Proofs.Ytplodjccjobjbaa
