/- Results: decoded and encoded, both ways. -/
import Derived.Test.YtabglphiafeheaaF04v
import Derived.Test.YtabglphiafeheaaF04q
import Derived.Test.YtabglphiafeheaaF04r
import Derived.Test.YtabglphiafeheaaM04b
namespace Go.Proofs.Ytabglphiafeheaa
open Go.RowKit Go.Px
set_option linter.unusedVariables false
def ResAny (bs : List UInt8) (w : World) (e : Ending) (w' : World) : Prop :=
  ∃ D dc, e = .returned (.tuple #[resv (reK bs) D (reD bs).length dc, .int .i64 (reT bs), .int .i64 (reE bs)]) ∧ Rd w' D (bys (reD bs)) ∧ Below w.heap.size w w'
theorem resAny_bad {bs : List UInt8} {x : Int} {w : World} {e : Ending} {w' : World} (hx : reE bs = x) (h0 : x ≠ 0) (h : e = .returned (.tuple #[resv 0 none 0 0, .int .i64 0, .int .i64 x]) ∧ Below w.heap.size w w') : ResAny bs w e w' := by
  obtain ⟨rfl, hb⟩ := h
  obtain ⟨h1, h2, h3⟩ := reE_no (show reE bs ≠ 0 by rw [hx]; exact h0)
  unfold ResAny
  rw [h1, h2, h3, hx]
  exact ⟨none, 0, rfl, Rd.nil, hb⟩
set_option maxHeartbeats 1600000 in
theorem res_any (A : Option Addr) (m c : Nat) (bs : List UInt8) (w : World) (hm : bs.length = m) (hmc : m ≤ c) (hm8 : m ≤ 140737488355328) (hc : c ≤ 9223372036854775807) (hr : Rd w A (bys bs)) (hlo : Lo w.heap.size A) :
    Calls Try.prog 28 #[.slice A m c] w (ResAny bs w) := by
  have hne : ∀ b, w.heap.size + 2 ≤ b → ∀ a, A = some a → some a.block ≠ some b := fun b hb a ha h => by
    injection h with h; have := hlo a ha; omega
  by_cases h9 : bs.length < 1
  · have hx : reE bs = 10 := by unfold reE; rw [if_pos h9]
    refine (rsbad A m c bs 10 w hr fun b w2 hB hr2 hb => ?_).mono fun e w' h => resAny_bad hx (by decide) h
    refine (res_bad0 b _ A m c bs 0 10 w2 hB hm hmc hm8 hc hr2 (hne b hb) (short_get bs 0 1 (by decide) (by decide) (by decide) (by omega) (by omega)) (by decide)).mono ?_
    rintro e w' ⟨he, hg⟩; exact ⟨he, below_of_grown hg (Nat.le_of_lt hB.lt)⟩
  · have e0 := long_get bs 0 1 (by decide) (by decide) (by decide) (by omega)
    have hx : reE bs = if textE bs 1 ≠ 0 then brE (textE bs 1) else if rsE (getV bs 0 1) (textS bs 1).length ≠ 0 then 42 else 0 := by unfold reE; rw [if_neg h9]
    by_cases h3 : textE bs 1 = 0
    · rw [if_neg (by rw [h3]; decide)] at hx
      rcases rsE_two (getV bs 0 1) (textS bs 1).length with ⟨_, hf⟩ | hf
      · have hx0 : reE bs = 0 := by rw [hx, if_neg (by rw [hf]; decide)]
        refine (rsok A m c bs (getV bs 0 1) (textS bs 1) (textI bs 1) w hr fun b w2 hB hr2 hb => ?_).mono ?_
        · exact res_ok b _ A m c bs (getV bs 0 1) (textS bs 1) (textI bs 1) b w2 hB hm hmc hm8 hc hr2 (hne b hb) e0 rfl (getI_of e0) h3 rfl rfl (getV_1 bs 0) (Nat.le_refl _) hf
        · rintro e w' ⟨D, dc, he, h1, h2, h3⟩
          obtain ⟨g1, g2, g3⟩ := reE_yes hx0
          unfold ResAny
          rw [g1, g2, g3, hx0]
          exact ⟨D, dc, he, h1, h3⟩
      · have hx42 : reE bs = 42 := by rw [hx, if_pos (by rw [hf]; decide)]
        refine (rsbad A m c bs 42 w hr fun b w2 hB hr2 hb => ?_).mono fun e w' h => resAny_bad hx42 (by decide) h
        exact res_bad2 b _ A m c bs (getV bs 0 1) (textS bs 1) (textI bs 1) w2 hB hm hmc hm8 hc hr2 (hne b hb) e0 rfl (getI_of e0) h3 rfl rfl (getV_1 bs 0) hf
    · have hx3 : reE bs = txE (textE bs 1) := by rw [hx, if_pos h3]; rfl
      have hn : txE (textE bs 1) ≠ 0 := by
        rcases textE_cases bs 1 (by omega) (by omega) with e | e | e
        · exact absurd e h3
        · rw [e]; decide
        · rw [e]; decide
      refine (rsbad A m c bs _ w hr fun b w2 hB hr2 hb => ?_).mono fun e w' h => resAny_bad hx3 hn h
      refine (res_bad1 b _ A m c bs _ _ w2 hB hm hmc hm8 hc hr2 (hne b hb) e0 rfl (getI_of e0) rfl hn).mono ?_
      rintro e w' ⟨he, hg⟩; exact ⟨he, below_of_grown hg (Nat.le_of_lt hB.lt)⟩

def RencIs (k : Nat) (ds : List UInt8) (w : World) (e : Ending) (w' : World) : Prop :=
  ∃ v, e = .returned (.tuple #[v, .int .i64 (rsE k ds.length)]) ∧ w'.ownsRow w.heap.size 5 1 v (rencL k ds).length (bys (rencL k ds)) ∧ Below w.heap.size w w'
set_option maxHeartbeats 1600000 in
theorem renc2_any (k : Nat) (D : Option Addr) (d dc : Nat) (ds : List UInt8) (w : World) (hk : k < 256) (hd : ds.length = d) (hD : Rd w D (bys ds)) :
    Calls Try.prog 26 #[resv k D d dc] w (RencIs k ds w) := by
  obtain ⟨g, hg⟩ : ∃ g, w.heap.size = g := ⟨_, rfl⟩
  obtain ⟨w0, hw0⟩ : ∃ w0, w.alloc (.cells #[.int .u8 k, .slice D d dc] 30) = w0 := ⟨_, rfl⟩
  have hB : Blk w0 g [.int .u8 k, .slice D d dc] 30 := by rw [← hw0, ← hg]; exact Blk.new _ _ _
  have hb0 : Below w.heap.size w w0 := by rw [← hw0]; exact (Below.refl _ _).alloc (Nat.le_refl _) _
  have y0 := hB.cell (j := 0) rfl
  have y1 := hB.cell (j := 1) rfl
  have Hd := hide hd
  clear hd
  go_enter Try.func26, Try.ntmps26
  go_wp2_with fail
  go_fit (result_any k D d dc w0 hk)
  rcases rsE_two k d with ⟨hf, hfe⟩ | hfe
  · have hd1 : d ≤ 262144 := by unfold rsP at hf; omega
    have HL := hide (show rencL k ds = rencB k ds by unfold rencL; rw [Hd.out, if_pos hf])
    have HE := hide (show rsE k ds.length = 0 by rw [Hd.out]; exact hfe)
    rw [hfe]
    clear hf hfe
    rintro x w1 ⟨rfl, hb1⟩
    have hB1 := hB.below hb1
    have hb01 := hb0.trans (hb1.mono hb0.size)
    clear y0 y1
    have u0 := hB1.cell (j := 0) rfl
    have hBa := hB1.alloc (.cells #[.int .u8 k] 5)
    have v1 := hBa.cell (j := 1) rfl
    have hk1 := hide (show bys [UInt8.ofNat k] = [.int .u8 (k : Int)] by simp [bys, Nat.mod_eq_of_lt hk])
    have hA1 : Rd (w1.alloc (.cells #[.int .u8 k] 5)) (some ⟨w1.heap.size, 0, none⟩) (bys [UInt8.ofNat k]) := by
      rw [hk1.out]; exact Rd.new1 w1 _ _
    have hb02 : Below w.heap.size w (w1.alloc (.cells #[.int .u8 k] 5)) := hb01.alloc hb01.size _
    have hpt : putTextE ds = 0 ∧ putTextB [UInt8.ofNat k] ds = [UInt8.ofNat k] ++ textB ds := by
      unfold putTextE putTextB; rw [if_pos (by rw [Hd.out]; omega), if_pos (by rw [Hd.out]; omega)]; exact ⟨rfl, rfl⟩
    have Hpt := hide hpt
    clear hpt
    go_wp2_with fail
    go_fit (putText_any (some ⟨w1.heap.size, 0, none⟩) 1 1 [UInt8.ofNat k] D d dc ds _ rfl (by omega) hA1 Hd.out (hD.below hb02))
    rw [Hpt.out.1, Hpt.out.2]
    rintro x w3 ⟨v3, rfl, ho3, hb3⟩
    go_wp2
    go_ret2
    rw [RencIs, HE.out, HL.out]
    exact ⟨_, rfl, own_weak ho3 hb02.size, hb02.trans (hb3.mono hb02.size)⟩
  · have HL := hide (show rencL k ds = [] by
      unfold rencL rsE at *; rw [Hd.out]; split at hfe
      · cases hfe
      · rename_i h; rw [if_neg h])
    have HE := hide (show rsE k ds.length = 42 by rw [Hd.out]; exact hfe)
    rw [hfe]
    clear hfe
    rintro x w1 ⟨rfl, hb1⟩
    go_wp2
    go_ret2
    rw [RencIs, HE.out, HL.out]
    exact ⟨_, rfl, World.ownsRow_nil _ _ _ _, hb0.trans (hb1.mono hb0.size)⟩
set_option maxHeartbeats 1600000 in
theorem rrenc_any (k : Nat) (D : Option Addr) (d dc : Nat) (ds : List UInt8) (w : World) (hk : k < 256) (hd : ds.length = d) (hD : Rd w D (bys ds)) :
    Calls Try.prog 27 #[resv k D d dc] w (RencIs k ds w) := by
  obtain ⟨g, hg⟩ : ∃ g, w.heap.size = g := ⟨_, rfl⟩
  obtain ⟨w0, hw0⟩ : ∃ w0, w.alloc (.cells #[.int .u8 k, .slice D d dc] 30) = w0 := ⟨_, rfl⟩
  have hB : Blk w0 g [.int .u8 k, .slice D d dc] 30 := by rw [← hw0, ← hg]; exact Blk.new _ _ _
  have hb0 : Below w.heap.size w w0 := by rw [← hw0]; exact (Below.refl _ _).alloc (Nat.le_refl _) _
  have y0 := hB.cell (j := 0) rfl
  have y1 := hB.cell (j := 1) rfl
  have Hd := hide hd
  clear hd
  go_enter Try.func27, Try.ntmps27
  go_wp2_with fail
  go_fit (rresult_any k D d dc w0 hk)
  rcases rsE_two k d with ⟨hf, hfe⟩ | hfe
  · have hd1 : d ≤ 262144 := by unfold rsP at hf; omega
    have HL := hide (show rencL k ds = rencB k ds by unfold rencL; rw [Hd.out, if_pos hf])
    have HE := hide (show rsE k ds.length = 0 by rw [Hd.out]; exact hfe)
    rw [hfe]
    clear hf hfe
    rintro x w1 ⟨rfl, hb1⟩
    have hB1 := hB.below hb1
    have hb01 := hb0.trans (hb1.mono hb0.size)
    clear y0 y1
    have u0 := hB1.cell (j := 0) rfl
    have hBa := hB1.alloc (.cells #[.int .u8 k] 5)
    have v1 := hBa.cell (j := 1) rfl
    have hk1 := hide (show bys [UInt8.ofNat k] = [.int .u8 (k : Int)] by simp [bys, Nat.mod_eq_of_lt hk])
    have hA1 : Rd (w1.alloc (.cells #[.int .u8 k] 5)) (some ⟨w1.heap.size, 0, none⟩) (bys [UInt8.ofNat k]) := by
      rw [hk1.out]; exact Rd.new1 w1 _ _
    have hb02 : Below w.heap.size w (w1.alloc (.cells #[.int .u8 k] 5)) := hb01.alloc hb01.size _
    have hpt : putTextE ds = 0 ∧ putTextB [UInt8.ofNat k] ds = [UInt8.ofNat k] ++ textB ds := by
      unfold putTextE putTextB; rw [if_pos (by rw [Hd.out]; omega), if_pos (by rw [Hd.out]; omega)]; exact ⟨rfl, rfl⟩
    have Hpt := hide hpt
    clear hpt
    go_wp2_with fail
    go_fit (rputText_any (some ⟨w1.heap.size, 0, none⟩) 1 1 [UInt8.ofNat k] D d dc ds _ rfl (by omega) hA1 Hd.out (hD.below hb02))
    rw [Hpt.out.1, Hpt.out.2]
    rintro x w3 ⟨v3, rfl, ho3, hb3⟩
    go_wp2
    go_ret2
    rw [RencIs, HE.out, HL.out]
    exact ⟨_, rfl, own_weak ho3 hb02.size, hb02.trans (hb3.mono hb02.size)⟩
  · have HL := hide (show rencL k ds = [] by
      unfold rencL rsE at *; rw [Hd.out]; split at hfe
      · cases hfe
      · rename_i h; rw [if_neg h])
    have HE := hide (show rsE k ds.length = 42 by rw [Hd.out]; exact hfe)
    rw [hfe]
    clear hfe
    rintro x w1 ⟨rfl, hb1⟩
    go_wp2
    go_ret2
    rw [RencIs, HE.out, HL.out]
    exact ⟨_, rfl, World.ownsRow_nil _ _ _ _, hb0.trans (hb1.mono hb0.size)⟩

theorem set2 {w : World} {g : Nat} {T : TypeId} {vs : List Value} (h : Blk w g vs T) (hv : vs.length = 2) (a b : Value) : Blk ((w.setCell ⟨g, 0, none⟩ a).setCell ⟨g, 1, none⟩ b) g [a, b] T := by
  have := (h.set 0 a).set 1 b
  match vs, hv with
  | [_, _], _ => exact this
set_option maxHeartbeats 3200000 in
theorem rres_any (A : Option Addr) (m c : Nat) (bs : List UInt8) (w : World) (hm : bs.length = m) (hmc : m ≤ c) (hm8 : m ≤ 140737488355328) (hc : c ≤ 9223372036854775807) (hr : Rd w A (bys bs)) :
    Calls Try.prog 29 #[.slice A m c] w (ResAny bs w) := by
  obtain ⟨g, hg⟩ : ∃ g, w.heap.size = g := ⟨_, rfl⟩
  obtain ⟨w0, hw0⟩ : ∃ w0, w.alloc (.cells #[.int .u8 0, .slice none 0 0] 30) = w0 := ⟨_, rfl⟩
  have hG0 : Blk w0 g [.int .u8 0, .slice none 0 0] 30 := by rw [← hw0, ← hg]; exact Blk.new w [.int .u8 0, .slice none 0 0] _
  have hb0 : Below w.heap.size w w0 := by rw [← hw0]; exact (Below.refl _ _).alloc (Nat.le_refl _) _
  have hr0 := hr.below hb0
  by_cases h9 : m < 1
  · have hx : reE bs = 10 := by unfold reE; rw [if_pos (by omega)]
    have HF := hide (fun e w' => resAny_bad (w := w) (e := e) (w' := w') hx (by decide))
    have hGn : Blk (w.alloc (.cells #[.int .u8 0, .slice none 0 0] 30)) g [.int .u8 0, .slice none 0 0] 30 := by rw [← hg]; exact Blk.new w [.int .u8 0, .slice none 0 0] _
    have HG := hide hGn
    obtain rfl : m = 0 := by omega
    clear hx hm hw0 hG0 hb0 hr0 hGn h9
    go_enter Try.func29, Try.ntmps29
    go_wp2
    refine bodyPost_ret (results_cell3 rfl rfl HG.out Try.underlying30 rfl (by kernel_rfl)) rfl ?_
    exact HF.out _ _ ⟨rfl, (Below.refl _ _).alloc (Nat.le_refl _) _⟩
  · have h9' : 1 ≤ m := by omega
    have hx : reE bs = if textE bs 1 ≠ 0 then brE (textE bs 1) else if rsE (getV bs 0 1) (textS bs 1).length ≠ 0 then 42 else 0 := by unfold reE; rw [if_neg (by omega)]
    have Hx := hide hx
    have Hm := hide hm
    have Hw0 := hide hw0
    clear hm hx hw0
    go_enter Try.func29, Try.ntmps29
    go_wp2_with fail
    rw [Hw0.out]
    go_fit (rgetText_any A m c bs 1 w0 Hm.out hmc hm8 hc hr0 (by decide) (by decide))
    rintro x w1 ⟨u1, rfl, ho1, hb1⟩
    obtain ⟨A1, c1, rfl, _, hc1, hcm1, hr1, ha1⟩ := own_out ho1
    have hG1 := hG0.below hb1
    have hb01 := hb0.trans (hb1.mono hb0.size)
    have hs1 := hG1.lt
    rcases textE_cases bs 1 (by decide) (by rw [Hm.out]; omega) with e3 | e3 | e3
    · have hb3 := textI_bd e3
      have E3 := hide e3
      rw [e3]
      clear e3
      obtain ⟨t1, ht1⟩ : ∃ t, textI bs 1 = t := ⟨_, rfl⟩
      obtain ⟨ds, hds⟩ : ∃ t, textS bs 1 = t := ⟨_, rfl⟩
      rw [ht1, hds] at hb3
      rw [ht1, hds]
      rw [hds] at ho1 hr1 hc1
      have HT := hide ht1
      have HD := hide hds
      obtain ⟨b1, b2, b3, -, b5⟩ := hb3
      rw [Hm.out] at b3
      obtain ⟨k, hk⟩ : ∃ k, getV bs 0 1 = k := ⟨_, rfl⟩
      have hkl := getV_1 bs 0
      rw [hk] at hkl
      have HK := hide hk
      have Hx5 := hide (show reE bs = if rsE k ds.length ≠ 0 then 42 else 0 by rw [Hx.out, if_neg (by rw [E3.out]; decide), HD.out, HK.out])
      obtain ⟨a, rfl, hcell⟩ := (hr0.below hb1) 0 _ (bys_get (show 0 < bs.length by rw [Hm.out]; omega))
      rw [show a.add 0 = a from rfl, show ((bs[0]'(by rw [Hm.out]; omega)).toNat : Int) = (k : Int) by rw [← HK.out, getV_byte bs (by rw [Hm.out]; omega)]] at hcell
      have hpos : 0 < m := by omega
      clear hk ht1 hds h9
      obtain ⟨v, hv⟩ : ∃ v, w1.heap.size = v := ⟨_, rfl⟩
      obtain ⟨w3, hw3⟩ : ∃ w3, w1.alloc (.cells #[.int .u8 k, .slice A1 ds.length c1] 30) = w3 := ⟨_, rfl⟩
      have hV3 : Blk w3 v [.int .u8 k, .slice A1 ds.length c1] 30 := by rw [← hw3, ← hv]; exact Blk.new w1 [.int .u8 k, .slice A1 ds.length c1] _
      have hb13 : Below w1.heap.size w1 w3 := by rw [← hw3]; exact (Below.refl _ _).alloc (Nat.le_refl _) _
      have hG3 := hG1.below hb13
      have hb03 := hb01.trans (hb13.mono hb01.size)
      have Hw3 := hide hw3
      clear hw3
      go_wp2_with fail
      rw [Hw3.out]
      go_fit (rresult_any k A1 ds.length c1 w3 hkl)
      have s0 := hG0.lt
      rcases rsE_two k ds.length with ⟨hf, hfe⟩ | hfe
      · rw [hfe]
        have HX0 := hide (show reE bs = 0 by rw [Hx5.out, if_neg (by rw [hfe]; decide)])
        clear hf hfe
        rintro x w4 ⟨rfl, hb4⟩
        have hG4 := hG3.below hb4
        have hV4 := hV3.below hb4
        have hb04 := hb03.trans (hb4.mono hb03.size)
        have f0 := hG4.cell (j := 0) rfl
        have f1 := hG4.cell (j := 1) rfl
        have z0 := hG4.frozen 0
        have z1 := hG4.frozen 1
        have y0 := hV4.cell (j := 0) rfl
        have y1 := hV4.cell (j := 1) rfl
        have r1 := (hr1.below hb13 |>.below hb4)
        go_wp2
        refine bodyPost_ret (results_cell3 rfl rfl (set2 hG4 rfl _ _) Try.underlying30 rfl (by kernel_rfl)) rfl ?_
        obtain ⟨q1, q2, q3⟩ := reE_yes HX0.out
        unfold ResAny
        rw [q1, q2, q3, HX0.out, HK.out, HD.out, HT.out]
        exact ⟨A1, c1, rfl, (r1.upset (fun a ha => (ha1 a ha).1) (g := g) (by omega)).upset (fun a ha => (ha1 a ha).1) (g := g) (by omega), (hb04.setCell (le_blk (by omega)) _).setCell (le_blk (by omega)) _⟩
      · rw [hfe]
        have HF := hide (fun e w' => resAny_bad (w := w) (e := e) (w' := w') (show reE bs = 42 by rw [Hx5.out, if_pos (by rw [hfe]; decide)]) (by decide))
        clear hfe
        rintro x w4 ⟨rfl, hb4⟩
        have hG4 := hG3.below hb4
        have hb04 := hb03.trans (hb4.mono hb03.size)
        have f0 := hG4.cell (j := 0) rfl
        have f1 := hG4.cell (j := 1) rfl
        have z0 := hG4.frozen 0
        have z1 := hG4.frozen 1
        go_wp2
        refine bodyPost_ret (results_cell3 rfl rfl (set2 hG4 rfl _ _) Try.underlying30 rfl (by kernel_rfl)) rfl ?_
        exact HF.out _ _ ⟨rfl, (hb04.setCell (le_blk (by omega)) _).setCell (le_blk (by omega)) _⟩
    · have HF := hide (fun e w' => resAny_bad (w := w) (e := e) (w' := w') (show reE bs = 42 by rw [Hx.out, if_pos (by rw [e3]; decide), e3]; rfl) (by decide))
      rw [e3]
      clear e3
      have f0 := hG1.cell (j := 0) rfl
      have f1 := hG1.cell (j := 1) rfl
      have t0 := hG1.frozen 0
      have t1 := hG1.frozen 1
      go_wp2_with fail
      go_fit (broken_any 2 w1 (by decide))
      rintro x wq ⟨rfl, rfl⟩
      go_wp2
      refine bodyPost_ret (results_cell3 rfl rfl (set2 hG1 rfl _ _) Try.underlying30 rfl (by kernel_rfl)) rfl ?_
      exact HF.out _ _ ⟨rfl, (hb01.setCell (le_blk (by omega)) _).setCell (le_blk (by omega)) _⟩
    · have HF := hide (fun e w' => resAny_bad (w := w) (e := e) (w' := w') (show reE bs = 10 by rw [Hx.out, if_pos (by rw [e3]; decide), e3]; rfl) (by decide))
      rw [e3]
      clear e3
      have f0 := hG1.cell (j := 0) rfl
      have f1 := hG1.cell (j := 1) rfl
      have t0 := hG1.frozen 0
      have t1 := hG1.frozen 1
      go_wp2_with fail
      go_fit (broken_any 10 w1 (by decide))
      rintro x wq ⟨rfl, rfl⟩
      go_wp2
      refine bodyPost_ret (results_cell3 rfl rfl (set2 hG1 rfl _ _) Try.underlying30 rfl (by kernel_rfl)) rfl ?_
      exact HF.out _ _ ⟨rfl, (hb01.setCell (le_blk (by omega)) _).setCell (le_blk (by omega)) _⟩
end Go.Proofs.Ytabglphiafeheaa
