/- Texts joined (shake.py). -/
import Derived.Deep.RegionHeld3
import Derived.Test.YtoaodmidegkolaaGreatDoorK91
import Derived.Test.YtoaodmidegkolaaGreatDoorK92
import Derived.Test.YtoaodmidegkolaaGreatDoorK96
import Derived.Test.YtoaodmidegkolaaGreatDoorK98
namespace Go.Proofs.YtoaodmidegkolaaGreatDoor
set_option maxRecDepth 20000
open Go.RowKit Go.Px Go.Maps
set_option linter.unusedVariables false
section
variable {w w' : World} {Q : Nat → Prop} {t f lm bm : Nat} {d : Dk}
theorem holds_any (n s : Nat) (w : World) : Calls Tryz.prog 15 #[.int .i64 (n : Int), .int .i64 (s : Int)] w fun e w' => e = .returned (.bool (decide (2 ≤ n ∧ 72 ≤ s))) ∧ w = w' := by
  by_cases h1 : 2 ≤ n
  · have q1 : decide ((2 : Int) ≤ (n : Int)) = true := decide_eq_true (by omega)
    by_cases h2 : 72 ≤ s
    · have q2 : decide ((72 : Int) ≤ (s : Int)) = true := decide_eq_true (by omega)
      rw [decide_eq_true (show 2 ≤ n ∧ 72 ≤ s from ⟨h1, h2⟩)]
      go_enter Tryz.func15, Tryz.ntmps15
      go_wp2
      go_ret
      first | exact ⟨rfl, rfl⟩ | exact ⟨trivial, rfl⟩ | exact ⟨by simp, rfl⟩
    · have q2 : decide ((72 : Int) ≤ (s : Int)) = false := decide_eq_false (by omega)
      rw [decide_eq_false (show ¬ (2 ≤ n ∧ 72 ≤ s) from fun h => h2 h.2)]
      go_enter Tryz.func15, Tryz.ntmps15
      go_wp2
      go_ret
      first | exact ⟨rfl, rfl⟩ | exact ⟨trivial, rfl⟩ | exact ⟨by simp, rfl⟩
  · have q1 : decide ((2 : Int) ≤ (n : Int)) = false := decide_eq_false (by omega)
    rw [decide_eq_false (show ¬ (2 ≤ n ∧ 72 ≤ s) from fun h => h1 h.1)]
    go_enter Tryz.func15, Tryz.ntmps15
    go_wp2
    go_ret
    first | exact ⟨rfl, rfl⟩ | exact ⟨trivial, rfl⟩ | exact ⟨by simp, rfl⟩
def fits9 (d : Dk) : Prop := 2 ≤ d.fast.length ∧ 72 ≤ d.size
instance (d : Dk) : Decidable (fits9 d) := by unfold fits9; exact inferInstance
def slotI (s : Sup) : Int := ((s.ser % 2 : Nat) : Int)
def saveE (d : Dk) (s : Sup) : Int := if s.E = 0 then (if fits9 d then d.writeE (slotI s) (padB (supB s) d.size) else 80) else s.E
def save9 (d : Dk) (s : Sup) : Dk := if s.E = 0 ∧ fits9 d then d.write (slotI s) (padB (supB s) d.size) else d
theorem E_ok {s : Sup} (h : s.E = 0) : s.Ok := by
  unfold Sup.E at h
  split at h
  · assumption
  · cases h
set_option maxHeartbeats 3200000 in
theorem save_any (h : DIs w Q t f lm bm d) (hQ : ∀ b, w.heap.size ≤ b → Q b) (s : Sup) (hs : s.ser < 18446744073709551616) (hch : s.ch < 4294967296) (ht : Tab w) :
    Calls Tryz.prog 7 #[.pointer (some ⟨t, 0, none⟩), .agg s.cells.toArray] w fun e w' => e = .returned (.int .i64 (saveE d s)) ∧ DIs w' Q t f lm bm (save9 d s) ∧ Fr (OwnB t f lm bm) w w' := by
  obtain ⟨w0, hw0⟩ : ∃ y, w.alloc (.cells s.cells.toArray 25) = y := ⟨_, rfl⟩
  obtain ⟨g, hg⟩ : ∃ g, w.heap.size = g := ⟨_, rfl⟩
  have hG : Blk w0 g s.cells 25 := by rw [← hw0, ← hg]; exact Blk.new w _ _
  have hb0 : Below w.heap.size w w0 := by rw [← hw0]; exact (Below.refl _ _).alloc (Nat.le_refl _) _
  have h0 := h.below hb0
  have hF0 := Fr.of_below (X := OwnB t f lm bm) hb0
  have hSH := shape08_any h0
  have hok := h.ok
  have hN2 := hok.n2
  have hS2 := hok.s2
  have hS1 := hok.s1
  have hN1 := hok.n1
  have hlen : s.E = 0 → (supB s).length = 72 := fun he => supB_len (E_ok he)
  have HEN := hide (fun W (hW : Below w.heap.size w W) => senc_any s W hs hch (Rd.below ht hW))
  have hsl : slotI s = ((s.ser % 2 : Nat) : Int) := rfl
  have HWR := hide (fun W (hD : DIs W Q t f lm bm d) (hQ : ∀ b, W.heap.size ≤ b → Q b) A m c (b : List UInt8) h1 h2 h3 h4 h5 => write08_any hD hQ (slotI s) A m c b (by rw [hsl]; omega) (by rw [hsl]; omega) h1 h2 h3 h4 h5)
  have hcase : (s.E ≠ 0 ∧ saveE d s = s.E ∧ save9 d s = d) ∨ (s.E = 0 ∧ ¬ (2 ≤ d.fast.length ∧ 72 ≤ d.size) ∧ saveE d s = 80 ∧ save9 d s = d) ∨ (s.E = 0 ∧ (2 ≤ d.fast.length ∧ 72 ≤ d.size) ∧ saveE d s = d.writeE (slotI s) (padB (supB s) d.size) ∧ save9 d s = d.write (slotI s) (padB (supB s) d.size)) := by
    unfold saveE save9
    by_cases h1 : s.E = 0
    · by_cases h2 : fits9 d
      · right; right; rw [if_pos h1, if_pos h2, if_pos ⟨h1, h2⟩]; exact ⟨h1, h2, rfl, rfl⟩
      · right; left; rw [if_pos h1, if_neg h2, if_neg (fun h => h2 h.2)]; exact ⟨h1, h2, rfl, rfl⟩
    · left; rw [if_neg h1, if_neg (fun h => h1 h.1)]; exact ⟨h1, rfl, rfl⟩
  obtain ⟨N, hNe⟩ : ∃ N, d.fast.length = N := ⟨_, rfl⟩
  obtain ⟨S, hSe⟩ : ∃ S, d.size = S := ⟨_, rfl⟩
  rw [hNe, hSe] at hSH
  rw [hNe] at hN1 hN2
  rw [hSe] at hS1 hS2
  simp only [hNe, hSe] at hcase
  obtain ⟨er, her⟩ : ∃ er, s.E = er := ⟨_, rfl⟩
  simp only [her] at hcase hlen
  have HHO := hide (holds_any N S)
  have H0 := hide h0
  have HF0 := hide hF0
  have HSH := hide hSH
  rw [her] at HEN
  obtain ⟨sb, hsb⟩ : ∃ y, supB s = y := ⟨_, rfl⟩
  rw [hsb] at HEN hlen hcase
  have hqN : ((N : Int) == 0) = false := by simp; omega
  have hid : s.ser % 2 < 2 := Nat.mod_lt _ (by omega)
  rw [hsl] at HWR
  obtain ⟨si, hsi⟩ : ∃ y, slotI s = y := ⟨_, rfl⟩
  rw [hsi] at hcase
  rw [hsl] at hsi
  have hser : s.ser = s.ser := rfl
  obtain ⟨ser, ep, vw, nm, tp, bs, ar, st, ch⟩ := s
  simp only at hsi hid hs hch HWR
  have hmod : ((ser : Int) % 2) = ((ser % 2 : Nat) : Int) := by simp
  have hmodt : ((ser : Int).tmod 2) = ((ser % 2 : Nat) : Int) := by rw [Int.tmod_eq_emod_of_nonneg (by omega)]; simp
  obtain ⟨pr, hpr⟩ : ∃ y, ser % 2 = y := ⟨_, rfl⟩
  rw [hpr] at hsi hid HWR hmod hmodt
  have Hmod := hide hmod
  have Hmodt := hide hmodt
  have Hsi := hide hsi
  have Hw0 := hide hw0
  have Hg := hide hg
  have Hlen := hide hlen
  have HQ := hide hQ
  have hG' := hG
  rcases hcase with ⟨h1, h2, h3⟩ | ⟨h1, h2, h3, h4⟩ | ⟨h1, h2, h3, h4⟩
  · rw [h2, h3]
    have q1 : (er != 0) = true := by simpa using h1
    clear h0 hF0 hSH her hsb hNe hSe hok h hw0 hg hlen hQ hmod hmodt hsi h1 h2 h3 hser hpr
    go_enter Tryz.func7, Tryz.ntmps7
    go_wp2_with fail
    rw [Hw0.out, Hg.out]
    go_fit HSH.out
    rintro x w1 ⟨rfl, hb1⟩
    have hG1 := hG'.below hb1
    have hb01 := hb0.trans (hb1.mono hb0.size)
    have y0 := Blk.cell hG1 (j := 0) rfl; have y1 := Blk.cell hG1 (j := 1) rfl; have y2 := Blk.cell hG1 (j := 2) rfl; have y3 := Blk.cell hG1 (j := 3) rfl; have y4 := Blk.cell hG1 (j := 4) rfl; have y5 := Blk.cell hG1 (j := 5) rfl; have y6 := Blk.cell hG1 (j := 6) rfl; have y7 := Blk.cell hG1 (j := 7) rfl; have y8 := Blk.cell hG1 (j := 8) rfl
    go_wp2_with fail
    go_fit (HEN.out w1 hb01)
    rintro x w2 ⟨v, rfl, hO, hb2⟩
    obtain ⟨A2, c2, rfl, _⟩ := own_out hO
    clear hO y0 y1 y2 y3 y4 y5 y6 y7 y8
    go_wp2
    go_ret
    have hb12 := hb1.trans (hb2.mono hb1.size)
    exact ⟨rfl, H0.out.below hb12, HF0.out.trans (Fr.of_below hb12)⟩
  · rw [h3, h4]
    rw [decide_eq_false h2] at HHO
    subst h1
    clear h0 hF0 hSH her hsb hNe hSe hok h hw0 hg hlen hQ hmod hmodt hsi h2 h3 h4 hser hpr
    go_enter Tryz.func7, Tryz.ntmps7
    go_wp2_with fail
    rw [Hw0.out, Hg.out]
    go_fit HSH.out
    rintro x w1 ⟨rfl, hb1⟩
    have hG1 := hG'.below hb1
    have hb01 := hb0.trans (hb1.mono hb0.size)
    have y0 := Blk.cell hG1 (j := 0) rfl; have y1 := Blk.cell hG1 (j := 1) rfl; have y2 := Blk.cell hG1 (j := 2) rfl; have y3 := Blk.cell hG1 (j := 3) rfl; have y4 := Blk.cell hG1 (j := 4) rfl; have y5 := Blk.cell hG1 (j := 5) rfl; have y6 := Blk.cell hG1 (j := 6) rfl; have y7 := Blk.cell hG1 (j := 7) rfl; have y8 := Blk.cell hG1 (j := 8) rfl
    go_wp2_with fail
    go_fit (HEN.out w1 hb01)
    rintro x w2 ⟨v, rfl, hO, hb2⟩
    obtain ⟨A2, c2, rfl, _⟩ := own_out hO
    clear hO y0 y1 y2 y3 y4 y5 y6 y7 y8
    go_wp2_with fail
    go_fit (HHO.out _)
    rintro x w3 ⟨rfl, rfl⟩
    go_wp2
    go_ret
    have hb12 := hb1.trans (hb2.mono hb1.size)
    exact ⟨rfl, H0.out.below hb12, HF0.out.trans (Fr.of_below hb12)⟩
  · rw [h3, h4]
    rw [decide_eq_true h2] at HHO
    subst h1
    rw [Hlen.out rfl] at HEN
    have HWR2 := HWR
    have HS2 := hide (And.intro (Hlen.out rfl) (And.intro hS1 hS2))
    rw [← Hsi.out]
    clear h0 hF0 hSH her hsb hNe hSe hok h hw0 hg hlen hQ hmod hmodt hsi h2 h3 h4 hser hpr
    go_enter Tryz.func7, Tryz.ntmps7
    go_wp2_with fail
    rw [Hw0.out, Hg.out]
    go_fit HSH.out
    rintro x w1 ⟨rfl, hb1⟩
    have hG1 := hG'.below hb1
    have hb01 := hb0.trans (hb1.mono hb0.size)
    have y0 := Blk.cell hG1 (j := 0) rfl; have y1 := Blk.cell hG1 (j := 1) rfl; have y2 := Blk.cell hG1 (j := 2) rfl; have y3 := Blk.cell hG1 (j := 3) rfl; have y4 := Blk.cell hG1 (j := 4) rfl; have y5 := Blk.cell hG1 (j := 5) rfl; have y6 := Blk.cell hG1 (j := 6) rfl; have y7 := Blk.cell hG1 (j := 7) rfl; have y8 := Blk.cell hG1 (j := 8) rfl
    go_wp2_with fail
    go_fit (HEN.out w1 hb01)
    rintro x w2 ⟨v, rfl, hO, hb2⟩
    obtain ⟨A2, c2, rfl, _, hc2, hcm2, hr2, ha2⟩ := own_out hO
    have hb02 := hb01.trans (hb2.mono hb01.size)
    have hG2 := hG1.below hb2
    have HPD := hide (fpad_any A2 72 c2 sb S w2 HS2.out.1 (by omega) hc2 hr2 HS2.out.2.1 (by have := HS2.out.2.2; omega))
    clear hO y0 y1 y2 y3 y4 y5 y6 y7 y8 hr2 ha2 hG1
    go_wp2_with fail
    go_fit (HHO.out _)
    rintro x w3 ⟨rfl, rfl⟩
    go_wp2_with fail
    go_fit HPD.out
    rintro x w3 ⟨v, rfl, hO, hb3⟩
    obtain ⟨A3, c3, rfl, hl3, hc3, hcm3, hr3, ha3⟩ := own_out hO
    unfold maxLen at hcm3
    rw [bys_length, Nat.mul_one] at hl3
    have hb13 := hb1.trans ((hb2.trans (hb3.mono hb2.size)).mono hb1.size)
    have hb03 := hb02.trans (hb3.mono hb02.size)
    have hD3 := H0.out.below hb13
    have hG3 := hG2.below hb3
    have y0 := hG3.cell (j := 0) rfl
    have hz3 := hb03.size
    have hlt := H0.out.lts
    have hsz := hb13.size
    have HW := hide (HWR2.out w3 hD3 (fun b hb => HQ.out b (by omega)) A3 _ c3 (padB sb S) hl3 hc3 hcm3 hr3 (fun _ a ha hq => by have := (ha3 a ha).1; have hz2 := (hb1.trans (hb2.mono hb1.size)).size; rcases hq with e | e | e | e <;> omega))
    have HFB := hide (HF0.out.trans (Fr.of_below hb13))
    have hm1 := Hmod.out
    have hm2 := Hmodt.out
    clear hO hr3 ha3 hG2 hG3 hl3
    go_wp2_with fail
    go_fit HW.out
    rintro x w4 ⟨rfl, hD4, hF4⟩
    have HD4 := hide (And.intro hD4 hF4)
    clear hD4 hF4 y0 hm1 hm2
    go_wp2
    go_ret
    exact ⟨rfl, HD4.out.1, HFB.out.trans HD4.out.2⟩
end
end Go.Proofs.YtoaodmidegkolaaGreatDoor
namespace Go.Proofs.YtoaodmidegkolaaGreatDoor
set_option maxRecDepth 20000
open Go.RowKit Go.Px Go.Maps
set_option linter.unusedVariables false
section
variable {w w' : World} {Q : Nat → Prop} {t f lm bm : Nat} {d : Dk}
theorem readB_le9 (ok : d.Ok) (i : Nat) : (d.readB (i : Int) 1).length ≤ 8192 := by
  unfold Dk.readB
  split
  · rename_i he
    unfold Dk.readE at he
    split at he
    · rename_i hin
      have h1 := hin.1
      have h2 := hin.2.2.2
      have h3 := hin.2.2.1
      rw [Int.toNat_natCast, show (1 : Int).toNat = 1 from rfl, Dk.flat_len ok (by omega)]
      have := ok.s2
      omega
    · cases he
  · simp
def slotV (d : Dk) (i : Nat) : Option Sup := if d.readE (i : Int) 1 = 0 ∧ sdecE (d.readB (i : Int) 1) = 0 ∧ (sdecV (d.readB (i : Int) 1)).ser % 2 = i then some (sdecV (d.readB (i : Int) 1)) else none
set_option maxHeartbeats 3200000 in
theorem slot_any (h : DIs w Q t f lm bm d) (i : Nat) (hi : i ≤ 65536) (ht : Tab w) :
    Calls Tryz.prog 25 #[.pointer (some ⟨t, 0, none⟩), .int .i64 (i : Int)] w fun e w' => e = .returned (.tuple #[.agg ((slotV d i).getD sup0).cells.toArray, .bool (slotV d i).isSome]) ∧ Below w.heap.size w w' := by
  obtain ⟨w0, hw0⟩ : ∃ y, w.alloc (.cells #[.int .u64 0, .int .i64 0, .int .i64 0, .int .i64 0, .int .i64 0, .int .i64 0, .int .i64 0, .int .i64 0, .int .u32 0] 25) = y := ⟨_, rfl⟩
  obtain ⟨g, hg⟩ : ∃ g, w.heap.size = g := ⟨_, rfl⟩
  have hG : Blk w0 g sup0C 25 := by rw [← hw0, ← hg]; exact Blk.new w _ _
  have hb0 : Below g w w0 := by rw [← hw0, ← hg]; exact (Below.refl _ _).alloc (Nat.le_refl _) _
  have hz0 : w0.heap.size = g + 1 := by rw [← hw0, ← hg]; simp
  have hb0' : Below w.heap.size w w0 := by rw [hg]; exact hb0
  have hRD := read08_any (h.below hb0') (i : Int) 1 (by omega) (by omega) (by omega) (by omega)
  have hle := readB_le9 h.ok i
  have hSV : slotV d i = if d.readE (i : Int) 1 = 0 ∧ sdecE (d.readB (i : Int) 1) = 0 ∧ (sdecV (d.readB (i : Int) 1)).ser % 2 = i then some (sdecV (d.readB (i : Int) 1)) else none := rfl
  generalize slotV d i = R at hSV ⊢
  generalize d.readE (i : Int) 1 = er at hSV hRD
  generalize d.readB (i : Int) 1 = b at hSV hRD hle
  have hDC := fun A c W (h1 : b.length ≤ c) (h2 : c ≤ 9223372036854775807) (h3 : Rd W A (bys b)) (h4 : Tab W) => sdec_any A b.length c b W rfl (by omega) h1 h2 h3 h4
  generalize sdecE b = de at hSV hDC
  generalize sdecV b = V at hSV hDC
  obtain ⟨ser, ep, vw, nm, tp, bs, ar, st, ch⟩ := V
  simp only at hSV
  obtain ⟨l, hl⟩ : ∃ y, b.length = y := ⟨_, rfl⟩
  simp only [hl] at hRD hDC
  have hmod : ((ser : Int) % 2) = ((ser % 2 : Nat) : Int) := by simp
  have hmodt : ((ser : Int).tmod 2) = ((ser % 2 : Nat) : Int) := by rw [Int.tmod_eq_emod_of_nonneg (by omega)]; simp
  obtain ⟨pr, hpr⟩ : ∃ y, ser % 2 = y := ⟨_, rfl⟩
  rw [hpr] at hSV hmod hmodt
  have hsC : ∀ (X : World) (q : Nat) (u : Value), Below w.heap.size w X → Below w.heap.size w (X.setCell ⟨g, q, none⟩ u) := fun X q u hX => hX.setCell (by show w.heap.size ≤ g; omega) _
  have HsC := hide hsC
  have hTab : ∀ W, Below w.heap.size w W → Tab W := fun W hW => Rd.below ht hW
  have HTab := hide hTab
  have HRD := hide hRD
  have HDC := hide hDC
  have Hmod := hide hmod
  have Hmodt := hide hmodt
  have Hw0 := hide hw0
  have Hg := hide hg
  have Hz0 := hide hz0
  have hb := hb0'
  clear hRD hDC hmod hmodt hw0 hg hz0 hle hl hpr hsC hTab ht h hb0 hb0'
  by_cases h1 : er = 0
  · subst h1
    by_cases h2 : de = 0
    · subst h2
      have hm1 := Hmod.out
      have hm2 := Hmodt.out
      by_cases h3 : pr = i
      · rw [if_pos ⟨rfl, rfl, h3⟩] at hSV
        subst hSV
        have q3 : ((pr : Int) != (i : Int)) = false := by subst h3; simp
        go_enter Tryz.func25, Tryz.ntmps25
        go_wp2_with fail
        rw [Hw0.out]
        try rw [Hg.out]
        go_fit HRD.out
        rintro x w1 ⟨A1, c1, rfl, hl1, hc1, hr1, _, hb1⟩
        have hG1 := hG.below hb1
        have hb01 := hb.trans (hb1.mono hb.size)
        clear HRD
        go_wp2_with fail
        go_fit (HDC.out A1 c1 w1 hl1 hc1 hr1 (HTab.out _ hb01))
        rintro x w2 ⟨rfl, hb2⟩
        have hG2 := hG1.below hb2
        have hb02 := hb01.trans (hb2.mono hb01.size)
        clear hG1 hr1 HDC
        have hG3 := hG2.alloc (.cells #[.int .u64 (ser : Int), .int .i64 ep, .int .i64 vw, .int .i64 nm, .int .i64 tp, .int .i64 bs, .int .i64 ar, .int .i64 st, .int .u32 (ch : Int)] 25)
        have hbX := hb02.alloc hb02.size (.cells #[.int .u64 (ser : Int), .int .i64 ep, .int .i64 vw, .int .i64 nm, .int .i64 tp, .int .i64 bs, .int .i64 ar, .int .i64 st, .int .u32 (ch : Int)] 25)
        have hN := Blk.new w2 [.int .u64 (ser : Int), .int .i64 ep, .int .i64 vw, .int .i64 nm, .int .i64 tp, .int .i64 bs, .int .i64 ar, .int .i64 st, .int .u32 (ch : Int)] 25
        have x0 := Blk.cell hN (j := 0) rfl; have x1 := Blk.cell hN (j := 1) rfl; have x2 := Blk.cell hN (j := 2) rfl; have x3 := Blk.cell hN (j := 3) rfl; have x4 := Blk.cell hN (j := 4) rfl; have x5 := Blk.cell hN (j := 5) rfl; have x6 := Blk.cell hN (j := 6) rfl; have x7 := Blk.cell hN (j := 7) rfl; have x8 := Blk.cell hN (j := 8) rfl
        clear hG2 hN
        have y0 := Blk.cell hG3 (j := 0) rfl; have y1 := Blk.cell hG3 (j := 1) rfl; have y2 := Blk.cell hG3 (j := 2) rfl; have y3 := Blk.cell hG3 (j := 3) rfl; have y4 := Blk.cell hG3 (j := 4) rfl; have y5 := Blk.cell hG3 (j := 5) rfl; have y6 := Blk.cell hG3 (j := 6) rfl; have y7 := Blk.cell hG3 (j := 7) rfl; have y8 := Blk.cell hG3 (j := 8) rfl
        have z0 := hG3.frozen 0; have z1 := hG3.frozen 1; have z2 := hG3.frozen 2; have z3 := hG3.frozen 3; have z4 := hG3.frozen 4; have z5 := hG3.frozen 5; have z6 := hG3.frozen 6; have z7 := hG3.frozen 7; have z8 := hG3.frozen 8
        have HX := hide (And.intro hG3 hbX)
        clear hG3 hbX
        go_wp2
        have hG3 := HX.out.1
        refine bodyPost_ret (results_cell2 rfl rfl (((((((((hG3.set 0 _).set 1 _).set 2 _).set 3 _).set 4 _).set 5 _).set 6 _).set 7 _).set 8 _) Tryz.underlying25 rfl (by kernel_rfl)) rfl ?_
        exact ⟨rfl, (HsC.out _ _ _ (HsC.out _ _ _ (HsC.out _ _ _ (HsC.out _ _ _ (HsC.out _ _ _ (HsC.out _ _ _ (HsC.out _ _ _ (HsC.out _ _ _ (HsC.out _ _ _ HX.out.2)))))))))⟩
      · rw [if_neg (fun h => h3 h.2.2)] at hSV
        subst hSV
        have q3 : ((pr : Int) != (i : Int)) = true := by simp; omega
        go_enter Tryz.func25, Tryz.ntmps25
        go_wp2_with fail
        rw [Hw0.out]
        try rw [Hg.out]
        go_fit HRD.out
        rintro x w1 ⟨A1, c1, rfl, hl1, hc1, hr1, _, hb1⟩
        have hG1 := hG.below hb1
        have hb01 := hb.trans (hb1.mono hb.size)
        clear HRD
        go_wp2_with fail
        go_fit (HDC.out A1 c1 w1 hl1 hc1 hr1 (HTab.out _ hb01))
        rintro x w2 ⟨rfl, hb2⟩
        have hG2 := hG1.below hb2
        have hb02 := hb01.trans (hb2.mono hb01.size)
        clear hG1 hr1 HDC
        have hG3 := hG2.alloc (.cells #[.int .u64 (ser : Int), .int .i64 ep, .int .i64 vw, .int .i64 nm, .int .i64 tp, .int .i64 bs, .int .i64 ar, .int .i64 st, .int .u32 (ch : Int)] 25)
        have hbX := hb02.alloc hb02.size (.cells #[.int .u64 (ser : Int), .int .i64 ep, .int .i64 vw, .int .i64 nm, .int .i64 tp, .int .i64 bs, .int .i64 ar, .int .i64 st, .int .u32 (ch : Int)] 25)
        clear hG2
        have y0 := Blk.cell hG3 (j := 0) rfl; have y1 := Blk.cell hG3 (j := 1) rfl; have y2 := Blk.cell hG3 (j := 2) rfl; have y3 := Blk.cell hG3 (j := 3) rfl; have y4 := Blk.cell hG3 (j := 4) rfl; have y5 := Blk.cell hG3 (j := 5) rfl; have y6 := Blk.cell hG3 (j := 6) rfl; have y7 := Blk.cell hG3 (j := 7) rfl; have y8 := Blk.cell hG3 (j := 8) rfl
        have z0 := hG3.frozen 0; have z1 := hG3.frozen 1; have z2 := hG3.frozen 2; have z3 := hG3.frozen 3; have z4 := hG3.frozen 4; have z5 := hG3.frozen 5; have z6 := hG3.frozen 6; have z7 := hG3.frozen 7; have z8 := hG3.frozen 8
        have HX := hide (And.intro hG3 hbX)
        clear hG3 hbX
        go_wp2
        have hG3 := HX.out.1
        refine bodyPost_ret (results_cell2 rfl rfl (((((((((hG3.set 0 _).set 1 _).set 2 _).set 3 _).set 4 _).set 5 _).set 6 _).set 7 _).set 8 _) Tryz.underlying25 rfl (by kernel_rfl)) rfl ?_
        exact ⟨rfl, (HsC.out _ _ _ (HsC.out _ _ _ (HsC.out _ _ _ (HsC.out _ _ _ (HsC.out _ _ _ (HsC.out _ _ _ (HsC.out _ _ _ (HsC.out _ _ _ (HsC.out _ _ _ HX.out.2)))))))))⟩
    · rw [if_neg (fun h => h2 h.2.1)] at hSV
      subst hSV
      have q2 : (de != 0) = true := by simpa using h2
      go_enter Tryz.func25, Tryz.ntmps25
      go_wp2_with fail
      rw [Hw0.out]
      try rw [Hg.out]
      go_fit HRD.out
      rintro x w1 ⟨A1, c1, rfl, hl1, hc1, hr1, _, hb1⟩
      have hG1 := hG.below hb1
      have hb01 := hb.trans (hb1.mono hb.size)
      clear HRD
      go_wp2_with fail
      go_fit (HDC.out A1 c1 w1 hl1 hc1 hr1 (HTab.out _ hb01))
      rintro x w2 ⟨rfl, hb2⟩
      have hG2 := hG1.below hb2
      have hb02 := hb01.trans (hb2.mono hb01.size)
      clear hG1 hr1 HDC
      have hG3 := hG2.alloc (.cells #[.int .u64 (ser : Int), .int .i64 ep, .int .i64 vw, .int .i64 nm, .int .i64 tp, .int .i64 bs, .int .i64 ar, .int .i64 st, .int .u32 (ch : Int)] 25)
      have hbX := hb02.alloc hb02.size (.cells #[.int .u64 (ser : Int), .int .i64 ep, .int .i64 vw, .int .i64 nm, .int .i64 tp, .int .i64 bs, .int .i64 ar, .int .i64 st, .int .u32 (ch : Int)] 25)
      clear hG2
      have y0 := Blk.cell hG3 (j := 0) rfl; have y1 := Blk.cell hG3 (j := 1) rfl; have y2 := Blk.cell hG3 (j := 2) rfl; have y3 := Blk.cell hG3 (j := 3) rfl; have y4 := Blk.cell hG3 (j := 4) rfl; have y5 := Blk.cell hG3 (j := 5) rfl; have y6 := Blk.cell hG3 (j := 6) rfl; have y7 := Blk.cell hG3 (j := 7) rfl; have y8 := Blk.cell hG3 (j := 8) rfl
      have z0 := hG3.frozen 0; have z1 := hG3.frozen 1; have z2 := hG3.frozen 2; have z3 := hG3.frozen 3; have z4 := hG3.frozen 4; have z5 := hG3.frozen 5; have z6 := hG3.frozen 6; have z7 := hG3.frozen 7; have z8 := hG3.frozen 8
      have HX := hide (And.intro hG3 hbX)
      clear hG3 hbX
      go_wp2
      have hG3 := HX.out.1
      refine bodyPost_ret (results_cell2 rfl rfl (((((((((hG3.set 0 _).set 1 _).set 2 _).set 3 _).set 4 _).set 5 _).set 6 _).set 7 _).set 8 _) Tryz.underlying25 rfl (by kernel_rfl)) rfl ?_
      exact ⟨rfl, (HsC.out _ _ _ (HsC.out _ _ _ (HsC.out _ _ _ (HsC.out _ _ _ (HsC.out _ _ _ (HsC.out _ _ _ (HsC.out _ _ _ (HsC.out _ _ _ (HsC.out _ _ _ HX.out.2)))))))))⟩
  · rw [if_neg (fun h => h1 h.1)] at hSV
    subst hSV
    have q1 : (er != 0) = true := by simpa using h1
    go_enter Tryz.func25, Tryz.ntmps25
    go_wp2_with fail
    rw [Hw0.out]
    try rw [Hg.out]
    go_fit HRD.out
    rintro x w1 ⟨A1, c1, rfl, hl1, hc1, hr1, _, hb1⟩
    have hG1 := hG.below hb1
    have hb01 := hb.trans (hb1.mono hb.size)
    clear HRD
    have hG3 := hG1
    have hbX := hb01
    clear hG1
    have y0 := Blk.cell hG3 (j := 0) rfl; have y1 := Blk.cell hG3 (j := 1) rfl; have y2 := Blk.cell hG3 (j := 2) rfl; have y3 := Blk.cell hG3 (j := 3) rfl; have y4 := Blk.cell hG3 (j := 4) rfl; have y5 := Blk.cell hG3 (j := 5) rfl; have y6 := Blk.cell hG3 (j := 6) rfl; have y7 := Blk.cell hG3 (j := 7) rfl; have y8 := Blk.cell hG3 (j := 8) rfl
    have z0 := hG3.frozen 0; have z1 := hG3.frozen 1; have z2 := hG3.frozen 2; have z3 := hG3.frozen 3; have z4 := hG3.frozen 4; have z5 := hG3.frozen 5; have z6 := hG3.frozen 6; have z7 := hG3.frozen 7; have z8 := hG3.frozen 8
    have HX := hide (And.intro hG3 hbX)
    clear hG3 hbX
    go_wp2
    have hG3 := HX.out.1
    refine bodyPost_ret (results_cell2 rfl rfl (((((((((hG3.set 0 _).set 1 _).set 2 _).set 3 _).set 4 _).set 5 _).set 6 _).set 7 _).set 8 _) Tryz.underlying25 rfl (by kernel_rfl)) rfl ?_
    exact ⟨rfl, (HsC.out _ _ _ (HsC.out _ _ _ (HsC.out _ _ _ (HsC.out _ _ _ (HsC.out _ _ _ (HsC.out _ _ _ (HsC.out _ _ _ (HsC.out _ _ _ (HsC.out _ _ _ HX.out.2)))))))))⟩
end
end Go.Proofs.YtoaodmidegkolaaGreatDoor
namespace Go.Proofs.YtoaodmidegkolaaGreatDoor
set_option maxRecDepth 20000
open Go.RowKit Go.Px Go.Maps
set_option linter.unusedVariables false
section
variable {w w' : World} {Q : Nat → Prop} {t f lm bm : Nat} {d : Dk}
def later (b r : Option Sup) : Option Sup :=
  match r with
  | none => b
  | some s => match b with
    | none => some s
    | some x => if x.ser < s.ser then some s else some x
def bestAt (d : Dk) : Nat → Option Sup
  | 0 => none
  | k + 1 => later (bestAt d k) (slotV d k)
def loadE (d : Dk) : Int := if fits9 d then (if (bestAt d 2).isSome then 0 else 91) else 80
def loadV (d : Dk) : Sup := if fits9 d then (bestAt d 2).getD sup0 else sup0
set_option maxHeartbeats 6400000 in
theorem load_any (h : DIs w Q t f lm bm d) (ht : Tab w) :
    Calls Tryz.prog 10 #[.pointer (some ⟨t, 0, none⟩)] w fun e w' => e = .returned (.tuple #[.agg (loadV d).cells.toArray, .int .i64 (loadE d)]) ∧ Below w.heap.size w w' := by
  obtain ⟨w0, hw0⟩ : ∃ y, w.alloc (.cells #[.int .u64 0, .int .i64 0, .int .i64 0, .int .i64 0, .int .i64 0, .int .i64 0, .int .i64 0, .int .i64 0, .int .u32 0] 25) = y := ⟨_, rfl⟩
  obtain ⟨g, hg⟩ : ∃ g, w.heap.size = g := ⟨_, rfl⟩
  have hG : Blk w0 g sup0C 25 := by rw [← hw0, ← hg]; exact Blk.new w _ _
  have hb0 : Below w.heap.size w w0 := by rw [← hw0]; exact (Below.refl _ _).alloc (Nat.le_refl _) _
  have hSH := shape08_any (h.below hb0)
  have hN2 := h.ok.n2
  have hN1 := h.ok.n1
  have hS2 := h.ok.s2
  have HSL := hide (fun W (hW : Below w.heap.size w W) (i : Nat) (hi : i ≤ 65536) => slot_any (h.below hW) i hi (Rd.below ht hW))
  have hcase : (¬ (2 ≤ d.fast.length ∧ 72 ≤ d.size) ∧ loadE d = 80 ∧ loadV d = sup0) ∨ ((2 ≤ d.fast.length ∧ 72 ≤ d.size) ∧ loadE d = (if (bestAt d 2).isSome then 0 else 91) ∧ loadV d = (bestAt d 2).getD sup0) := by
    unfold loadE loadV
    by_cases h2 : fits9 d
    · right; rw [if_pos h2, if_pos h2]; exact ⟨h2, rfl, rfl⟩
    · left; rw [if_neg h2, if_neg h2]; exact ⟨h2, rfl, rfl⟩
  obtain ⟨N, hNe⟩ : ∃ N, d.fast.length = N := ⟨_, rfl⟩
  obtain ⟨S, hSe⟩ : ∃ S, d.size = S := ⟨_, rfl⟩
  rw [hNe, hSe] at hSH hcase
  rw [hNe] at hN1 hN2
  rw [hSe] at hS2
  have HHO := hide (holds_any N S)
  have HSH := hide hSH
  have hqN : ((N : Int) == 0) = false := by simp; omega
  have hsC : ∀ (X : World) (q : Nat) (u : Value), Below w.heap.size w X → Below w.heap.size w (X.setCell ⟨g, q, none⟩ u) := fun X q u hX => hX.setCell (by show w.heap.size ≤ g; omega) _
  have HsC := hide hsC
  have Hw0 := hide hw0
  have Hg := hide hg
  clear hSH hNe hSe hsC hw0 hg h ht
  rcases hcase with ⟨h1, h2, h3⟩ | ⟨h1, h2, h3⟩
  · rw [h2, h3]
    rw [decide_eq_false h1] at HHO
    clear h1 h2 h3
    go_enter Tryz.func10, Tryz.ntmps10
    go_wp2_with fail
    rw [Hw0.out]
    try rw [Hg.out]
    go_fit HSH.out
    rintro x w1 ⟨rfl, hb1⟩
    have hG3 := hG.below hb1
    have hbX := hb0.trans (hb1.mono hb0.size)
    go_wp2_with fail
    go_fit (HHO.out _)
    rintro x w2 ⟨rfl, rfl⟩
    clear HSH HHO hG
    have y0 := Blk.cell hG3 (j := 0) rfl; have y1 := Blk.cell hG3 (j := 1) rfl; have y2 := Blk.cell hG3 (j := 2) rfl; have y3 := Blk.cell hG3 (j := 3) rfl; have y4 := Blk.cell hG3 (j := 4) rfl; have y5 := Blk.cell hG3 (j := 5) rfl; have y6 := Blk.cell hG3 (j := 6) rfl; have y7 := Blk.cell hG3 (j := 7) rfl; have y8 := Blk.cell hG3 (j := 8) rfl
    have z0 := hG3.frozen 0; have z1 := hG3.frozen 1; have z2 := hG3.frozen 2; have z3 := hG3.frozen 3; have z4 := hG3.frozen 4; have z5 := hG3.frozen 5; have z6 := hG3.frozen 6; have z7 := hG3.frozen 7; have z8 := hG3.frozen 8
    have HX := hide (And.intro hG3 hbX)
    clear hG3 hbX
    go_wp2
    have hG3 := HX.out.1
    refine bodyPost_ret (results_cell2 rfl rfl (((((((((hG3.set 0 _).set 1 _).set 2 _).set 3 _).set 4 _).set 5 _).set 6 _).set 7 _).set 8 _) Tryz.underlying25 rfl (by kernel_rfl)) rfl ?_
    exact ⟨rfl, (HsC.out _ _ _ (HsC.out _ _ _ (HsC.out _ _ _ (HsC.out _ _ _ (HsC.out _ _ _ (HsC.out _ _ _ (HsC.out _ _ _ (HsC.out _ _ _ (HsC.out _ _ _ HX.out.2)))))))))⟩
  · generalize loadE d = LE at h2 ⊢
    generalize loadV d = LV at h3 ⊢
    have H2 := hide h2
    have H3 := hide h3
    rw [decide_eq_true h1] at HHO
    clear h1 h2 h3
    go_enter Tryz.func10, Tryz.ntmps10
    go_wp2_with fail
    rw [Hw0.out]
    try rw [Hg.out]
    go_fit HSH.out
    rintro x w1 ⟨rfl, hb1⟩
    have hG1 := hG.below hb1
    have hbX := hb0.trans (hb1.mono hb0.size)
    go_wp2_with fail
    go_fit (HHO.out _)
    rintro x w2 ⟨rfl, rfl⟩
    obtain ⟨g6, hg6⟩ : ∃ y, w1.heap.size = y := ⟨_, rfl⟩
    obtain ⟨w3, hw3⟩ : ∃ y, w1.alloc (.cells #[.int .u64 0, .int .i64 0, .int .i64 0, .int .i64 0, .int .i64 0, .int .i64 0, .int .i64 0, .int .i64 0, .int .u32 0] 25) = y := ⟨_, rfl⟩
    have h63 : Blk w3 g6 sup0C 25 := by rw [← hw3, ← hg6]; exact Blk.new w1 _ _
    have hb13 : Below w1.heap.size w1 w3 := by rw [← hw3]; exact (Below.refl _ _).alloc (Nat.le_refl _) _
    have hG3 := hG1.below hb13
    have hb03 := hbX.trans (hb13.mono hbX.size)
    have hgt : g < g6 := by rw [← hg6]; exact hG1.lt
    have hwg : w.heap.size ≤ g6 := by rw [← hg6]; exact hbX.size
    have Hne := hide (show g ≠ g6 by omega)
    have hsC6 : ∀ (X : World) (q : Nat) (u : Value), Below w.heap.size w X → Below w.heap.size w (X.setCell ⟨g6, q, none⟩ u) := fun X q u hX => hX.setCell hwg _
    have HsC6 := hide hsC6
    have Hw3 := hide hw3
    have Hg6 := hide hg6
    clear HSH HHO hG hG1 hb1 hb13 hbX hw3 hg6 hsC6 hb0
    go_wp2_with fail
    try rw [Hw3.out]
    try rw [Hg6.out]
    go_loopw [7, 24] (fun v z W => ∃ k : Nat, z = .int .i64 (k : Int) ∧ k ≤ 2 ∧ v = .bool (bestAt d k).isSome ∧ Blk W g6 ((bestAt d k).getD sup0).cells 25 ∧ Blk W g sup0C 25 ∧ Below w.heap.size w W) (fun _ z _ => 2 - (RowKit.intOf z).toNat)
    case atStart => exact ⟨0, rfl, by omega, rfl, h63, hG3, hb03⟩
    case round =>
      clear h63 hG3 hb03
      obtain ⟨k, rfl, hk, rfl, h6, hGk, hbk⟩ := hrel
      by_cases hlt : k < 2
      · have hsl := HSL.out wr hbk k (by omega)
        have hnx : bestAt d (k + 1) = later (bestAt d k) (slotV d k) := rfl
        generalize slotV d k = R at hsl hnx
        generalize bestAt d k = B at hnx h6
        have HSK := hide hsl
        have hw0k := hbk.size
        clear hsl
        cases R with
        | none =>
          have Hnx := hide (show bestAt d (k + 1) = B from hnx)
          clear hnx
          go_wp2_with fail
          go_fit HSK.out
          rintro x w2 ⟨rfl, hb2⟩
          have h62 := h6.below hb2
          have hG2 := hGk.below hb2
          have hb02 := hbk.trans (hb2.mono hbk.size)
          have h6x := h62.alloc (.cells sup0C.toArray 25)
          have hGx := hG2.alloc (.cells sup0C.toArray 25)
          have hbx := hb02.alloc hb02.size (.cells sup0C.toArray 25)
          have HX := hide (And.intro h6x (And.intro hGx hbx))
          clear h6 hGk hbk h62 hG2 h6x hGx hbx HSK hb2 hb02
          go_wp2
          go_roundw
          case rel => exact ⟨k + 1, by go_num, by omega, by rw [Hnx.out], by rw [Hnx.out]; exact HX.out.1, HX.out.2.1, HX.out.2.2⟩
          case measure => simp [RowKit.intOf]; omega
        | some s =>
          obtain ⟨ser, ep, vw, nm, tp, bs, ar, st, ch⟩ := s
          cases B with
          | none =>
            have Hnx := hide (show bestAt d (k + 1) = some ⟨ser, ep, vw, nm, tp, bs, ar, st, ch⟩ from hnx)
            clear hnx
            go_wp2_with fail
            go_fit HSK.out
            rintro x w2 ⟨rfl, hb2⟩
            have h62 := h6.below hb2
            have hG2 := hGk.below hb2
            have hb02 := hbk.trans (hb2.mono hbk.size)
            clear h6 hGk hbk HSK hb2
            have h6x := h62.alloc (.cells #[.int .u64 (ser : Int), .int .i64 ep, .int .i64 vw, .int .i64 nm, .int .i64 tp, .int .i64 bs, .int .i64 ar, .int .i64 st, .int .u32 (ch : Int)] 25)
            have hGx := hG2.alloc (.cells #[.int .u64 (ser : Int), .int .i64 ep, .int .i64 vw, .int .i64 nm, .int .i64 tp, .int .i64 bs, .int .i64 ar, .int .i64 st, .int .u32 (ch : Int)] 25)
            have hbx := hb02.alloc hb02.size (.cells #[.int .u64 (ser : Int), .int .i64 ep, .int .i64 vw, .int .i64 nm, .int .i64 tp, .int .i64 bs, .int .i64 ar, .int .i64 st, .int .u32 (ch : Int)] 25)
            have hN := Blk.new w2 [.int .u64 (ser : Int), .int .i64 ep, .int .i64 vw, .int .i64 nm, .int .i64 tp, .int .i64 bs, .int .i64 ar, .int .i64 st, .int .u32 (ch : Int)] 25
            have x0 := Blk.cell hN (j := 0) rfl; have x1 := Blk.cell hN (j := 1) rfl; have x2 := Blk.cell hN (j := 2) rfl; have x3 := Blk.cell hN (j := 3) rfl; have x4 := Blk.cell hN (j := 4) rfl; have x5 := Blk.cell hN (j := 5) rfl; have x6 := Blk.cell hN (j := 6) rfl; have x7 := Blk.cell hN (j := 7) rfl; have x8 := Blk.cell hN (j := 8) rfl
            have y0 := Blk.cell h6x (j := 0) rfl; have y1 := Blk.cell h6x (j := 1) rfl; have y2 := Blk.cell h6x (j := 2) rfl; have y3 := Blk.cell h6x (j := 3) rfl; have y4 := Blk.cell h6x (j := 4) rfl; have y5 := Blk.cell h6x (j := 5) rfl; have y6 := Blk.cell h6x (j := 6) rfl; have y7 := Blk.cell h6x (j := 7) rfl; have y8 := Blk.cell h6x (j := 8) rfl
            have z0 := h6x.frozen 0; have z1 := h6x.frozen 1; have z2 := h6x.frozen 2; have z3 := h6x.frozen 3; have z4 := h6x.frozen 4; have z5 := h6x.frozen 5; have z6 := h6x.frozen 6; have z7 := h6x.frozen 7; have z8 := h6x.frozen 8
            have HX := hide (And.intro h6x (And.intro hGx hbx))
            clear h6x hGx hbx hN h62 hG2
            go_wp2
            go_roundw
            case rel => exact ⟨k + 1, by go_num, by omega, by rw [Hnx.out]; rfl, by rw [Hnx.out]; exact (((((((((HX.out.1.set 0 _).set 1 _).set 2 _).set 3 _).set 4 _).set 5 _).set 6 _).set 7 _).set 8 _), (((((((((HX.out.2.1.apart Hne.out 0 _).apart Hne.out 1 _).apart Hne.out 2 _).apart Hne.out 3 _).apart Hne.out 4 _).apart Hne.out 5 _).apart Hne.out 6 _).apart Hne.out 7 _).apart Hne.out 8 _), (HsC6.out _ _ _ (HsC6.out _ _ _ (HsC6.out _ _ _ (HsC6.out _ _ _ (HsC6.out _ _ _ (HsC6.out _ _ _ (HsC6.out _ _ _ (HsC6.out _ _ _ (HsC6.out _ _ _ HX.out.2.2)))))))))⟩
            case measure => simp [RowKit.intOf]; omega
          | some x =>
            obtain ⟨ser', ep', vw', nm', tp', bs', ar', st', ch'⟩ := x
            by_cases hgt : ser' < ser
            · have Hnx := hide (show bestAt d (k + 1) = some ⟨ser, ep, vw, nm, tp, bs, ar, st, ch⟩ from hnx.trans (if_pos hgt))
              have qs : decide (ser' < ser) = true := decide_eq_true hgt
              have qi : decide ((ser' : Int) < (ser : Int)) = true := decide_eq_true (by omega)
              clear hnx
              go_wp2_with fail
              go_fit HSK.out
              rintro x w2 ⟨rfl, hb2⟩
              have h62 := h6.below hb2
              have hG2 := hGk.below hb2
              have hb02 := hbk.trans (hb2.mono hbk.size)
              clear h6 hGk hbk HSK hb2
              have h6x := h62.alloc (.cells #[.int .u64 (ser : Int), .int .i64 ep, .int .i64 vw, .int .i64 nm, .int .i64 tp, .int .i64 bs, .int .i64 ar, .int .i64 st, .int .u32 (ch : Int)] 25)
              have hGx := hG2.alloc (.cells #[.int .u64 (ser : Int), .int .i64 ep, .int .i64 vw, .int .i64 nm, .int .i64 tp, .int .i64 bs, .int .i64 ar, .int .i64 st, .int .u32 (ch : Int)] 25)
              have hbx := hb02.alloc hb02.size (.cells #[.int .u64 (ser : Int), .int .i64 ep, .int .i64 vw, .int .i64 nm, .int .i64 tp, .int .i64 bs, .int .i64 ar, .int .i64 st, .int .u32 (ch : Int)] 25)
              have hN := Blk.new w2 [.int .u64 (ser : Int), .int .i64 ep, .int .i64 vw, .int .i64 nm, .int .i64 tp, .int .i64 bs, .int .i64 ar, .int .i64 st, .int .u32 (ch : Int)] 25
              have x0 := Blk.cell hN (j := 0) rfl; have x1 := Blk.cell hN (j := 1) rfl; have x2 := Blk.cell hN (j := 2) rfl; have x3 := Blk.cell hN (j := 3) rfl; have x4 := Blk.cell hN (j := 4) rfl; have x5 := Blk.cell hN (j := 5) rfl; have x6 := Blk.cell hN (j := 6) rfl; have x7 := Blk.cell hN (j := 7) rfl; have x8 := Blk.cell hN (j := 8) rfl
              have y0 := Blk.cell h6x (j := 0) rfl; have y1 := Blk.cell h6x (j := 1) rfl; have y2 := Blk.cell h6x (j := 2) rfl; have y3 := Blk.cell h6x (j := 3) rfl; have y4 := Blk.cell h6x (j := 4) rfl; have y5 := Blk.cell h6x (j := 5) rfl; have y6 := Blk.cell h6x (j := 6) rfl; have y7 := Blk.cell h6x (j := 7) rfl; have y8 := Blk.cell h6x (j := 8) rfl
              have z0 := h6x.frozen 0; have z1 := h6x.frozen 1; have z2 := h6x.frozen 2; have z3 := h6x.frozen 3; have z4 := h6x.frozen 4; have z5 := h6x.frozen 5; have z6 := h6x.frozen 6; have z7 := h6x.frozen 7; have z8 := h6x.frozen 8
              have HX := hide (And.intro h6x (And.intro hGx hbx))
              clear h6x hGx hbx hN h62 hG2
              go_wp2
              go_roundw
              case rel => exact ⟨k + 1, by go_num, by omega, by rw [Hnx.out]; rfl, by rw [Hnx.out]; exact (((((((((HX.out.1.set 0 _).set 1 _).set 2 _).set 3 _).set 4 _).set 5 _).set 6 _).set 7 _).set 8 _), (((((((((HX.out.2.1.apart Hne.out 0 _).apart Hne.out 1 _).apart Hne.out 2 _).apart Hne.out 3 _).apart Hne.out 4 _).apart Hne.out 5 _).apart Hne.out 6 _).apart Hne.out 7 _).apart Hne.out 8 _), (HsC6.out _ _ _ (HsC6.out _ _ _ (HsC6.out _ _ _ (HsC6.out _ _ _ (HsC6.out _ _ _ (HsC6.out _ _ _ (HsC6.out _ _ _ (HsC6.out _ _ _ (HsC6.out _ _ _ HX.out.2.2)))))))))⟩
              case measure => simp [RowKit.intOf]; omega
            · have Hnx := hide (show bestAt d (k + 1) = some ⟨ser', ep', vw', nm', tp', bs', ar', st', ch'⟩ from hnx.trans (if_neg hgt))
              have qs : decide (ser' < ser) = false := decide_eq_false hgt
              have qi : decide ((ser' : Int) < (ser : Int)) = false := decide_eq_false (by omega)
              clear hnx
              go_wp2_with fail
              go_fit HSK.out
              rintro x w2 ⟨rfl, hb2⟩
              have h62 := h6.below hb2
              have hG2 := hGk.below hb2
              have hb02 := hbk.trans (hb2.mono hbk.size)
              clear h6 hGk hbk HSK hb2
              have h6x := h62.alloc (.cells #[.int .u64 (ser : Int), .int .i64 ep, .int .i64 vw, .int .i64 nm, .int .i64 tp, .int .i64 bs, .int .i64 ar, .int .i64 st, .int .u32 (ch : Int)] 25)
              have hGx := hG2.alloc (.cells #[.int .u64 (ser : Int), .int .i64 ep, .int .i64 vw, .int .i64 nm, .int .i64 tp, .int .i64 bs, .int .i64 ar, .int .i64 st, .int .u32 (ch : Int)] 25)
              have hbx := hb02.alloc hb02.size (.cells #[.int .u64 (ser : Int), .int .i64 ep, .int .i64 vw, .int .i64 nm, .int .i64 tp, .int .i64 bs, .int .i64 ar, .int .i64 st, .int .u32 (ch : Int)] 25)
              have y0 := h6x.cell (j := 0) rfl
              have HX := hide (And.intro h6x (And.intro hGx hbx))
              clear h6x hGx hbx h62 hG2
              go_wp2
              go_roundw
              case rel => exact ⟨k + 1, by go_num, by omega, by rw [Hnx.out]; rfl, by rw [Hnx.out]; exact HX.out.1, HX.out.2.1, HX.out.2.2⟩
              case measure => simp [RowKit.intOf]; omega
      · obtain rfl : k = 2 := by omega
        have hG3 := hGk
        have hbX := hbk
        clear hGk hbk HSL
        cases hB : bestAt d 2 with
        | none =>
          rw [hB] at h6
          have HB := hide hB
          clear h6 hB
          have y0 := Blk.cell hG3 (j := 0) rfl; have y1 := Blk.cell hG3 (j := 1) rfl; have y2 := Blk.cell hG3 (j := 2) rfl; have y3 := Blk.cell hG3 (j := 3) rfl; have y4 := Blk.cell hG3 (j := 4) rfl; have y5 := Blk.cell hG3 (j := 5) rfl; have y6 := Blk.cell hG3 (j := 6) rfl; have y7 := Blk.cell hG3 (j := 7) rfl; have y8 := Blk.cell hG3 (j := 8) rfl
          have z0 := hG3.frozen 0; have z1 := hG3.frozen 1; have z2 := hG3.frozen 2; have z3 := hG3.frozen 3; have z4 := hG3.frozen 4; have z5 := hG3.frozen 5; have z6 := hG3.frozen 6; have z7 := hG3.frozen 7; have z8 := hG3.frozen 8
          have HX := hide (And.intro hG3 hbX)
          clear hG3 hbX
          go_wp2
          have hG3 := HX.out.1
          refine bodyPost_ret (results_cell2 rfl rfl (((((((((hG3.set 0 _).set 1 _).set 2 _).set 3 _).set 4 _).set 5 _).set 6 _).set 7 _).set 8 _) Tryz.underlying25 rfl (by kernel_rfl)) rfl ?_
          exact ⟨by rw [H2.out, H3.out, HB.out]; rfl, (HsC.out _ _ _ (HsC.out _ _ _ (HsC.out _ _ _ (HsC.out _ _ _ (HsC.out _ _ _ (HsC.out _ _ _ (HsC.out _ _ _ (HsC.out _ _ _ (HsC.out _ _ _ HX.out.2)))))))))⟩
        | some s =>
          obtain ⟨ser, ep, vw, nm, tp, bs, ar, st, ch⟩ := s
          rw [hB] at h6
          have x0 := Blk.cell h6 (j := 0) rfl; have x1 := Blk.cell h6 (j := 1) rfl; have x2 := Blk.cell h6 (j := 2) rfl; have x3 := Blk.cell h6 (j := 3) rfl; have x4 := Blk.cell h6 (j := 4) rfl; have x5 := Blk.cell h6 (j := 5) rfl; have x6 := Blk.cell h6 (j := 6) rfl; have x7 := Blk.cell h6 (j := 7) rfl; have x8 := Blk.cell h6 (j := 8) rfl
          have HB := hide hB
          clear h6 hB
          have y0 := Blk.cell hG3 (j := 0) rfl; have y1 := Blk.cell hG3 (j := 1) rfl; have y2 := Blk.cell hG3 (j := 2) rfl; have y3 := Blk.cell hG3 (j := 3) rfl; have y4 := Blk.cell hG3 (j := 4) rfl; have y5 := Blk.cell hG3 (j := 5) rfl; have y6 := Blk.cell hG3 (j := 6) rfl; have y7 := Blk.cell hG3 (j := 7) rfl; have y8 := Blk.cell hG3 (j := 8) rfl
          have z0 := hG3.frozen 0; have z1 := hG3.frozen 1; have z2 := hG3.frozen 2; have z3 := hG3.frozen 3; have z4 := hG3.frozen 4; have z5 := hG3.frozen 5; have z6 := hG3.frozen 6; have z7 := hG3.frozen 7; have z8 := hG3.frozen 8
          have HX := hide (And.intro hG3 hbX)
          clear hG3 hbX
          go_wp2
          have hG3 := HX.out.1
          refine bodyPost_ret (results_cell2 rfl rfl (((((((((hG3.set 0 _).set 1 _).set 2 _).set 3 _).set 4 _).set 5 _).set 6 _).set 7 _).set 8 _) Tryz.underlying25 rfl (by kernel_rfl)) rfl ?_
          exact ⟨by rw [H2.out, H3.out, HB.out]; rfl, (HsC.out _ _ _ (HsC.out _ _ _ (HsC.out _ _ _ (HsC.out _ _ _ (HsC.out _ _ _ (HsC.out _ _ _ (HsC.out _ _ _ (HsC.out _ _ _ (HsC.out _ _ _ HX.out.2)))))))))⟩
end
end Go.Proofs.YtoaodmidegkolaaGreatDoor
namespace Go.Proofs.YtoaodmidegkolaaGreatDoor
set_option maxRecDepth 20000
open Go.RowKit Go.Px Go.Maps
set_option linter.unusedVariables false
def awS1 : Sup := ⟨1, 0, 3, 0, 0, 0, 0, 0, 0⟩
def awS2 : Sup := ⟨2, 0, 4, 0, 0, 0, 0, 0, 0⟩
def awD1 : Dk := save9 (Dk.new 2 80) awS1
def awD2 : Dk := save9 awD1 awS2
theorem aw_one : saveE (Dk.new 2 80) awS1 = 0 := by decide +kernel
theorem aw_two : saveE awD1 awS2 = 0 := by decide +kernel
theorem aw_load : loadE awD2 = 0 ∧ loadV awD2 = awS2 := by decide +kernel
set_option maxHeartbeats 1600000 in
theorem awake09_any (w : World) (ht : Tab w) : Calls Tryz.prog 4 #[] w fun e w' => e = .returned (.bool true) ∧ Below w.heap.size w w' := by
  have HN := hide (new08_ok w 2 80 (by omega) (by omega) (by omega) (by omega))
  go_enter Tryz.func4, Tryz.ntmps4
  go_wp2_with fail
  go_fit HN.out
  rintro x w1 ⟨rfl, hD1', hz1, hb1⟩
  have hD1 := hD1'.notOwn
  obtain ⟨t, ht1⟩ : ∃ t, w.heap.size + 3 = t := ⟨_, rfl⟩
  obtain ⟨f, hf⟩ : ∃ f, w.heap.size = f := ⟨_, rfl⟩
  obtain ⟨lm, hlm⟩ : ∃ lm, w.heap.size + 1 = lm := ⟨_, rfl⟩
  obtain ⟨bm, hbm⟩ : ∃ bm, w.heap.size + 2 = bm := ⟨_, rfl⟩
  have hown : ∀ x, OwnB t f lm bm x → w.heap.size ≤ x := fun x hx => by rcases hx with h | h | h | h <;> omega
  have hD1n : DIs w1 (NotOwn t f lm bm) t f lm bm (Dk.new 2 80) := by rw [← ht1, ← hlm, ← hbm, ← hf]; exact hD1
  rw [ht1]
  have Hown := hide hown
  have HS1 := save_any hD1n hD1n.notOwn_new awS1 (by decide) (by decide) (Rd.below ht hb1)
  rw [aw_one] at HS1
  have HS1 := hide HS1
  clear hD1 hD1' ht1 hf hlm hbm hown hz1 HN hD1n
  go_wp2_with fail
  go_fit HS1.out
  rintro x w2 ⟨rfl, hD2, hF2⟩
  have hb02 := hF2.below hb1 hb1.size Hown.out
  have HS2 := save_any (d := awD1) hD2 hD2.notOwn_new awS2 (by decide) (by decide) (Rd.below ht hb02)
  rw [aw_two] at HS2
  have HS2 := hide HS2
  clear hD2 hF2 HS1
  go_wp2_with fail
  go_fit HS2.out
  rintro x w3 ⟨rfl, hD3, hF3⟩
  have hb03 := hF3.below hb02 hb02.size Hown.out
  have HL := load_any (d := awD2) hD3 (Rd.below ht hb03)
  rw [aw_load.1, aw_load.2] at HL
  have HL := hide HL
  clear hD3 hF3 HS2
  go_wp2_with fail
  go_fit HL.out
  rintro x w4 ⟨rfl, hb4⟩
  have hb04 := hb03.trans (hb4.mono hb03.size)
  have hbX := hb04.alloc hb04.size (.cells awS2.cells.toArray 25)
  have HX := hide hbX
  clear HL hb4 hbX
  go_wp2
  go_ret
  exact ⟨by first | rfl | decide +kernel | (simp; done), HX.out⟩
end Go.Proofs.YtoaodmidegkolaaGreatDoor
namespace Go.Proofs.YtoaodmidegkolaaGreatDoor
set_option maxRecDepth 20000
open Go.RowKit Go.Px Go.Maps
set_option linter.unusedVariables false
theorem offN_len (l : List Nat) : ∀ j, (bodN l j).length = offN j
  | 0 => rfl
  | j + 1 => by rw [bodN_succ, List.length_append, leB_length, offN_len l j, offN_succ]
theorem bodN_pre (l : List Nat) (n : Nat) : ∀ k, ∃ t, bodN l (n + k) = bodN l n ++ t
  | 0 => ⟨[], by simp⟩
  | k + 1 => by
    obtain ⟨t, ht⟩ := bodN_pre l n k
    exact ⟨t ++ Px.leB (szN (n + k)) (l.getD (n + k) 0), by rw [← Nat.add_assoc, bodN_succ, ht, List.append_assoc]⟩
theorem vN_body (l : List Nat) {j : Nat} (hj : j < 8) (hf : l.getD j 0 < 256 ^ szN j) : vN (bodN l 8) j = l.getD j 0 := by
  obtain ⟨z1, z2⟩ := szN_le j
  have hof := offN_le hj
  have hE := getE_in (bd := bodN l 8) z1 z2 (a := offN j) (by rw [bodN_eight]; exact hof)
  unfold vN getV
  rw [if_pos hE, Int.toNat_natCast, Int.toNat_natCast]
  obtain ⟨t, ht⟩ := bodN_pre l (j + 1) (8 - (j + 1))
  rw [show j + 1 + (8 - (j + 1)) = 8 by omega, show bodN l (j + 1) = _ from bodN_succ l j, List.append_assoc] at ht
  rw [ht, ← offN_len l j, List.drop_left, List.take_left' (leB_length _ _), numN_leB _ _ hf]
theorem sdec_back (s : Sup) (hok : s.Ok) (hs : s.ser < 18446744073709551616) (hch : s.ch < 4294967296) (z : List UInt8) : sdecE (supB s ++ z) = 0 ∧ sdecV (supB s ++ z) = s := by
  have hB : supB s = frmB 1 s.ser (bodN s.nums 8) := if_pos hok
  have h8 := bodN_eight s.nums
  have hb := rd_back 1 s.ser (bodN s.nums 8) [] z (by omega) hs (by omega)
  simp only [List.nil_append, List.length_nil] at hb
  rw [← hB] at hb
  obtain ⟨b1, b2, b3, b4, _⟩ := hb
  have b1' : rdE (supB s ++ z) 0 = 0 := b1
  have b2' : rdK (supB s ++ z) 0 = 1 := b2
  have b3' : Px.rdS (supB s ++ z) 0 = s.ser := b3
  have b4' : rdB (supB s ++ z) 0 = bodN s.nums 8 := b4
  have hd : decS s.ser (bodN s.nums 8) = s := by
    obtain ⟨ser, ep, vw, nm, tp, bs, ar, st, ch⟩ := s
    obtain ⟨⟨a1, a2⟩, ⟨c1, c2⟩, ⟨d1, d2⟩, ⟨e1, e2⟩, ⟨f1, f2⟩, g1, g2, h1, h2⟩ := hok
    simp only at a1 a2 c1 c2 d1 d2 e1 e2 f1 f2 g1 g2 h1 h2 hch
    have k : ∀ j, j < 8 → vN (bodN (Sup.nums ⟨ser, ep, vw, nm, tp, bs, ar, st, ch⟩) 8) j = (Sup.nums ⟨ser, ep, vw, nm, tp, bs, ar, st, ch⟩).getD j 0 := fun j hj => vN_body _ hj (by
      rcases (show j = 0 ∨ j = 1 ∨ j = 2 ∨ j = 3 ∨ j = 4 ∨ j = 5 ∨ j = 6 ∨ j = 7 by omega) with rfl | rfl | rfl | rfl | rfl | rfl | rfl | rfl <;> simp [Sup.nums, szN] <;> omega)
    unfold decS
    rw [k 0 (by omega), k 1 (by omega), k 2 (by omega), k 3 (by omega), k 4 (by omega), k 5 (by omega), k 6 (by omega), k 7 (by omega)]
    simp only [Sup.nums, List.getD_cons_zero, List.getD_cons_succ]
    rw [iw_in (v := ep.toNat) (by omega), iw_in (v := vw.toNat) (by omega), iw_in (v := nm.toNat) (by omega), iw_in (v := tp.toNat) (by omega), iw_in (v := bs.toNat) (by omega), iw_in (v := ar.toNat) (by omega), iw_in (v := st.toNat) (by omega)]
    rw [Int.toNat_of_nonneg a1, Int.toNat_of_nonneg c1, Int.toNat_of_nonneg d1, Int.toNat_of_nonneg e1, Int.toNat_of_nonneg f1, Int.toNat_of_nonneg g1, Int.toNat_of_nonneg h1]
  have hE : sdecE (supB s ++ z) = 0 := by
    unfold sdecE
    rw [if_neg (by rw [b1']; simp), if_neg (by rw [b2', b4', h8]; simp), b3', b4', hd]
    exact if_pos hok
  refine ⟨hE, ?_⟩
  unfold sdecV
  rw [if_pos hE, b3', b4', hd]
end Go.Proofs.YtoaodmidegkolaaGreatDoor
namespace Go.Proofs.YtoaodmidegkolaaGreatDoor
set_option maxRecDepth 20000
open Go.RowKit Go.Px Go.Maps
set_option linter.unusedVariables false
section
variable {w w' : World} {Q : Nat → Prop} {t f : Nat} {cs : List Value} {d : Dk}
theorem rfits9_any (h : RDIs w Q t f cs d) : Calls Tryz.prog 43 #[.pointer (some ⟨t, 0, none⟩)] w fun e w' => e = .returned (.bool (decide (2 ≤ d.fast.length ∧ 72 ≤ d.size))) ∧ w = w' := by
  obtain ⟨cc, b1, _⟩ := h.blk
  have x0 := b1.cell (j := 0) rfl
  have x1 := b1.cell (j := 1) rfl
  obtain ⟨N, hN⟩ : ∃ N, d.fast.length = N := ⟨_, rfl⟩
  obtain ⟨S, hS⟩ : ∃ S, d.size = S := ⟨_, rfl⟩
  rw [hN] at x1
  rw [hS] at x0
  rw [hN, hS]
  clear hN hS h b1
  by_cases h1 : 2 ≤ N
  · have q1 : decide ((2 : Int) ≤ (N : Int)) = true := decide_eq_true (by omega)
    by_cases h2 : 72 ≤ S
    · have q2 : decide ((72 : Int) ≤ (S : Int)) = true := decide_eq_true (by omega)
      rw [decide_eq_true (show 2 ≤ N ∧ 72 ≤ S from ⟨h1, h2⟩)]
      go_enter Tryz.func43, Tryz.ntmps43
      go_wp2
      go_ret
      first | exact ⟨rfl, rfl⟩ | exact ⟨trivial, rfl⟩ | exact ⟨by simp, rfl⟩
    · have q2 : decide ((72 : Int) ≤ (S : Int)) = false := decide_eq_false (by omega)
      rw [decide_eq_false (show ¬ (2 ≤ N ∧ 72 ≤ S) from fun h => h2 h.2)]
      go_enter Tryz.func43, Tryz.ntmps43
      go_wp2
      go_ret
      first | exact ⟨rfl, rfl⟩ | exact ⟨trivial, rfl⟩ | exact ⟨by simp, rfl⟩
  · have q1 : decide ((2 : Int) ≤ (N : Int)) = false := decide_eq_false (by omega)
    rw [decide_eq_false (show ¬ (2 ≤ N ∧ 72 ≤ S) from fun h => h1 h.1)]
    go_enter Tryz.func43, Tryz.ntmps43
    go_wp2
    go_ret
    first | exact ⟨rfl, rfl⟩ | exact ⟨trivial, rfl⟩ | exact ⟨by simp, rfl⟩
set_option maxHeartbeats 3200000 in
theorem rsave_any (h : RDIs w Q t f cs d) (hQ : ∀ b, w.heap.size ≤ b → Q b) (s : Sup) (hs : s.ser < 18446744073709551616) (hch : s.ch < 4294967296) :
    Calls Tryz.prog 28 #[.pointer (some ⟨t, 0, none⟩), .agg s.cells.toArray] w fun e w' => e = .returned (.int .i64 (saveE d s)) ∧ (∃ cs', RDIs w' Q t f cs' (save9 d s)) ∧ Fr (ROwn t f) w w' := by
  obtain ⟨w0, hw0⟩ : ∃ y, w.alloc (.cells s.cells.toArray 25) = y := ⟨_, rfl⟩
  obtain ⟨g, hg⟩ : ∃ g, w.heap.size = g := ⟨_, rfl⟩
  have hG : Blk w0 g s.cells 25 := by rw [← hw0, ← hg]; exact Blk.new w _ _
  have hb0 : Below w.heap.size w w0 := by rw [← hw0]; exact (Below.refl _ _).alloc (Nat.le_refl _) _
  have h0 := h.below hb0
  have hF0 := Fr.of_below (X := ROwn t f) hb0
  have hok := h.ok
  have hN2 := hok.n2
  have hS2 := hok.s2
  have hS1 := hok.s1
  have hN1 := hok.n1
  have hlen : s.E = 0 → (supB s).length = 72 := fun he => supB_len (E_ok he)
  have HEN := hide (fun W (hW : Below w.heap.size w W) => rsenc_any s W hs hch)
  have hsl : slotI s = ((s.ser % 2 : Nat) : Int) := rfl
  have HWR := hide (fun W (hD : RDIs W Q t f cs d) (hQ : ∀ b, W.heap.size ≤ b → Q b) A m c (b : List UInt8) h1 h2 h3 h4 h5 => rwrite08_any hD hQ (slotI s) A m c b (by rw [hsl]; omega) (by rw [hsl]; omega) h1 h2 h3 h4 h5)
  have hcase : (s.E ≠ 0 ∧ saveE d s = s.E ∧ save9 d s = d) ∨ (s.E = 0 ∧ ¬ (2 ≤ d.fast.length ∧ 72 ≤ d.size) ∧ saveE d s = 80 ∧ save9 d s = d) ∨ (s.E = 0 ∧ (2 ≤ d.fast.length ∧ 72 ≤ d.size) ∧ saveE d s = d.writeE (slotI s) (padB (supB s) d.size) ∧ save9 d s = d.write (slotI s) (padB (supB s) d.size)) := by
    unfold saveE save9
    by_cases h1 : s.E = 0
    · by_cases h2 : fits9 d
      · right; right; rw [if_pos h1, if_pos h2, if_pos ⟨h1, h2⟩]; exact ⟨h1, h2, rfl, rfl⟩
      · right; left; rw [if_pos h1, if_neg h2, if_neg (fun h => h2 h.2)]; exact ⟨h1, h2, rfl, rfl⟩
    · left; rw [if_neg h1, if_neg (fun h => h1 h.1)]; exact ⟨h1, rfl, rfl⟩
  obtain ⟨N, hNe⟩ : ∃ N, d.fast.length = N := ⟨_, rfl⟩
  obtain ⟨S, hSe⟩ : ∃ S, d.size = S := ⟨_, rfl⟩
  rw [hNe] at hN1 hN2
  rw [hSe] at hS1 hS2
  simp only [hNe, hSe] at hcase
  obtain ⟨er, her⟩ : ∃ er, s.E = er := ⟨_, rfl⟩
  simp only [her] at hcase hlen
  have HHO := hide (fun W (hW : Below w.heap.size w W) => rfits9_any (h.below hW))
  rw [hNe, hSe] at HHO
  have HSe := hide hSe
  have H0 := hide h0
  have HF0 := hide hF0
  rw [her] at HEN
  obtain ⟨sb, hsb⟩ : ∃ y, supB s = y := ⟨_, rfl⟩
  rw [hsb] at HEN hlen hcase
  have hid : s.ser % 2 < 2 := Nat.mod_lt _ (by omega)
  rw [hsl] at HWR
  obtain ⟨si, hsi⟩ : ∃ y, slotI s = y := ⟨_, rfl⟩
  rw [hsi] at hcase
  rw [hsl] at hsi
  have hser : s.ser = s.ser := rfl
  obtain ⟨ser, ep, vw, nm, tp, bs, ar, st, ch⟩ := s
  simp only at hsi hid hs hch HWR
  have hmod : ((ser : Int) % 2) = ((ser % 2 : Nat) : Int) := by simp
  have hmodt : ((ser : Int).tmod 2) = ((ser % 2 : Nat) : Int) := by rw [Int.tmod_eq_emod_of_nonneg (by omega)]; simp
  obtain ⟨pr, hpr⟩ : ∃ y, ser % 2 = y := ⟨_, rfl⟩
  rw [hpr] at hsi hid HWR hmod hmodt
  have Hmod := hide hmod
  have Hmodt := hide hmodt
  have Hsi := hide hsi
  have Hw0 := hide hw0
  have Hg := hide hg
  have Hlen := hide hlen
  have HQ := hide hQ
  have hG' := hG
  rcases hcase with ⟨h1, h2, h3⟩ | ⟨h1, h2, h3, h4⟩ | ⟨h1, h2, h3, h4⟩
  · rw [h2, h3]
    have q1 : (er != 0) = true := by simpa using h1
    clear h0 hF0 her hsb hNe hSe hok h hw0 hg hlen hQ hmod hmodt hsi h1 h2 h3 hser hpr
    go_enter Tryz.func28, Tryz.ntmps28
    go_wp2_with fail
    rw [Hw0.out, Hg.out]
    have hb1 := Below.refl w0.heap.size w0
    have hG1 := hG'
    have hb01 := hb0
    have y0 := Blk.cell hG1 (j := 0) rfl; have y1 := Blk.cell hG1 (j := 1) rfl; have y2 := Blk.cell hG1 (j := 2) rfl; have y3 := Blk.cell hG1 (j := 3) rfl; have y4 := Blk.cell hG1 (j := 4) rfl; have y5 := Blk.cell hG1 (j := 5) rfl; have y6 := Blk.cell hG1 (j := 6) rfl; have y7 := Blk.cell hG1 (j := 7) rfl; have y8 := Blk.cell hG1 (j := 8) rfl
    go_wp2_with fail
    go_fit (HEN.out w0 hb01)
    rintro x w2 ⟨v, rfl, hO, hb2⟩
    obtain ⟨A2, c2, rfl, _⟩ := own_out hO
    clear hO y0 y1 y2 y3 y4 y5 y6 y7 y8
    go_wp2
    go_ret
    have hb12 := hb1.trans (hb2.mono hb1.size)
    exact ⟨rfl, ⟨_, H0.out.below hb12⟩, HF0.out.trans (Fr.of_below hb12)⟩
  · rw [h3, h4]
    simp only [decide_eq_false h2] at HHO
    subst h1
    clear h0 hF0 her hsb hNe hSe hok h hw0 hg hlen hQ hmod hmodt hsi h2 h3 h4 hser hpr
    go_enter Tryz.func28, Tryz.ntmps28
    go_wp2_with fail
    rw [Hw0.out, Hg.out]
    have hb1 := Below.refl w0.heap.size w0
    have hG1 := hG'
    have hb01 := hb0
    have y0 := Blk.cell hG1 (j := 0) rfl; have y1 := Blk.cell hG1 (j := 1) rfl; have y2 := Blk.cell hG1 (j := 2) rfl; have y3 := Blk.cell hG1 (j := 3) rfl; have y4 := Blk.cell hG1 (j := 4) rfl; have y5 := Blk.cell hG1 (j := 5) rfl; have y6 := Blk.cell hG1 (j := 6) rfl; have y7 := Blk.cell hG1 (j := 7) rfl; have y8 := Blk.cell hG1 (j := 8) rfl
    go_wp2_with fail
    go_fit (HEN.out w0 hb01)
    rintro x w2 ⟨v, rfl, hO, hb2⟩
    obtain ⟨A2, c2, rfl, _⟩ := own_out hO
    clear hO y0 y1 y2 y3 y4 y5 y6 y7 y8
    go_wp2_with fail
    go_fit (HHO.out w2 (hb01.trans (hb2.mono hb01.size)))
    rintro x w3 ⟨rfl, rfl⟩
    go_wp2
    go_ret
    have hb12 := hb1.trans (hb2.mono hb1.size)
    exact ⟨rfl, ⟨_, H0.out.below hb12⟩, HF0.out.trans (Fr.of_below hb12)⟩
  · rw [h3, h4]
    simp only [decide_eq_true h2] at HHO
    subst h1
    rw [Hlen.out rfl] at HEN
    have HWR2 := HWR
    have HS2 := hide (And.intro (Hlen.out rfl) (And.intro hS1 hS2))
    rw [← Hsi.out]
    clear h0 hF0 her hsb hNe hSe hok h hw0 hg hlen hQ hmod hmodt hsi h2 h3 h4 hser hpr
    go_enter Tryz.func28, Tryz.ntmps28
    go_wp2_with fail
    rw [Hw0.out, Hg.out]
    have hb1 := Below.refl w0.heap.size w0
    have hG1 := hG'
    have hb01 := hb0
    have y0 := Blk.cell hG1 (j := 0) rfl; have y1 := Blk.cell hG1 (j := 1) rfl; have y2 := Blk.cell hG1 (j := 2) rfl; have y3 := Blk.cell hG1 (j := 3) rfl; have y4 := Blk.cell hG1 (j := 4) rfl; have y5 := Blk.cell hG1 (j := 5) rfl; have y6 := Blk.cell hG1 (j := 6) rfl; have y7 := Blk.cell hG1 (j := 7) rfl; have y8 := Blk.cell hG1 (j := 8) rfl
    go_wp2_with fail
    go_fit (HEN.out w0 hb01)
    rintro x w2 ⟨v, rfl, hO, hb2⟩
    obtain ⟨A2, c2, rfl, _, hc2, hcm2, hr2, ha2⟩ := own_out hO
    have hb02 := hb01.trans (hb2.mono hb01.size)
    have hG2 := hG1.below hb2
    have hb12 : Below w0.heap.size w0 w2 := hb2
    have HPD := hide (rpad_any A2 72 c2 sb S w2 HS2.out.1 (by omega) hc2 hr2 HS2.out.2.1 (by have := HS2.out.2.2; omega))
    clear hO y0 y1 y2 y3 y4 y5 y6 y7 y8 hr2 ha2 hG1
    obtain ⟨ccc, bb1, _⟩ := (H0.out.below hb12).blk
    have s0 := bb1.cell (j := 0) rfl
    rw [HSe.out] at s0
    go_wp2_with fail
    go_fit (HHO.out w2 (hb01.trans (hb2.mono hb01.size)))
    rintro x w3 ⟨rfl, rfl⟩
    go_wp2_with fail
    clear s0 bb1
    go_fit HPD.out
    rintro x w3 ⟨v, rfl, hO, hb3⟩
    obtain ⟨A3, c3, rfl, hl3, hc3, hcm3, hr3, ha3⟩ := own_out hO
    unfold maxLen at hcm3
    rw [bys_length, Nat.mul_one] at hl3
    have hb13 := hb1.trans ((hb2.trans (hb3.mono hb2.size)).mono hb1.size)
    have hb03 := hb02.trans (hb3.mono hb02.size)
    have hD3 := H0.out.below hb13
    have hG3 := hG2.below hb3
    have y0 := hG3.cell (j := 0) rfl
    have hz3 := hb03.size
    have hlt := H0.out.lts
    have hsz := hb13.size
    have HW := hide (HWR2.out w3 hD3 (fun b hb => HQ.out b (by omega)) A3 _ c3 (padB sb S) hl3 hc3 hcm3 hr3 (fun _ a ha hq => by have := (ha3 a ha).1; have hz2 := (hb1.trans (hb2.mono hb1.size)).size; rcases hq with e | e <;> omega))
    have HFB := hide (HF0.out.trans (Fr.of_below hb13))
    have hm1 := Hmod.out
    have hm2 := Hmodt.out
    clear hO hr3 ha3 hG2 hG3 hl3
    go_wp2_with fail
    go_fit HW.out
    rintro x w4 ⟨rfl, hD4, hF4⟩
    have HD4 := hide (And.intro hD4 hF4)
    clear hD4 hF4 y0 hm1 hm2
    go_wp2
    go_ret
    exact ⟨rfl, HD4.out.1, HFB.out.trans HD4.out.2⟩
end
end Go.Proofs.YtoaodmidegkolaaGreatDoor
namespace Go.Proofs.YtoaodmidegkolaaGreatDoor
set_option maxRecDepth 20000
open Go.RowKit Go.Px Go.Maps
set_option linter.unusedVariables false
section
variable {w w' : World} {Q : Nat → Prop} {t f : Nat} {cs : List Value} {d : Dk}
set_option maxHeartbeats 3200000 in
theorem rslot_any (h : RDIs w Q t f cs d) (i : Nat) (hi : i ≤ 65536) :
    Calls Tryz.prog 49 #[.pointer (some ⟨t, 0, none⟩), .int .i64 (i : Int)] w fun e w' => (∃ V : Sup, e = .returned (.tuple #[.agg V.cells.toArray, .bool (slotV d i).isSome]) ∧ ∀ s, slotV d i = some s → V = s) ∧ Below w.heap.size w w' := by
  obtain ⟨w0, hw0⟩ : ∃ y, w.alloc (.cells #[.int .u64 0, .int .i64 0, .int .i64 0, .int .i64 0, .int .i64 0, .int .i64 0, .int .i64 0, .int .i64 0, .int .u32 0] 25) = y := ⟨_, rfl⟩
  obtain ⟨g, hg⟩ : ∃ g, w.heap.size = g := ⟨_, rfl⟩
  have hG : Blk w0 g sup0C 25 := by rw [← hw0, ← hg]; exact Blk.new w _ _
  have hb0 : Below g w w0 := by rw [← hw0, ← hg]; exact (Below.refl _ _).alloc (Nat.le_refl _) _
  have hz0 : w0.heap.size = g + 1 := by rw [← hw0, ← hg]; simp
  have hb0' : Below w.heap.size w w0 := by rw [hg]; exact hb0
  have hRD := rread08_any (h.below hb0') (i : Int) 1 (by omega) (by omega) (by omega) (by omega)
  have hle := readB_le9 h.ok i
  have hSV : slotV d i = if d.readE (i : Int) 1 = 0 ∧ sdecE (d.readB (i : Int) 1) = 0 ∧ (sdecV (d.readB (i : Int) 1)).ser % 2 = i then some (sdecV (d.readB (i : Int) 1)) else none := rfl
  generalize slotV d i = R at hSV ⊢
  generalize d.readE (i : Int) 1 = er at hSV hRD
  generalize d.readB (i : Int) 1 = b at hSV hRD hle
  have hDC := fun A c W (h1 : b.length ≤ c) (h2 : c ≤ 9223372036854775807) (h3 : Rd W A (bys b)) => rsdec_any A b.length c b W rfl (by omega) h1 h2 h3
  generalize sdecE b = de at hSV hDC
  generalize sdecV b = V at hSV hDC
  obtain ⟨ser, ep, vw, nm, tp, bs, ar, st, ch⟩ := V
  simp only at hSV
  obtain ⟨l, hl⟩ : ∃ y, b.length = y := ⟨_, rfl⟩
  simp only [hl] at hRD hDC
  have hmod : ((ser : Int) % 2) = ((ser % 2 : Nat) : Int) := by simp
  have hmodt : ((ser : Int).tmod 2) = ((ser % 2 : Nat) : Int) := by rw [Int.tmod_eq_emod_of_nonneg (by omega)]; simp
  obtain ⟨pr, hpr⟩ : ∃ y, ser % 2 = y := ⟨_, rfl⟩
  rw [hpr] at hSV hmod hmodt
  have hwr : IntKind.i64.wrap (pr : Int) = (pr : Int) := by
    have : pr < 2 := by omega
    obtain rfl | rfl : pr = 0 ∨ pr = 1 := by omega
    · rfl
    · rfl
  have Hwr := hide hwr
  clear hwr
  have hsC : ∀ (X : World) (q : Nat) (u : Value), Below w.heap.size w X → Below w.heap.size w (X.setCell ⟨g, q, none⟩ u) := fun X q u hX => hX.setCell (by show w.heap.size ≤ g; omega) _
  have HsC := hide hsC
  have HRD := hide hRD
  have HDC := hide hDC
  have Hmod := hide hmod
  have Hmodt := hide hmodt
  have Hw0 := hide hw0
  have Hg := hide hg
  have Hz0 := hide hz0
  have hb := hb0'
  clear hRD hDC hmod hmodt hw0 hg hz0 hle hl hpr hsC h hb0 hb0'
  by_cases h1 : er = 0
  · subst h1
    by_cases h2 : de = 0
    · subst h2
      have hm1 := Hmod.out
      have hm2 := Hmodt.out
      have hm3 := Hwr.out
      by_cases h3 : pr = i
      · rw [if_pos ⟨rfl, rfl, h3⟩] at hSV
        subst hSV
        subst h3
        go_enter Tryz.func49, Tryz.ntmps49
        go_wp2_with fail
        rw [Hw0.out]
        try rw [Hg.out]
        go_fit HRD.out
        rintro x w1 ⟨A1, c1, rfl, hl1, hc1, hr1, hb1⟩
        have hG1 := hG.below hb1
        have hb01 := hb.trans (hb1.mono hb.size)
        clear HRD
        go_wp2_with fail
        go_fit (HDC.out A1 c1 w1 hl1 hc1 hr1)
        rintro x w2 ⟨rfl, hb2⟩
        have hG2 := hG1.below hb2
        have hb02 := hb01.trans (hb2.mono hb01.size)
        clear hG1 hr1 HDC
        obtain ⟨w3, hw3⟩ : ∃ y, w2.alloc (.cells #[.int .u64 (ser : Int), .int .i64 ep, .int .i64 vw, .int .i64 nm, .int .i64 tp, .int .i64 bs, .int .i64 ar, .int .i64 st, .int .u32 (ch : Int)] 25) = y := ⟨_, rfl⟩
        obtain ⟨g8, hg8⟩ : ∃ y, w2.heap.size = y := ⟨_, rfl⟩
        have hne : g8 ≠ g := by rw [← hg8]; have := hG2.lt; omega
        have hN : Blk w3 g8 [.int .u64 (ser : Int), .int .i64 ep, .int .i64 vw, .int .i64 nm, .int .i64 tp, .int .i64 bs, .int .i64 ar, .int .i64 st, .int .u32 (ch : Int)] 25 := by rw [← hw3, ← hg8]; exact Blk.new w2 _ _
        have hb23 : Below w2.heap.size w2 w3 := by rw [← hw3]; exact (Below.refl _ _).alloc (Nat.le_refl _) _
        have hG3 := hG2.below hb23
        have hbX := hb02.trans (hb23.mono hb02.size)
        have Hw3 := hide hw3
        have Hg8 := hide hg8
        clear hG2 hw3 hg8 hb23 hb2 hb02
        go_wp2_with fail
        rw [Hw3.out, Hg8.out]
        have hNd : Blk w3.drew g8 [.int .u64 (ser : Int), .int .i64 ep, .int .i64 vw, .int .i64 nm, .int .i64 tp, .int .i64 bs, .int .i64 ar, .int .i64 st, .int .u32 (ch : Int)] 25 := hN
        have hNe := Blk.drew (((((((((hN.apart hne 0 (.int .u64 (ser : Int))).apart hne 1 (.int .i64 ep)).apart hne 2 (.int .i64 vw)).apart hne 3 (.int .i64 nm)).apart hne 4 (.int .i64 tp)).apart hne 5 (.int .i64 bs)).apart hne 6 (.int .i64 ar)).apart hne 7 (.int .i64 st)).apart hne 8 (.int .u32 (ch : Int)))
        have HX := hide (And.intro hG3 hbX)
        have x0 := Blk.cell hNd (j := 0) rfl; have x1 := Blk.cell hNd (j := 1) rfl; have x2 := Blk.cell hNd (j := 2) rfl; have x3 := Blk.cell hNd (j := 3) rfl; have x4 := Blk.cell hNd (j := 4) rfl; have x5 := Blk.cell hNd (j := 5) rfl; have x6 := Blk.cell hNd (j := 6) rfl; have x7 := Blk.cell hNd (j := 7) rfl; have x8 := Blk.cell hNd (j := 8) rfl
        have u0 := Blk.cell hNe (j := 0) rfl; have u1 := Blk.cell hNe (j := 1) rfl; have u2 := Blk.cell hNe (j := 2) rfl; have u3 := Blk.cell hNe (j := 3) rfl; have u4 := Blk.cell hNe (j := 4) rfl; have u5 := Blk.cell hNe (j := 5) rfl; have u6 := Blk.cell hNe (j := 6) rfl; have u7 := Blk.cell hNe (j := 7) rfl; have u8 := Blk.cell hNe (j := 8) rfl
        have y0 := Blk.cell hG3 (j := 0) rfl; have y1 := Blk.cell hG3 (j := 1) rfl; have y2 := Blk.cell hG3 (j := 2) rfl; have y3 := Blk.cell hG3 (j := 3) rfl; have y4 := Blk.cell hG3 (j := 4) rfl; have y5 := Blk.cell hG3 (j := 5) rfl; have y6 := Blk.cell hG3 (j := 6) rfl; have y7 := Blk.cell hG3 (j := 7) rfl; have y8 := Blk.cell hG3 (j := 8) rfl
        have z0 := hG3.frozen 0; have z1 := hG3.frozen 1; have z2 := hG3.frozen 2; have z3 := hG3.frozen 3; have z4 := hG3.frozen 4; have z5 := hG3.frozen 5; have z6 := hG3.frozen 6; have z7 := hG3.frozen 7; have z8 := hG3.frozen 8
        have hS0 := And.intro x0 (And.intro x1 (And.intro x2 (And.intro x3 (And.intro x4 (And.intro x5 (And.intro x6 (And.intro x7 x8)))))))
        have hS1 := And.intro u0 (And.intro u1 (And.intro u2 (And.intro u3 (And.intro u4 (And.intro u5 (And.intro u6 (And.intro u7 u8)))))))
        clear hN hG3 hNd hbX hNe x0 x1 x2 x3 x4 x5 x6 x7 x8 u0 u1 u2 u3 u4 u5 u6 u7 u8
        go_region_held3 (fun X => X.cell? ⟨g8, 0, none⟩ = some (.int .u64 (ser : Int)) ∧ X.cell? ⟨g8, 1, none⟩ = some (.int .i64 ep) ∧ X.cell? ⟨g8, 2, none⟩ = some (.int .i64 vw) ∧ X.cell? ⟨g8, 3, none⟩ = some (.int .i64 nm) ∧ X.cell? ⟨g8, 4, none⟩ = some (.int .i64 tp) ∧ X.cell? ⟨g8, 5, none⟩ = some (.int .i64 bs) ∧ X.cell? ⟨g8, 6, none⟩ = some (.int .i64 ar) ∧ X.cell? ⟨g8, 7, none⟩ = some (.int .i64 st) ∧ X.cell? ⟨g8, 8, none⟩ = some (.int .u32 (ch : Int))) (first | with_reducible exact hS0 | with_reducible exact hS1) (fail)
        all_goals
          clear hS0 hS1 y0 y1 y2 y3 y4 y5 y6 y7 y8 z0 z1 z2 z3 z4 z5 z6 z7 z8
          have hE := Blk.drew (Blk.set (Blk.set (Blk.set (Blk.set (Blk.set (Blk.set (Blk.set (Blk.set (Blk.set HX.out.1 0 (.int .u64 (ser : Int))) 1 (.int .i64 ep)) 2 (.int .i64 vw)) 3 (.int .i64 nm)) 4 (.int .i64 tp)) 5 (.int .i64 bs)) 6 (.int .i64 ar)) 7 (.int .i64 st)) 8 (.int .u32 (ch : Int)))
          have hF := Below.drew (HsC.out _ 8 (.int .u32 (ch : Int)) (HsC.out _ 7 (.int .i64 st) (HsC.out _ 6 (.int .i64 ar) (HsC.out _ 5 (.int .i64 bs) (HsC.out _ 4 (.int .i64 tp) (HsC.out _ 3 (.int .i64 nm) (HsC.out _ 2 (.int .i64 vw) (HsC.out _ 1 (.int .i64 ep) (HsC.out _ 0 (.int .u64 (ser : Int)) HX.out.2)))))))))
          generalize World.drew _ = w5 at hE hF ⊢
          have HY := hide (And.intro hE hF)
          have v0 := Blk.cell hE (j := 0) rfl; have v1 := Blk.cell hE (j := 1) rfl; have v2 := Blk.cell hE (j := 2) rfl; have v3 := Blk.cell hE (j := 3) rfl; have v4 := Blk.cell hE (j := 4) rfl; have v5 := Blk.cell hE (j := 5) rfl; have v6 := Blk.cell hE (j := 6) rfl; have v7 := Blk.cell hE (j := 7) rfl; have v8 := Blk.cell hE (j := 8) rfl
          clear hE hF HX
          go_wp2
          refine bodyPost_ret (results_cell2 rfl rfl HY.out.1 Tryz.underlying25 rfl (by kernel_rfl)) rfl ?_
          exact ⟨⟨⟨ser, ep, vw, nm, tp, bs, ar, st, ch⟩, rfl, fun s hs => by first | (injection hs) | cases hs⟩, HY.out.2⟩
      · rw [if_neg (fun h => h3 h.2.2)] at hSV
        subst hSV
        have q3 : ((pr : Int) == (i : Int)) = false := by simp; omega
        clear h3
        go_enter Tryz.func49, Tryz.ntmps49
        go_wp2_with fail
        rw [Hw0.out]
        try rw [Hg.out]
        go_fit HRD.out
        rintro x w1 ⟨A1, c1, rfl, hl1, hc1, hr1, hb1⟩
        have hG1 := hG.below hb1
        have hb01 := hb.trans (hb1.mono hb.size)
        clear HRD
        go_wp2_with fail
        go_fit (HDC.out A1 c1 w1 hl1 hc1 hr1)
        rintro x w2 ⟨rfl, hb2⟩
        have hG2 := hG1.below hb2
        have hb02 := hb01.trans (hb2.mono hb01.size)
        clear hG1 hr1 HDC
        obtain ⟨w3, hw3⟩ : ∃ y, w2.alloc (.cells #[.int .u64 (ser : Int), .int .i64 ep, .int .i64 vw, .int .i64 nm, .int .i64 tp, .int .i64 bs, .int .i64 ar, .int .i64 st, .int .u32 (ch : Int)] 25) = y := ⟨_, rfl⟩
        obtain ⟨g8, hg8⟩ : ∃ y, w2.heap.size = y := ⟨_, rfl⟩
        have hne : g8 ≠ g := by rw [← hg8]; have := hG2.lt; omega
        have hN : Blk w3 g8 [.int .u64 (ser : Int), .int .i64 ep, .int .i64 vw, .int .i64 nm, .int .i64 tp, .int .i64 bs, .int .i64 ar, .int .i64 st, .int .u32 (ch : Int)] 25 := by rw [← hw3, ← hg8]; exact Blk.new w2 _ _
        have hb23 : Below w2.heap.size w2 w3 := by rw [← hw3]; exact (Below.refl _ _).alloc (Nat.le_refl _) _
        have hG3 := hG2.below hb23
        have hbX := hb02.trans (hb23.mono hb02.size)
        have Hw3 := hide hw3
        have Hg8 := hide hg8
        clear hG2 hw3 hg8 hb23 hb2 hb02
        go_wp2_with fail
        rw [Hw3.out, Hg8.out]
        have hNd : Blk w3.drew g8 [.int .u64 (ser : Int), .int .i64 ep, .int .i64 vw, .int .i64 nm, .int .i64 tp, .int .i64 bs, .int .i64 ar, .int .i64 st, .int .u32 (ch : Int)] 25 := hN
        have hNe := Blk.drew (((((((((hN.apart hne 0 (.int .u64 (ser : Int))).apart hne 1 (.int .i64 ep)).apart hne 2 (.int .i64 vw)).apart hne 3 (.int .i64 nm)).apart hne 4 (.int .i64 tp)).apart hne 5 (.int .i64 bs)).apart hne 6 (.int .i64 ar)).apart hne 7 (.int .i64 st)).apart hne 8 (.int .u32 (ch : Int)))
        have HX := hide (And.intro hG3 hbX)
        have x0 := Blk.cell hNd (j := 0) rfl; have x1 := Blk.cell hNd (j := 1) rfl; have x2 := Blk.cell hNd (j := 2) rfl; have x3 := Blk.cell hNd (j := 3) rfl; have x4 := Blk.cell hNd (j := 4) rfl; have x5 := Blk.cell hNd (j := 5) rfl; have x6 := Blk.cell hNd (j := 6) rfl; have x7 := Blk.cell hNd (j := 7) rfl; have x8 := Blk.cell hNd (j := 8) rfl
        have u0 := Blk.cell hNe (j := 0) rfl; have u1 := Blk.cell hNe (j := 1) rfl; have u2 := Blk.cell hNe (j := 2) rfl; have u3 := Blk.cell hNe (j := 3) rfl; have u4 := Blk.cell hNe (j := 4) rfl; have u5 := Blk.cell hNe (j := 5) rfl; have u6 := Blk.cell hNe (j := 6) rfl; have u7 := Blk.cell hNe (j := 7) rfl; have u8 := Blk.cell hNe (j := 8) rfl
        have y0 := Blk.cell hG3 (j := 0) rfl; have y1 := Blk.cell hG3 (j := 1) rfl; have y2 := Blk.cell hG3 (j := 2) rfl; have y3 := Blk.cell hG3 (j := 3) rfl; have y4 := Blk.cell hG3 (j := 4) rfl; have y5 := Blk.cell hG3 (j := 5) rfl; have y6 := Blk.cell hG3 (j := 6) rfl; have y7 := Blk.cell hG3 (j := 7) rfl; have y8 := Blk.cell hG3 (j := 8) rfl
        have z0 := hG3.frozen 0; have z1 := hG3.frozen 1; have z2 := hG3.frozen 2; have z3 := hG3.frozen 3; have z4 := hG3.frozen 4; have z5 := hG3.frozen 5; have z6 := hG3.frozen 6; have z7 := hG3.frozen 7; have z8 := hG3.frozen 8
        have hS0 := And.intro x0 (And.intro x1 (And.intro x2 (And.intro x3 (And.intro x4 (And.intro x5 (And.intro x6 (And.intro x7 x8)))))))
        have hS1 := And.intro u0 (And.intro u1 (And.intro u2 (And.intro u3 (And.intro u4 (And.intro u5 (And.intro u6 (And.intro u7 u8)))))))
        clear hN hG3 hNd hbX hNe x0 x1 x2 x3 x4 x5 x6 x7 x8 u0 u1 u2 u3 u4 u5 u6 u7 u8
        go_region_held3 (fun X => X.cell? ⟨g8, 0, none⟩ = some (.int .u64 (ser : Int)) ∧ X.cell? ⟨g8, 1, none⟩ = some (.int .i64 ep) ∧ X.cell? ⟨g8, 2, none⟩ = some (.int .i64 vw) ∧ X.cell? ⟨g8, 3, none⟩ = some (.int .i64 nm) ∧ X.cell? ⟨g8, 4, none⟩ = some (.int .i64 tp) ∧ X.cell? ⟨g8, 5, none⟩ = some (.int .i64 bs) ∧ X.cell? ⟨g8, 6, none⟩ = some (.int .i64 ar) ∧ X.cell? ⟨g8, 7, none⟩ = some (.int .i64 st) ∧ X.cell? ⟨g8, 8, none⟩ = some (.int .u32 (ch : Int))) (first | with_reducible exact hS0 | with_reducible exact hS1) (fail)
        all_goals
          clear hS0 hS1 y0 y1 y2 y3 y4 y5 y6 y7 y8 z0 z1 z2 z3 z4 z5 z6 z7 z8
          have hE := Blk.drew (Blk.set (Blk.set (Blk.set (Blk.set (Blk.set (Blk.set (Blk.set (Blk.set (Blk.set HX.out.1 0 (.int .u64 (ser : Int))) 1 (.int .i64 ep)) 2 (.int .i64 vw)) 3 (.int .i64 nm)) 4 (.int .i64 tp)) 5 (.int .i64 bs)) 6 (.int .i64 ar)) 7 (.int .i64 st)) 8 (.int .u32 (ch : Int)))
          have hF := Below.drew (HsC.out _ 8 (.int .u32 (ch : Int)) (HsC.out _ 7 (.int .i64 st) (HsC.out _ 6 (.int .i64 ar) (HsC.out _ 5 (.int .i64 bs) (HsC.out _ 4 (.int .i64 tp) (HsC.out _ 3 (.int .i64 nm) (HsC.out _ 2 (.int .i64 vw) (HsC.out _ 1 (.int .i64 ep) (HsC.out _ 0 (.int .u64 (ser : Int)) HX.out.2)))))))))
          generalize World.drew _ = w5 at hE hF ⊢
          have HY := hide (And.intro hE hF)
          have v0 := Blk.cell hE (j := 0) rfl; have v1 := Blk.cell hE (j := 1) rfl; have v2 := Blk.cell hE (j := 2) rfl; have v3 := Blk.cell hE (j := 3) rfl; have v4 := Blk.cell hE (j := 4) rfl; have v5 := Blk.cell hE (j := 5) rfl; have v6 := Blk.cell hE (j := 6) rfl; have v7 := Blk.cell hE (j := 7) rfl; have v8 := Blk.cell hE (j := 8) rfl
          clear hE hF HX
          go_wp2
          refine bodyPost_ret (results_cell2 rfl rfl HY.out.1 Tryz.underlying25 rfl (by kernel_rfl)) rfl ?_
          exact ⟨⟨⟨ser, ep, vw, nm, tp, bs, ar, st, ch⟩, rfl, fun s hs => by first | (injection hs) | cases hs⟩, HY.out.2⟩
    · rw [if_neg (fun h => h2 h.2.1)] at hSV
      subst hSV
      have q2 : (de == 0) = false := by simpa using h2
      go_enter Tryz.func49, Tryz.ntmps49
      go_wp2_with fail
      rw [Hw0.out]
      try rw [Hg.out]
      go_fit HRD.out
      rintro x w1 ⟨A1, c1, rfl, hl1, hc1, hr1, hb1⟩
      have hG1 := hG.below hb1
      have hb01 := hb.trans (hb1.mono hb.size)
      clear HRD
      go_wp2_with fail
      go_fit (HDC.out A1 c1 w1 hl1 hc1 hr1)
      rintro x w2 ⟨rfl, hb2⟩
      have hG2 := hG1.below hb2
      have hb02 := hb01.trans (hb2.mono hb01.size)
      clear hG1 hr1 HDC
      obtain ⟨w3, hw3⟩ : ∃ y, w2.alloc (.cells #[.int .u64 (ser : Int), .int .i64 ep, .int .i64 vw, .int .i64 nm, .int .i64 tp, .int .i64 bs, .int .i64 ar, .int .i64 st, .int .u32 (ch : Int)] 25) = y := ⟨_, rfl⟩
      obtain ⟨g8, hg8⟩ : ∃ y, w2.heap.size = y := ⟨_, rfl⟩
      have hne : g8 ≠ g := by rw [← hg8]; have := hG2.lt; omega
      have hN : Blk w3 g8 [.int .u64 (ser : Int), .int .i64 ep, .int .i64 vw, .int .i64 nm, .int .i64 tp, .int .i64 bs, .int .i64 ar, .int .i64 st, .int .u32 (ch : Int)] 25 := by rw [← hw3, ← hg8]; exact Blk.new w2 _ _
      have hb23 : Below w2.heap.size w2 w3 := by rw [← hw3]; exact (Below.refl _ _).alloc (Nat.le_refl _) _
      have hG3 := hG2.below hb23
      have hbX := hb02.trans (hb23.mono hb02.size)
      have Hw3 := hide hw3
      have Hg8 := hide hg8
      clear hG2 hw3 hg8 hb23 hb2 hb02
      go_wp2_with fail
      rw [Hw3.out, Hg8.out]
      have hNd : Blk w3.drew g8 [.int .u64 (ser : Int), .int .i64 ep, .int .i64 vw, .int .i64 nm, .int .i64 tp, .int .i64 bs, .int .i64 ar, .int .i64 st, .int .u32 (ch : Int)] 25 := hN
      have hNe := Blk.drew (((((((((hN.apart hne 0 (.int .u64 (ser : Int))).apart hne 1 (.int .i64 ep)).apart hne 2 (.int .i64 vw)).apart hne 3 (.int .i64 nm)).apart hne 4 (.int .i64 tp)).apart hne 5 (.int .i64 bs)).apart hne 6 (.int .i64 ar)).apart hne 7 (.int .i64 st)).apart hne 8 (.int .u32 (ch : Int)))
      have HX := hide (And.intro hG3 hbX)
      have x0 := Blk.cell hNd (j := 0) rfl; have x1 := Blk.cell hNd (j := 1) rfl; have x2 := Blk.cell hNd (j := 2) rfl; have x3 := Blk.cell hNd (j := 3) rfl; have x4 := Blk.cell hNd (j := 4) rfl; have x5 := Blk.cell hNd (j := 5) rfl; have x6 := Blk.cell hNd (j := 6) rfl; have x7 := Blk.cell hNd (j := 7) rfl; have x8 := Blk.cell hNd (j := 8) rfl
      have u0 := Blk.cell hNe (j := 0) rfl; have u1 := Blk.cell hNe (j := 1) rfl; have u2 := Blk.cell hNe (j := 2) rfl; have u3 := Blk.cell hNe (j := 3) rfl; have u4 := Blk.cell hNe (j := 4) rfl; have u5 := Blk.cell hNe (j := 5) rfl; have u6 := Blk.cell hNe (j := 6) rfl; have u7 := Blk.cell hNe (j := 7) rfl; have u8 := Blk.cell hNe (j := 8) rfl
      have y0 := Blk.cell hG3 (j := 0) rfl; have y1 := Blk.cell hG3 (j := 1) rfl; have y2 := Blk.cell hG3 (j := 2) rfl; have y3 := Blk.cell hG3 (j := 3) rfl; have y4 := Blk.cell hG3 (j := 4) rfl; have y5 := Blk.cell hG3 (j := 5) rfl; have y6 := Blk.cell hG3 (j := 6) rfl; have y7 := Blk.cell hG3 (j := 7) rfl; have y8 := Blk.cell hG3 (j := 8) rfl
      have z0 := hG3.frozen 0; have z1 := hG3.frozen 1; have z2 := hG3.frozen 2; have z3 := hG3.frozen 3; have z4 := hG3.frozen 4; have z5 := hG3.frozen 5; have z6 := hG3.frozen 6; have z7 := hG3.frozen 7; have z8 := hG3.frozen 8
      have hS0 := And.intro x0 (And.intro x1 (And.intro x2 (And.intro x3 (And.intro x4 (And.intro x5 (And.intro x6 (And.intro x7 x8)))))))
      have hS1 := And.intro u0 (And.intro u1 (And.intro u2 (And.intro u3 (And.intro u4 (And.intro u5 (And.intro u6 (And.intro u7 u8)))))))
      clear hN hG3 hNd hbX hNe x0 x1 x2 x3 x4 x5 x6 x7 x8 u0 u1 u2 u3 u4 u5 u6 u7 u8
      refine wp_region_held_drew (S := fun Z => Z.cell? ⟨g8, 0, none⟩ = some (.int .u64 (ser : Int)) ∧ Z.cell? ⟨g8, 1, none⟩ = some (.int .i64 ep) ∧ Z.cell? ⟨g8, 2, none⟩ = some (.int .i64 vw) ∧ Z.cell? ⟨g8, 3, none⟩ = some (.int .i64 nm) ∧ Z.cell? ⟨g8, 4, none⟩ = some (.int .i64 tp) ∧ Z.cell? ⟨g8, 5, none⟩ = some (.int .i64 bs) ∧ Z.cell? ⟨g8, 6, none⟩ = some (.int .i64 ar) ∧ Z.cell? ⟨g8, 7, none⟩ = some (.int .i64 st) ∧ Z.cell? ⟨g8, 8, none⟩ = some (.int .u32 (ch : Int))) (by kernel_rfl) hS0 (fun _ => ?_)
      refine wpAnyH_take (i := 0) (v := .agg #[.int .u64 (ser : Int), .int .i64 ep, .int .i64 vw, .int .i64 nm, .int .i64 tp, .int .i64 bs, .int .i64 ar, .int .i64 st, .int .u32 (ch : Int)]) rfl (by kernel_rfl) (by kernel_rfl) (by kernel_rfl) (fun _ _ _ h => h) (Or.inl ⟨by rfl, fun Z hZ => ?_⟩) hS0 ?_
      · obtain ⟨z1, z2, z3, z4, z5, z6, z7, z8, z9⟩ := hZ
        go_simp
      refine wpAnyH_take (i := 1) (v := .int .i64 de) rfl (by kernel_rfl) (by kernel_rfl) (by kernel_rfl) (fun _ _ _ h => h) (Or.inl ⟨by rfl, fun Z hZ => ?_⟩) hS0 ?_
      · go_simp
      refine wpAnyH_take (i := 2) (v := .bool false) rfl (by kernel_rfl) (by kernel_rfl) (by kernel_rfl) (fun _ _ _ h => h) (Or.inl ⟨by rfl, fun Z hZ => ?_⟩) hS0 ?_
      · go_simp
      refine wpAnyH_take (i := 3) (v := .bool false) rfl (by kernel_rfl) (by kernel_rfl) (by kernel_rfl) (fun _ _ _ h => h) (Or.inl ⟨by rfl, fun Z hZ => ?_⟩) hS0 ?_
      · go_simp
      refine wpAnyH_take (i := 4) (v := undef) rfl (by kernel_rfl) (by kernel_rfl) (by kernel_rfl) (fun _ _ _ h => h) (Or.inr ⟨by kernel_rfl, rfl⟩) hS0 ?_
      refine wpAnyH_take (i := 5) (v := undef) rfl (by kernel_rfl) (by kernel_rfl) (by kernel_rfl) (fun _ _ _ h => h) (Or.inr ⟨by kernel_rfl, rfl⟩) hS0 ?_
      refine wpAnyH_take (i := 6) (v := undef) rfl (by kernel_rfl) (by kernel_rfl) (by kernel_rfl) (fun _ _ _ h => h) (Or.inr ⟨by kernel_rfl, rfl⟩) hS0 ?_
      refine wpAnyH_take (i := 7) (v := undef) rfl (by kernel_rfl) (by kernel_rfl) (by kernel_rfl) (fun _ _ _ h => h) (Or.inr ⟨by kernel_rfl, rfl⟩) hS0 ?_
      refine wpAnyH_take (i := 8) (v := undef) rfl (by kernel_rfl) (by kernel_rfl) (by kernel_rfl) (fun _ _ _ h => h) (Or.inr ⟨by kernel_rfl, rfl⟩) hS0 ?_
      refine wpAnyH_take (i := 9) (v := undef) rfl (by kernel_rfl) (by kernel_rfl) (by kernel_rfl) (fun _ _ _ h => h) (Or.inr ⟨by kernel_rfl, rfl⟩) hS0 ?_
      refine wpAnyH_take (i := 10) (v := .bool false) rfl (by kernel_rfl) (by kernel_rfl) (by kernel_rfl) (fun _ _ _ h => h) (Or.inl ⟨by rfl, fun Z hZ => ?_⟩) hS0 ?_
      · go_simp
      refine all_one (fuel := 1) (i := 11) (by kernel_rfl) rfl rfl (fun Kk hK => ?_)
      go_simp
      refine hK _ _ ⟨hS1, ?_⟩
      clear hK Kk
      refine wpAnyH_take (i := 12) (v := .bool false) rfl (by kernel_rfl) (by kernel_rfl) (by kernel_rfl) (fun _ _ _ h => h) (Or.inl ⟨by rfl, fun Z hZ => ?_⟩) hS1 ?_
      · go_simp
      refine wpAnyH_done (by kernel_rfl) ?_ _
      all_goals
        clear hS0 hS1 y0 y1 y2 y3 y4 y5 y6 y7 y8 z0 z1 z2 z3 z4 z5 z6 z7 z8
        have hE := Blk.drew (Blk.set (Blk.set (Blk.set (Blk.set (Blk.set (Blk.set (Blk.set (Blk.set (Blk.set HX.out.1 0 (.int .u64 (ser : Int))) 1 (.int .i64 ep)) 2 (.int .i64 vw)) 3 (.int .i64 nm)) 4 (.int .i64 tp)) 5 (.int .i64 bs)) 6 (.int .i64 ar)) 7 (.int .i64 st)) 8 (.int .u32 (ch : Int)))
        have hF := Below.drew (HsC.out _ 8 (.int .u32 (ch : Int)) (HsC.out _ 7 (.int .i64 st) (HsC.out _ 6 (.int .i64 ar) (HsC.out _ 5 (.int .i64 bs) (HsC.out _ 4 (.int .i64 tp) (HsC.out _ 3 (.int .i64 nm) (HsC.out _ 2 (.int .i64 vw) (HsC.out _ 1 (.int .i64 ep) (HsC.out _ 0 (.int .u64 (ser : Int)) HX.out.2)))))))))
        generalize World.drew _ = w5 at hE hF ⊢
        have HY := hide (And.intro hE hF)
        have v0 := Blk.cell hE (j := 0) rfl; have v1 := Blk.cell hE (j := 1) rfl; have v2 := Blk.cell hE (j := 2) rfl; have v3 := Blk.cell hE (j := 3) rfl; have v4 := Blk.cell hE (j := 4) rfl; have v5 := Blk.cell hE (j := 5) rfl; have v6 := Blk.cell hE (j := 6) rfl; have v7 := Blk.cell hE (j := 7) rfl; have v8 := Blk.cell hE (j := 8) rfl
        clear hE hF HX
        go_wp2
        refine bodyPost_ret (results_cell2 rfl rfl HY.out.1 Tryz.underlying25 rfl (by kernel_rfl)) rfl ?_
        exact ⟨⟨⟨ser, ep, vw, nm, tp, bs, ar, st, ch⟩, rfl, fun s hs => by first | (injection hs) | cases hs⟩, HY.out.2⟩
  · rw [if_neg (fun h => h1 h.1)] at hSV
    subst hSV
    have q1 : (er != 0) = true := by simpa using h1
    go_enter Tryz.func49, Tryz.ntmps49
    go_wp2_with fail
    rw [Hw0.out]
    try rw [Hg.out]
    go_fit HRD.out
    rintro x w1 ⟨A1, c1, rfl, hl1, hc1, hr1, hb1⟩
    have hG1 := hG.below hb1
    have hb01 := hb.trans (hb1.mono hb.size)
    clear HRD
    have hG3 := hG1
    have hbX := hb01
    clear hG1
    have y0 := Blk.cell hG3 (j := 0) rfl; have y1 := Blk.cell hG3 (j := 1) rfl; have y2 := Blk.cell hG3 (j := 2) rfl; have y3 := Blk.cell hG3 (j := 3) rfl; have y4 := Blk.cell hG3 (j := 4) rfl; have y5 := Blk.cell hG3 (j := 5) rfl; have y6 := Blk.cell hG3 (j := 6) rfl; have y7 := Blk.cell hG3 (j := 7) rfl; have y8 := Blk.cell hG3 (j := 8) rfl
    have z0 := hG3.frozen 0; have z1 := hG3.frozen 1; have z2 := hG3.frozen 2; have z3 := hG3.frozen 3; have z4 := hG3.frozen 4; have z5 := hG3.frozen 5; have z6 := hG3.frozen 6; have z7 := hG3.frozen 7; have z8 := hG3.frozen 8
    have HX := hide (And.intro hG3 hbX)
    clear hG3 hbX
    go_wp2
    have hG3 := HX.out.1
    refine bodyPost_ret (results_cell2 rfl rfl (((((((((hG3.set 0 _).set 1 _).set 2 _).set 3 _).set 4 _).set 5 _).set 6 _).set 7 _).set 8 _) Tryz.underlying25 rfl (by kernel_rfl)) rfl ?_
    exact ⟨⟨sup0, rfl, fun s hs => by cases hs⟩, (HsC.out _ _ _ (HsC.out _ _ _ (HsC.out _ _ _ (HsC.out _ _ _ (HsC.out _ _ _ (HsC.out _ _ _ (HsC.out _ _ _ (HsC.out _ _ _ (HsC.out _ _ _ HX.out.2)))))))))⟩
end
end Go.Proofs.YtoaodmidegkolaaGreatDoor
namespace Go.Proofs.YtoaodmidegkolaaGreatDoor
set_option maxRecDepth 20000
open Go.RowKit Go.Px Go.Maps
set_option linter.unusedVariables false
section
variable {w w' : World} {Q : Nat → Prop} {t f : Nat} {cs : List Value} {d : Dk}
theorem slotV_mod {d : Dk} {i : Nat} {s : Sup} (h : slotV d i = some s) : s.ser % 2 = i := by
  unfold slotV at h
  split at h
  · rename_i hh; injection h with h; subst h; exact hh.2.2
  · cases h
theorem best_two (d : Dk) : bestAt d 2 = match slotV d 0, slotV d 1 with
    | none, y => y
    | some x, none => some x
    | some x, some y => if y.ser < x.ser then some x else some y := by
  show later (later none (slotV d 0)) (slotV d 1) = _
  cases h0 : slotV d 0 with
  | none => cases slotV d 1 <;> rfl
  | some x => cases h1 : slotV d 1 with
    | none => rfl
    | some y =>
      have a := slotV_mod h0
      have b := slotV_mod h1
      show (if x.ser < y.ser then some y else some x) = if y.ser < x.ser then some x else some y
      by_cases c : x.ser < y.ser
      · rw [if_pos c, if_neg (by omega)]
      · rw [if_neg c, if_pos (by omega)]
set_option maxHeartbeats 6400000 in
theorem rload_any (h : RDIs w Q t f cs d) :
    Calls Tryz.prog 31 #[.pointer (some ⟨t, 0, none⟩)] w fun e w' => e = .returned (.tuple #[.agg (loadV d).cells.toArray, .int .i64 (loadE d)]) ∧ Below w.heap.size w w' := by
  obtain ⟨w0, hw0⟩ : ∃ y, w.alloc (.cells #[.int .u64 0, .int .i64 0, .int .i64 0, .int .i64 0, .int .i64 0, .int .i64 0, .int .i64 0, .int .i64 0, .int .u32 0] 25) = y := ⟨_, rfl⟩
  obtain ⟨g, hg⟩ : ∃ g, w.heap.size = g := ⟨_, rfl⟩
  have hG : Blk w0 g sup0C 25 := by rw [← hw0, ← hg]; exact Blk.new w _ _
  have hb0 : Below w.heap.size w w0 := by rw [← hw0]; exact (Below.refl _ _).alloc (Nat.le_refl _) _
  have hFI := rfits9_any (h.below hb0)
  have HSL := hide (fun W (hW : Below w.heap.size w W) (i : Nat) (hi : i ≤ 65536) => rslot_any (h.below hW) i hi)
  have hLV : loadV d = if fits9 d then (bestAt d 2).getD sup0 else sup0 := rfl
  have hLE : loadE d = if fits9 d then (if (bestAt d 2).isSome then 0 else 91) else 80 := rfl
  have hfd : decide (2 ≤ d.fast.length ∧ 72 ≤ d.size) = decide (fits9 d) := by unfold fits9; rfl
  rw [hfd] at hFI
  rw [best_two] at hLV hLE
  generalize loadV d = LV at hLV ⊢
  generalize loadE d = LE at hLE ⊢
  have hsC : ∀ (X : World) (q : Nat) (u : Value), Below w.heap.size w X → Below w.heap.size w (X.setCell ⟨g, q, none⟩ u) := fun X q u hX => hX.setCell (by show w.heap.size ≤ g; omega) _
  have HsC := hide hsC
  have Hw0 := hide hw0
  have Hg := hide hg
  clear hsC hw0 hg h hfd
  by_cases h1 : fits9 d
  · rw [decide_eq_true h1] at hFI
    rw [if_pos h1] at hLV hLE
    clear h1
    have HFI := hide hFI
    clear hFI
    have H0 := hide (fun W hW => HSL.out W hW 0 (by omega))
    have H1 := hide (fun W hW => HSL.out W hW 1 (by omega))
    clear HSL
    generalize slotV d 0 = X0 at H0 hLV hLE
    generalize slotV d 1 = X1 at H1 hLV hLE
    have HL := hide (And.intro hLV hLE)
    clear hLV hLE
    go_enter Tryz.func31, Tryz.ntmps31
    go_wp2_with fail
    rw [Hw0.out]
    try rw [Hg.out]
    go_fit HFI.out
    rintro x w1 ⟨rfl, rfl⟩
    clear HFI
    go_wp2_with fail
    go_fit (H0.out _ hb0)
    rintro x w2 ⟨⟨V0, rfl, hV0⟩, hb2⟩
    obtain ⟨ser0, ep0, vw0, nm0, tp0, bs0, ar0, st0, ch0⟩ := V0
    have hG2 := hG.below hb2
    have hb02 := hb0.trans (hb2.mono hb0.size)
    clear hG hb0 hb2 H0
    obtain ⟨w3, hw3⟩ : ∃ y, w2.alloc (.cells #[.int .u64 (ser0 : Int), .int .i64 ep0, .int .i64 vw0, .int .i64 nm0, .int .i64 tp0, .int .i64 bs0, .int .i64 ar0, .int .i64 st0, .int .u32 (ch0 : Int)] 25) = y := ⟨_, rfl⟩
    obtain ⟨g3, hg3⟩ : ∃ y, w2.heap.size = y := ⟨_, rfl⟩
    have hN : Blk w3 g3 [.int .u64 (ser0 : Int), .int .i64 ep0, .int .i64 vw0, .int .i64 nm0, .int .i64 tp0, .int .i64 bs0, .int .i64 ar0, .int .i64 st0, .int .u32 (ch0 : Int)] 25 := by rw [← hw3, ← hg3]; exact Blk.new w2 _ _
    have hb23 : Below w2.heap.size w2 w3 := by rw [← hw3]; exact (Below.refl _ _).alloc (Nat.le_refl _) _
    have hG3 := hG2.below hb23
    have hb03 := hb02.trans (hb23.mono hb02.size)
    have Hw3 := hide hw3
    have Hg3 := hide hg3
    clear hG2 hw3 hg3 hb23 hb02
    go_wp2_with fail
    rw [Hw3.out, Hg3.out]
    clear Hw3 Hg3
    go_fit (H1.out _ hb03)
    rintro x w4 ⟨⟨V1, rfl, hV1⟩, hb4⟩
    obtain ⟨ser1, ep1, vw1, nm1, tp1, bs1, ar1, st1, ch1⟩ := V1
    have hG4 := hG3.below hb4
    have hN4 := hN.below hb4
    have hb04 := hb03.trans (hb4.mono hb03.size)
    clear hG3 hN hb03 hb4 H1
    have hL := HL.out
    clear HL
    rcases X0 with _ | s0
    · rcases X1 with _ | s1
      · obtain ⟨e1, e2⟩ : LV = sup0 ∧ LE = 91 := hL
        subst e1 e2
        try clear hL
        clear hV0 hV1
        have hGx := hG4.alloc (.cells #[.int .u64 (ser1 : Int), .int .i64 ep1, .int .i64 vw1, .int .i64 nm1, .int .i64 tp1, .int .i64 bs1, .int .i64 ar1, .int .i64 st1, .int .u32 (ch1 : Int)] 25)
        have hNx := hN4.alloc (.cells #[.int .u64 (ser1 : Int), .int .i64 ep1, .int .i64 vw1, .int .i64 nm1, .int .i64 tp1, .int .i64 bs1, .int .i64 ar1, .int .i64 st1, .int .u32 (ch1 : Int)] 25)
        have hMx := Blk.new w4 [.int .u64 (ser1 : Int), .int .i64 ep1, .int .i64 vw1, .int .i64 nm1, .int .i64 tp1, .int .i64 bs1, .int .i64 ar1, .int .i64 st1, .int .u32 (ch1 : Int)] 25
        have hbx := hb04.alloc hb04.size (.cells #[.int .u64 (ser1 : Int), .int .i64 ep1, .int .i64 vw1, .int .i64 nm1, .int .i64 tp1, .int .i64 bs1, .int .i64 ar1, .int .i64 st1, .int .u32 (ch1 : Int)] 25)
        have y0 := Blk.cell hGx (j := 0) rfl; have y1 := Blk.cell hGx (j := 1) rfl; have y2 := Blk.cell hGx (j := 2) rfl; have y3 := Blk.cell hGx (j := 3) rfl; have y4 := Blk.cell hGx (j := 4) rfl; have y5 := Blk.cell hGx (j := 5) rfl; have y6 := Blk.cell hGx (j := 6) rfl; have y7 := Blk.cell hGx (j := 7) rfl; have y8 := Blk.cell hGx (j := 8) rfl
        have x0 := Blk.cell hNx (j := 0) rfl; have x1 := Blk.cell hNx (j := 1) rfl; have x2 := Blk.cell hNx (j := 2) rfl; have x3 := Blk.cell hNx (j := 3) rfl; have x4 := Blk.cell hNx (j := 4) rfl; have x5 := Blk.cell hNx (j := 5) rfl; have x6 := Blk.cell hNx (j := 6) rfl; have x7 := Blk.cell hNx (j := 7) rfl; have x8 := Blk.cell hNx (j := 8) rfl
        have u0 := Blk.cell hMx (j := 0) rfl; have u1 := Blk.cell hMx (j := 1) rfl; have u2 := Blk.cell hMx (j := 2) rfl; have u3 := Blk.cell hMx (j := 3) rfl; have u4 := Blk.cell hMx (j := 4) rfl; have u5 := Blk.cell hMx (j := 5) rfl; have u6 := Blk.cell hMx (j := 6) rfl; have u7 := Blk.cell hMx (j := 7) rfl; have u8 := Blk.cell hMx (j := 8) rfl
        have z0 := hGx.frozen 0; have z1 := hGx.frozen 1; have z2 := hGx.frozen 2; have z3 := hGx.frozen 3; have z4 := hGx.frozen 4; have z5 := hGx.frozen 5; have z6 := hGx.frozen 6; have z7 := hGx.frozen 7; have z8 := hGx.frozen 8
        have HX := hide (And.intro hGx hbx)
        clear hGx hNx hMx hbx hG4 hN4 hb04
        go_wp2
        refine bodyPost_ret (results_cell2 rfl rfl (((((((((HX.out.1.set 0 _).set 1 _).set 2 _).set 3 _).set 4 _).set 5 _).set 6 _).set 7 _).set 8 _) Tryz.underlying25 rfl (by kernel_rfl)) rfl ?_
        exact ⟨rfl, (HsC.out _ _ _ (HsC.out _ _ _ (HsC.out _ _ _ (HsC.out _ _ _ (HsC.out _ _ _ (HsC.out _ _ _ (HsC.out _ _ _ (HsC.out _ _ _ (HsC.out _ _ _ HX.out.2)))))))))⟩
      · obtain ⟨e1, e2⟩ : LV = s1 ∧ LE = 0 := hL
        obtain rfl := hV1 s1 rfl
        subst e1 e2
        try clear hL
        clear hV0 hV1
        have hGx := hG4.alloc (.cells #[.int .u64 (ser1 : Int), .int .i64 ep1, .int .i64 vw1, .int .i64 nm1, .int .i64 tp1, .int .i64 bs1, .int .i64 ar1, .int .i64 st1, .int .u32 (ch1 : Int)] 25)
        have hNx := hN4.alloc (.cells #[.int .u64 (ser1 : Int), .int .i64 ep1, .int .i64 vw1, .int .i64 nm1, .int .i64 tp1, .int .i64 bs1, .int .i64 ar1, .int .i64 st1, .int .u32 (ch1 : Int)] 25)
        have hMx := Blk.new w4 [.int .u64 (ser1 : Int), .int .i64 ep1, .int .i64 vw1, .int .i64 nm1, .int .i64 tp1, .int .i64 bs1, .int .i64 ar1, .int .i64 st1, .int .u32 (ch1 : Int)] 25
        have hbx := hb04.alloc hb04.size (.cells #[.int .u64 (ser1 : Int), .int .i64 ep1, .int .i64 vw1, .int .i64 nm1, .int .i64 tp1, .int .i64 bs1, .int .i64 ar1, .int .i64 st1, .int .u32 (ch1 : Int)] 25)
        have y0 := Blk.cell hGx (j := 0) rfl; have y1 := Blk.cell hGx (j := 1) rfl; have y2 := Blk.cell hGx (j := 2) rfl; have y3 := Blk.cell hGx (j := 3) rfl; have y4 := Blk.cell hGx (j := 4) rfl; have y5 := Blk.cell hGx (j := 5) rfl; have y6 := Blk.cell hGx (j := 6) rfl; have y7 := Blk.cell hGx (j := 7) rfl; have y8 := Blk.cell hGx (j := 8) rfl
        have x0 := Blk.cell hNx (j := 0) rfl; have x1 := Blk.cell hNx (j := 1) rfl; have x2 := Blk.cell hNx (j := 2) rfl; have x3 := Blk.cell hNx (j := 3) rfl; have x4 := Blk.cell hNx (j := 4) rfl; have x5 := Blk.cell hNx (j := 5) rfl; have x6 := Blk.cell hNx (j := 6) rfl; have x7 := Blk.cell hNx (j := 7) rfl; have x8 := Blk.cell hNx (j := 8) rfl
        have u0 := Blk.cell hMx (j := 0) rfl; have u1 := Blk.cell hMx (j := 1) rfl; have u2 := Blk.cell hMx (j := 2) rfl; have u3 := Blk.cell hMx (j := 3) rfl; have u4 := Blk.cell hMx (j := 4) rfl; have u5 := Blk.cell hMx (j := 5) rfl; have u6 := Blk.cell hMx (j := 6) rfl; have u7 := Blk.cell hMx (j := 7) rfl; have u8 := Blk.cell hMx (j := 8) rfl
        have z0 := hGx.frozen 0; have z1 := hGx.frozen 1; have z2 := hGx.frozen 2; have z3 := hGx.frozen 3; have z4 := hGx.frozen 4; have z5 := hGx.frozen 5; have z6 := hGx.frozen 6; have z7 := hGx.frozen 7; have z8 := hGx.frozen 8
        have HX := hide (And.intro hGx hbx)
        clear hGx hNx hMx hbx hG4 hN4 hb04
        go_wp2
        refine bodyPost_ret (results_cell2 rfl rfl (((((((((HX.out.1.set 0 _).set 1 _).set 2 _).set 3 _).set 4 _).set 5 _).set 6 _).set 7 _).set 8 _) Tryz.underlying25 rfl (by kernel_rfl)) rfl ?_
        exact ⟨rfl, (HsC.out _ _ _ (HsC.out _ _ _ (HsC.out _ _ _ (HsC.out _ _ _ (HsC.out _ _ _ (HsC.out _ _ _ (HsC.out _ _ _ (HsC.out _ _ _ (HsC.out _ _ _ HX.out.2)))))))))⟩
    · obtain rfl := hV0 s0 rfl
      rcases X1 with _ | s1
      · obtain ⟨e1, e2⟩ : LV = ⟨ser0, ep0, vw0, nm0, tp0, bs0, ar0, st0, ch0⟩ ∧ LE = 0 := hL
        subst e1 e2
        try clear hL
        clear hV0 hV1
        have hGx := hG4.alloc (.cells #[.int .u64 (ser1 : Int), .int .i64 ep1, .int .i64 vw1, .int .i64 nm1, .int .i64 tp1, .int .i64 bs1, .int .i64 ar1, .int .i64 st1, .int .u32 (ch1 : Int)] 25)
        have hNx := hN4.alloc (.cells #[.int .u64 (ser1 : Int), .int .i64 ep1, .int .i64 vw1, .int .i64 nm1, .int .i64 tp1, .int .i64 bs1, .int .i64 ar1, .int .i64 st1, .int .u32 (ch1 : Int)] 25)
        have hMx := Blk.new w4 [.int .u64 (ser1 : Int), .int .i64 ep1, .int .i64 vw1, .int .i64 nm1, .int .i64 tp1, .int .i64 bs1, .int .i64 ar1, .int .i64 st1, .int .u32 (ch1 : Int)] 25
        have hbx := hb04.alloc hb04.size (.cells #[.int .u64 (ser1 : Int), .int .i64 ep1, .int .i64 vw1, .int .i64 nm1, .int .i64 tp1, .int .i64 bs1, .int .i64 ar1, .int .i64 st1, .int .u32 (ch1 : Int)] 25)
        have y0 := Blk.cell hGx (j := 0) rfl; have y1 := Blk.cell hGx (j := 1) rfl; have y2 := Blk.cell hGx (j := 2) rfl; have y3 := Blk.cell hGx (j := 3) rfl; have y4 := Blk.cell hGx (j := 4) rfl; have y5 := Blk.cell hGx (j := 5) rfl; have y6 := Blk.cell hGx (j := 6) rfl; have y7 := Blk.cell hGx (j := 7) rfl; have y8 := Blk.cell hGx (j := 8) rfl
        have x0 := Blk.cell hNx (j := 0) rfl; have x1 := Blk.cell hNx (j := 1) rfl; have x2 := Blk.cell hNx (j := 2) rfl; have x3 := Blk.cell hNx (j := 3) rfl; have x4 := Blk.cell hNx (j := 4) rfl; have x5 := Blk.cell hNx (j := 5) rfl; have x6 := Blk.cell hNx (j := 6) rfl; have x7 := Blk.cell hNx (j := 7) rfl; have x8 := Blk.cell hNx (j := 8) rfl
        have u0 := Blk.cell hMx (j := 0) rfl; have u1 := Blk.cell hMx (j := 1) rfl; have u2 := Blk.cell hMx (j := 2) rfl; have u3 := Blk.cell hMx (j := 3) rfl; have u4 := Blk.cell hMx (j := 4) rfl; have u5 := Blk.cell hMx (j := 5) rfl; have u6 := Blk.cell hMx (j := 6) rfl; have u7 := Blk.cell hMx (j := 7) rfl; have u8 := Blk.cell hMx (j := 8) rfl
        have z0 := hGx.frozen 0; have z1 := hGx.frozen 1; have z2 := hGx.frozen 2; have z3 := hGx.frozen 3; have z4 := hGx.frozen 4; have z5 := hGx.frozen 5; have z6 := hGx.frozen 6; have z7 := hGx.frozen 7; have z8 := hGx.frozen 8
        have HX := hide (And.intro hGx hbx)
        clear hGx hNx hMx hbx hG4 hN4 hb04
        go_wp2
        refine bodyPost_ret (results_cell2 rfl rfl (((((((((HX.out.1.set 0 _).set 1 _).set 2 _).set 3 _).set 4 _).set 5 _).set 6 _).set 7 _).set 8 _) Tryz.underlying25 rfl (by kernel_rfl)) rfl ?_
        exact ⟨rfl, (HsC.out _ _ _ (HsC.out _ _ _ (HsC.out _ _ _ (HsC.out _ _ _ (HsC.out _ _ _ (HsC.out _ _ _ (HsC.out _ _ _ (HsC.out _ _ _ (HsC.out _ _ _ HX.out.2)))))))))⟩
      · obtain rfl := hV1 s1 rfl
        by_cases hc : ser1 < ser0
        · obtain ⟨e1, e2⟩ : LV = ⟨ser0, ep0, vw0, nm0, tp0, bs0, ar0, st0, ch0⟩ ∧ LE = 0 := by
            obtain ⟨a, b⟩ := hL
            simp only [if_pos hc] at a b
            exact ⟨a, b⟩
          subst e1 e2
          have q1 : decide ((ser1 : Int) < (ser0 : Int)) = true := decide_eq_true (by omega)
          have q2 : decide (ser1 < ser0) = true := decide_eq_true hc
          try clear hL
          clear hV0 hV1
          have hGx := hG4.alloc (.cells #[.int .u64 (ser1 : Int), .int .i64 ep1, .int .i64 vw1, .int .i64 nm1, .int .i64 tp1, .int .i64 bs1, .int .i64 ar1, .int .i64 st1, .int .u32 (ch1 : Int)] 25)
          have hNx := hN4.alloc (.cells #[.int .u64 (ser1 : Int), .int .i64 ep1, .int .i64 vw1, .int .i64 nm1, .int .i64 tp1, .int .i64 bs1, .int .i64 ar1, .int .i64 st1, .int .u32 (ch1 : Int)] 25)
          have hMx := Blk.new w4 [.int .u64 (ser1 : Int), .int .i64 ep1, .int .i64 vw1, .int .i64 nm1, .int .i64 tp1, .int .i64 bs1, .int .i64 ar1, .int .i64 st1, .int .u32 (ch1 : Int)] 25
          have hbx := hb04.alloc hb04.size (.cells #[.int .u64 (ser1 : Int), .int .i64 ep1, .int .i64 vw1, .int .i64 nm1, .int .i64 tp1, .int .i64 bs1, .int .i64 ar1, .int .i64 st1, .int .u32 (ch1 : Int)] 25)
          have y0 := Blk.cell hGx (j := 0) rfl; have y1 := Blk.cell hGx (j := 1) rfl; have y2 := Blk.cell hGx (j := 2) rfl; have y3 := Blk.cell hGx (j := 3) rfl; have y4 := Blk.cell hGx (j := 4) rfl; have y5 := Blk.cell hGx (j := 5) rfl; have y6 := Blk.cell hGx (j := 6) rfl; have y7 := Blk.cell hGx (j := 7) rfl; have y8 := Blk.cell hGx (j := 8) rfl
          have x0 := Blk.cell hNx (j := 0) rfl; have x1 := Blk.cell hNx (j := 1) rfl; have x2 := Blk.cell hNx (j := 2) rfl; have x3 := Blk.cell hNx (j := 3) rfl; have x4 := Blk.cell hNx (j := 4) rfl; have x5 := Blk.cell hNx (j := 5) rfl; have x6 := Blk.cell hNx (j := 6) rfl; have x7 := Blk.cell hNx (j := 7) rfl; have x8 := Blk.cell hNx (j := 8) rfl
          have u0 := Blk.cell hMx (j := 0) rfl; have u1 := Blk.cell hMx (j := 1) rfl; have u2 := Blk.cell hMx (j := 2) rfl; have u3 := Blk.cell hMx (j := 3) rfl; have u4 := Blk.cell hMx (j := 4) rfl; have u5 := Blk.cell hMx (j := 5) rfl; have u6 := Blk.cell hMx (j := 6) rfl; have u7 := Blk.cell hMx (j := 7) rfl; have u8 := Blk.cell hMx (j := 8) rfl
          have z0 := hGx.frozen 0; have z1 := hGx.frozen 1; have z2 := hGx.frozen 2; have z3 := hGx.frozen 3; have z4 := hGx.frozen 4; have z5 := hGx.frozen 5; have z6 := hGx.frozen 6; have z7 := hGx.frozen 7; have z8 := hGx.frozen 8
          have HX := hide (And.intro hGx hbx)
          clear hGx hNx hMx hbx hG4 hN4 hb04
          go_wp2
          refine bodyPost_ret (results_cell2 rfl rfl (((((((((HX.out.1.set 0 _).set 1 _).set 2 _).set 3 _).set 4 _).set 5 _).set 6 _).set 7 _).set 8 _) Tryz.underlying25 rfl (by kernel_rfl)) rfl ?_
          exact ⟨rfl, (HsC.out _ _ _ (HsC.out _ _ _ (HsC.out _ _ _ (HsC.out _ _ _ (HsC.out _ _ _ (HsC.out _ _ _ (HsC.out _ _ _ (HsC.out _ _ _ (HsC.out _ _ _ HX.out.2)))))))))⟩
        · obtain ⟨e1, e2⟩ : LV = ⟨ser1, ep1, vw1, nm1, tp1, bs1, ar1, st1, ch1⟩ ∧ LE = 0 := by
            obtain ⟨a, b⟩ := hL
            simp only [if_neg hc] at a b
            exact ⟨a, b⟩
          subst e1 e2
          have q1 : decide ((ser1 : Int) < (ser0 : Int)) = false := decide_eq_false (by omega)
          have q2 : decide (ser1 < ser0) = false := decide_eq_false hc
          try clear hL
          clear hV0 hV1
          have hGx := hG4.alloc (.cells #[.int .u64 (ser1 : Int), .int .i64 ep1, .int .i64 vw1, .int .i64 nm1, .int .i64 tp1, .int .i64 bs1, .int .i64 ar1, .int .i64 st1, .int .u32 (ch1 : Int)] 25)
          have hNx := hN4.alloc (.cells #[.int .u64 (ser1 : Int), .int .i64 ep1, .int .i64 vw1, .int .i64 nm1, .int .i64 tp1, .int .i64 bs1, .int .i64 ar1, .int .i64 st1, .int .u32 (ch1 : Int)] 25)
          have hMx := Blk.new w4 [.int .u64 (ser1 : Int), .int .i64 ep1, .int .i64 vw1, .int .i64 nm1, .int .i64 tp1, .int .i64 bs1, .int .i64 ar1, .int .i64 st1, .int .u32 (ch1 : Int)] 25
          have hbx := hb04.alloc hb04.size (.cells #[.int .u64 (ser1 : Int), .int .i64 ep1, .int .i64 vw1, .int .i64 nm1, .int .i64 tp1, .int .i64 bs1, .int .i64 ar1, .int .i64 st1, .int .u32 (ch1 : Int)] 25)
          have y0 := Blk.cell hGx (j := 0) rfl; have y1 := Blk.cell hGx (j := 1) rfl; have y2 := Blk.cell hGx (j := 2) rfl; have y3 := Blk.cell hGx (j := 3) rfl; have y4 := Blk.cell hGx (j := 4) rfl; have y5 := Blk.cell hGx (j := 5) rfl; have y6 := Blk.cell hGx (j := 6) rfl; have y7 := Blk.cell hGx (j := 7) rfl; have y8 := Blk.cell hGx (j := 8) rfl
          have x0 := Blk.cell hNx (j := 0) rfl; have x1 := Blk.cell hNx (j := 1) rfl; have x2 := Blk.cell hNx (j := 2) rfl; have x3 := Blk.cell hNx (j := 3) rfl; have x4 := Blk.cell hNx (j := 4) rfl; have x5 := Blk.cell hNx (j := 5) rfl; have x6 := Blk.cell hNx (j := 6) rfl; have x7 := Blk.cell hNx (j := 7) rfl; have x8 := Blk.cell hNx (j := 8) rfl
          have u0 := Blk.cell hMx (j := 0) rfl; have u1 := Blk.cell hMx (j := 1) rfl; have u2 := Blk.cell hMx (j := 2) rfl; have u3 := Blk.cell hMx (j := 3) rfl; have u4 := Blk.cell hMx (j := 4) rfl; have u5 := Blk.cell hMx (j := 5) rfl; have u6 := Blk.cell hMx (j := 6) rfl; have u7 := Blk.cell hMx (j := 7) rfl; have u8 := Blk.cell hMx (j := 8) rfl
          have z0 := hGx.frozen 0; have z1 := hGx.frozen 1; have z2 := hGx.frozen 2; have z3 := hGx.frozen 3; have z4 := hGx.frozen 4; have z5 := hGx.frozen 5; have z6 := hGx.frozen 6; have z7 := hGx.frozen 7; have z8 := hGx.frozen 8
          have HX := hide (And.intro hGx hbx)
          clear hGx hNx hMx hbx hG4 hN4 hb04
          go_wp2
          refine bodyPost_ret (results_cell2 rfl rfl (((((((((HX.out.1.set 0 _).set 1 _).set 2 _).set 3 _).set 4 _).set 5 _).set 6 _).set 7 _).set 8 _) Tryz.underlying25 rfl (by kernel_rfl)) rfl ?_
          exact ⟨rfl, (HsC.out _ _ _ (HsC.out _ _ _ (HsC.out _ _ _ (HsC.out _ _ _ (HsC.out _ _ _ (HsC.out _ _ _ (HsC.out _ _ _ (HsC.out _ _ _ (HsC.out _ _ _ HX.out.2)))))))))⟩
  · rw [decide_eq_false h1] at hFI
    rw [if_neg h1] at hLV hLE
    subst hLV hLE
    clear h1 HSL
    have HFI := hide hFI
    clear hFI
    go_enter Tryz.func31, Tryz.ntmps31
    go_wp2_with fail
    rw [Hw0.out]
    try rw [Hg.out]
    go_fit HFI.out
    rintro x w1 ⟨rfl, rfl⟩
    have hGx := hG
    have y0 := Blk.cell hGx (j := 0) rfl; have y1 := Blk.cell hGx (j := 1) rfl; have y2 := Blk.cell hGx (j := 2) rfl; have y3 := Blk.cell hGx (j := 3) rfl; have y4 := Blk.cell hGx (j := 4) rfl; have y5 := Blk.cell hGx (j := 5) rfl; have y6 := Blk.cell hGx (j := 6) rfl; have y7 := Blk.cell hGx (j := 7) rfl; have y8 := Blk.cell hGx (j := 8) rfl
    have z0 := hGx.frozen 0; have z1 := hGx.frozen 1; have z2 := hGx.frozen 2; have z3 := hGx.frozen 3; have z4 := hGx.frozen 4; have z5 := hGx.frozen 5; have z6 := hGx.frozen 6; have z7 := hGx.frozen 7; have z8 := hGx.frozen 8
    have HX := hide (And.intro hGx hb0)
    clear hGx hG hb0
    go_wp2
    refine bodyPost_ret (results_cell2 rfl rfl (((((((((HX.out.1.set 0 _).set 1 _).set 2 _).set 3 _).set 4 _).set 5 _).set 6 _).set 7 _).set 8 _) Tryz.underlying25 rfl (by kernel_rfl)) rfl ?_
    exact ⟨rfl, (HsC.out _ _ _ (HsC.out _ _ _ (HsC.out _ _ _ (HsC.out _ _ _ (HsC.out _ _ _ (HsC.out _ _ _ (HsC.out _ _ _ (HsC.out _ _ _ (HsC.out _ _ _ HX.out.2)))))))))⟩
end
end Go.Proofs.YtoaodmidegkolaaGreatDoor
