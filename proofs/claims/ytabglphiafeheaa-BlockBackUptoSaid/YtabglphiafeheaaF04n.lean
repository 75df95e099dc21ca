/- awake of the laws of layer 4. -/
import Derived.Test.YtabglphiafeheaaF04k
namespace Go.Proofs.Ytabglphiafeheaa
open Go.RowKit Go.Px
set_option linter.unusedVariables false

def wBytes : List UInt8 := [2, 7, 0, 0, 0, 2, 0, 0, 0, 4, 0, 0, 0, 97, 98, 99, 100, 0, 0, 0, 0]
theorem wBytes_ok : DecOk wBytes 2 7 2 [97, 98, 99, 100] 17 [] 21 := by
  constructor <;> decide
theorem wEnc : encL 2 7 2 [97, 98, 99, 100] [] = wBytes := by decide
theorem wFm : fmE 2 7 2 4 0 = 0 := by decide
set_option maxHeartbeats 1600000 in
theorem awake04_any (w : World) : Calls Try.prog 19 #[] w fun e w' => e = .returned (.bool true) ∧ Below w.heap.size w w' := by
  obtain ⟨g, hg⟩ : ∃ g, w.heap.size = g := ⟨_, rfl⟩
  obtain ⟨w0, hw0⟩ : ∃ w0, (w.alloc (.cells #[.int .u8 97, .int .u8 98, .int .u8 99, .int .u8 100] 5 (4, 5))).alloc (.cells #[.int .u8 2, .int .i64 7, .int .i64 2, .slice (some ⟨g, 0, none⟩) 4 4, .slice none 0 0] 27) = w0 := ⟨_, rfl⟩
  have hr0 : Rd w0 (some ⟨g, 0, none⟩) (bys [97, 98, 99, 100]) := by rw [← hw0, ← hg]; exact (Rd.newN w (bys [97, 98, 99, 100]) _ (4, 5)).alloc _
  have hB0 : Blk w0 (g + 1) [.int .u8 2, .int .i64 7, .int .i64 2, .slice (some ⟨g, 0, none⟩) 4 4, .slice none 0 0] 27 := by
    rw [← hw0]
    have := Blk.new (w.alloc (.cells #[.int .u8 97, .int .u8 98, .int .u8 99, .int .u8 100] 5 (4, 5))) [.int .u8 2, .int .i64 7, .int .i64 2, .slice (some ⟨g, 0, none⟩) 4 4, .slice none 0 0] 27
    rwa [World.size_alloc, hg] at this
  have hb0 : Below w.heap.size w w0 := by rw [← hw0]; exact ((Below.refl _ _).alloc (Nat.le_refl _) _).alloc (by simp) _
  have Hw0 := hide hw0
  clear hw0
  go_enter Try.func19, Try.ntmps19
  go_wp2_with fail
  rw [Hw0.out]
  have x0 := hB0.cell (j := 0) rfl
  have x1 := hB0.cell (j := 1) rfl
  have x2 := hB0.cell (j := 2) rfl
  have x3 := hB0.cell (j := 3) rfl
  have x4 := hB0.cell (j := 4) rfl
  go_fit (fit_any 8 2 2 7 2 (some ⟨g, 0, none⟩) 4 4 none 0 0 w0 (by decide))
  rintro x w1 ⟨hx, hb1⟩
  rw [show ftC 8 2 2 7 2 4 0 = 2 from by decide, show ftE 8 2 2 7 2 4 0 = 0 from by decide] at hx
  subst hx
  have hB1 := hB0.below hb1
  have hr1 := hr0.below hb1
  have hb01 := hb0.trans (hb1.mono hb0.size)
  have y0 := hB1.cell (j := 0) rfl
  have y1 := hB1.cell (j := 1) rfl
  have y2 := hB1.cell (j := 2) rfl
  have y3 := hB1.cell (j := 3) rfl
  have y4 := hB1.cell (j := 4) rfl
  clear x0 x1 x2 x3 x4
  go_wp2_with fail
  go_fit (enc_any 2 7 2 (some ⟨g, 0, none⟩) 4 4 [97, 98, 99, 100] none 0 0 [] w1 (by decide) rfl rfl hr1 Rd.nil)
  rintro x w2 ⟨v, hx, ho2, hb2⟩
  rw [show fmE 2 7 2 ([97, 98, 99, 100] : List UInt8).length ([] : List UInt8).length = 0 from by decide] at hx
  subst hx
  rw [wEnc] at ho2
  obtain ⟨A2, c2, rfl, _, hc2, hcm2, hr2, ha2⟩ := own_out ho2
  have hb02 := hb01.trans (hb2.mono hb01.size)
  go_wp2_with fail
  go_fit (dec_ok A2 wBytes.length c2 wBytes 2 7 2 [97, 98, 99, 100] 17 [] 21 w2 rfl hc2 (by decide) (by unfold maxLen at hcm2; omega) hr2 (fun a ha => (ha2 a ha).2) wBytes_ok)
  rintro x w3 ⟨D, dc, O, oc, rfl, hD, hO, uD, uO, hb3⟩
  have cD := convB dc (n := 4) rfl (hD.alloc (.cells #[.int .u8 2, .int .i64 7, .int .i64 2, .slice D 4 dc, .slice O 0 oc] 27))
  have hb03 := hb02.trans (hb3.mono hb02.size)
  go_wp2
  go_ret
  refine ⟨?_, hb03.alloc hb03.size _⟩
  rfl
end Go.Proofs.Ytabglphiafeheaa
