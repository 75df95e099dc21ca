/- block.DecodeOp. -/
import Derived.Test.YtabglphiafeheaaF04j
import Derived.Outline
import Derived.Test.YtabglphiafeheaaRes
namespace Go.Proofs.Ytabglphiafeheaa
open Go.RowKit Go.Px
set_option linter.unusedVariables false
def DecIs (k p n : Nat) (ds os : List UInt8) (t2 : Int) (w : World) (e : Ending) (w' : World) : Prop :=
  ∃ D dc O oc, e = .returned (.tuple #[opv k p n D ds.length dc O os.length oc, .int .i64 t2, .int .i64 0]) ∧ Rd w' D (bys ds) ∧ Rd w' O (bys os) ∧ Up w.heap.size D ∧ Up w.heap.size O ∧ Below w.heap.size w w'
theorem wp_noexit {P : Program} {c : Code} {K : Act → World → Prop} {Q : Exit → Act → World → Prop} {a : Act} {w : World} (h : c.wp P (Exit.then K (fun _ _ _ => False)) a w) : c.wp P (Exit.then K Q) a w :=
  Code.wp_mono (fun e a w h => by cases e <;> first | exact h | exact h.elim) h
theorem of_any (A : Option Addr) (m c : Nat) (w : World) : Calls Try.prog 39 #[.slice A m c] w fun e w' => e = .returned (.agg #[.slice A m c, .int .i64 0]) ∧ Below w.heap.size w w' := by
  go_enter Try.func39, Try.ntmps39
  go_wp2
  refine bodyPost_ret (results_cell rfl rfl (Blk.new w [.slice A m c, .int .i64 0] _) Try.underlying62 rfl (by kernel_rfl)) rfl ?_
  exact ⟨rfl, (Below.refl _ _).alloc (Nat.le_refl _) _⟩
theorem at_any (b : Nat) (T : TypeId) (u : Value) (i : Int) (w : World) (hB : Blk w b [u, .int .i64 i] T) : Calls Try.prog 41 #[.pointer (some ⟨b, 0, none⟩)] w fun e w' => e = .returned (.int .i64 i) ∧ w = w' := by
  have x1 := hB.cell (j := 1) rfl
  go_enter Try.func41, Try.ntmps41
  go_wp2
  go_ret
  exact ⟨rfl, rfl⟩
set_option maxHeartbeats 3200000 in
theorem dec_ok (A : Option Addr) (m c : Nat) (bs : List UInt8) (k p n : Nat) (ds : List UInt8) (t1 : Int) (os : List UInt8) (t2 : Int) (w : World) (hm : bs.length = m) (hmc : m ≤ c) (hm8 : m ≤ 140737488355328) (hc : c ≤ 9223372036854775807) (hr : Rd w A (bys bs))
    (hlo : Lo w.heap.size A) (ok : DecOk bs k p n ds t1 os t2) :
    Calls Try.prog 24 #[.slice A m c] w (DecIs k p n ds os t2 w) := by
  have hmf : ∀ (fn : Fn) (first cap : Array Value) (w : World), (Instr.makeFunc fn first cap).run Try.prog w = .ok (.func fn first cap) w := fun _ _ _ _ => rfl
  obtain ⟨g, hg⟩ : ∃ g, w.heap.size = g := ⟨_, rfl⟩
  obtain ⟨w0, hw0⟩ : ∃ w0, (w.alloc (.cells #[.int .u8 0, .int .i64 0, .int .i64 0, .slice none 0 0, .slice none 0 0] 27)).alloc (.cells #[.int .i64 0] 31) = w0 := ⟨_, rfl⟩
  have hR : Blk w0 g [.int .u8 0, .int .i64 0, .int .i64 0, .slice none 0 0, .slice none 0 0] 27 := by rw [← hw0, ← hg]; exact (Blk.new w [.int .u8 0, .int .i64 0, .int .i64 0, .slice none 0 0, .slice none 0 0] _).alloc _
  have hE : Blk w0 (g + 1) [.int .i64 0] 31 := by
    rw [← hw0, ← hg]
    have := Blk.new (w.alloc (.cells #[.int .u8 0, .int .i64 0, .int .i64 0, .slice none 0 0, .slice none 0 0] 27)) [.int .i64 0] 31
    rwa [World.size_alloc] at this
  have hb0 : Below w.heap.size w w0 := by rw [← hw0]; exact ((Below.refl _ _).alloc (Nat.le_refl _) _).alloc (by simp) _
  have hr0 := hr.below hb0
  have Ok := hide ok
  have Hm := hide hm
  have hlo' : Lo g A := by rw [← hg]; exact hlo
  clear ok hm hlo
  go_enter_defers Try.func24, Try.ntmps24
  go_wp2_with fail
  go_fit (of_any A m c w0)
  rintro e w1 ⟨rfl, hb1⟩
  have hR1 := hR.below hb1
  have hE1 := hE.below hb1
  have hr1 := hr0.below hb1
  have hb01 := hb0.trans (hb1.mono hb0.size)
  have sz1 := hE1.lt
  obtain ⟨b, hb⟩ : ∃ b, w1.heap.size = b := ⟨_, rfl⟩
  obtain ⟨w2, hw2⟩ : ∃ w2, w1.alloc (.cells #[.slice A m c, .int .i64 0] 65) = w2 := ⟨_, rfl⟩
  have hB2 : Blk w2 b [.slice A m c, .int .i64 0] 65 := by rw [← hw2, ← hb]; exact Blk.new w1 [.slice A m c, .int .i64 0] _
  have hb12 : Below w1.heap.size w1 w2 := by rw [← hw2]; exact (Below.refl _ _).alloc (Nat.le_refl _) _
  have hR2 := hR1.below hb12
  have hE2 := hE1.below hb12
  have hr2 := hr1.below hb12
  have hb02 := hb01.trans (hb12.mono hb01.size)
  have Hw2 := hide hw2
  clear hw2
  go_wp2_with fail
  rw [Hw2.out]
  go_fit (op_any b 65 A m c bs k p n ds t1 os t2 b w2 hB2 Hm.out hmc hm8 hc hr2 (fun a ha => Nat.lt_of_lt_of_le (hlo' a ha) (by omega)) (Nat.le_refl _) Ok.out)
  rintro e w3 ⟨D, dc, O, oc, rfl, hD3, hO3, uD, uO, hB3, hb3⟩
  have hR3 := hR2.lo hb3 (by omega)
  have hE3 := hE2.lo hb3 (by omega)
  go_wp2_with fail
  obtain ⟨w4, hw4⟩ : ∃ w4, w3.alloc (.cells #[.int .u8 k, .int .i64 p, .int .i64 n, .slice D ds.length dc, .slice O os.length oc] 27) = w4 := ⟨_, rfl⟩
  rw [hw4]
  obtain ⟨v, hv⟩ : ∃ v, w3.heap.size = v := ⟨_, rfl⟩
  have hV4 : Blk w4 v [.int .u8 k, .int .i64 p, .int .i64 n, .slice D ds.length dc, .slice O os.length oc] 27 := by rw [← hw4, ← hv]; exact Blk.new w3 [.int .u8 k, .int .i64 p, .int .i64 n, .slice D ds.length dc, .slice O os.length oc] _
  have hb34 : Below w3.heap.size w3 w4 := by rw [← hw4]; exact (Below.refl _ _).alloc (Nat.le_refl _) _
  have hR4 := hR3.below hb34
  have hE4 := hE3.below hb34
  have hB4 := hB3.below hb34
  have sb := hB3.lt
  have hD4 := hD3.below hb34
  have hO4 := hO3.below hb34
  have hb04 := (hb02.trans (hb3.mono (by omega))).trans (hb34.mono (by have := hb3.size; have := hB2.lt; omega))
  rw [hg] at hb04
  have hB4d := hB4.drew
  rw [hv]
  clear hw4 hv
  have x0 := hR4.cell (j := 0) rfl
  have x1 := hR4.cell (j := 1) rfl
  have x2 := hR4.cell (j := 2) rfl
  have x3 := hR4.cell (j := 3) rfl
  have x4 := hR4.cell (j := 4) rfl
  have f0 := hR4.frozen 0
  have f1 := hR4.frozen 1
  have f2 := hR4.frozen 2
  have f3 := hR4.frozen 3
  have f4 := hR4.frozen 4
  have y0 := hV4.cell (j := 0) rfl
  have y1 := hV4.cell (j := 1) rfl
  have y2 := hV4.cell (j := 2) rfl
  have y3 := hV4.cell (j := 3) rfl
  have y4 := hV4.cell (j := 4) rfl
  have e0 := hE4.cell (j := 0) rfl
  have fe := hE4.frozen 0
  refine wp_noexit ?_
  go_region_with (first
    | (go_at_call 41; (with_reducible refine (at_any b 65 (.slice A m c) t2 _ hB4d).mono ?_); rintro x wa ⟨rfl, rfl⟩))
  all_goals
    go_wp2_with fail
    refine leaves_cons (f := 37) (args := #[.pointer (some ⟨g + 1, 0, none⟩)]) (by simp) (by simp [go_sem]) ?_
    have hR5 := (((((hR4.set 0 (.int .u8 k)).set 1 (.int .i64 p)).set 2 (.int .i64 n)).set 3 (.slice D ds.length dc)).set 4 (.slice O os.length oc)).apart (k := g + 1) (by omega) 0 (.int .i64 0)
    have hE5 := (((((hE4.apart (k := g) (by omega) 0 (.int .u8 k)).apart (k := g) (by omega) 1 (.int .i64 p)).apart (k := g) (by omega) 2 (.int .i64 n)).apart (k := g) (by omega) 3 (.slice D ds.length dc)).apart (k := g) (by omega) 4 (.slice O os.length oc)).set 0 (.int .i64 0)
    refine (idle_any ⟨g + 1, 0, none⟩ 0 _ (hE5.drew.cell (j := 0) rfl) (hE5.drew.frozen 0)).mono ?_
    rintro e u w6 ⟨rfl, rfl, rfl⟩
    have hR6 := hR5.drew.drew.apart (k := g + 1) (by omega) 0 (.int .i64 0)
    have hE6 := hE5.drew.drew.set 0 (.int .i64 0)
    refine ⟨_, results_cie rfl rfl rfl hR6 Try.underlying27 rfl (by kernel_rfl) (hE6.cell (j := 0) rfl) Try.underlying31, ?_⟩
    have fD := hD4.upset uD (g := g) (by omega) (j := 0) (u := .int .u8 k) |>.upset uD (g := g) (by omega) (j := 1) (u := .int .i64 p) |>.upset uD (g := g) (by omega) (j := 2) (u := .int .i64 n) |>.upset uD (g := g) (by omega) (j := 3) (u := .slice D ds.length dc) |>.upset uD (g := g) (by omega) (j := 4) (u := .slice O os.length oc) |>.upset uD (g := g + 1) (by omega) (j := 0) (u := .int .i64 0) |>.drew.drew |>.upset uD (g := g + 1) (by omega) (j := 0) (u := .int .i64 0)
    have fO := hO4.upset uO (g := g) (by omega) (j := 0) (u := .int .u8 k) |>.upset uO (g := g) (by omega) (j := 1) (u := .int .i64 p) |>.upset uO (g := g) (by omega) (j := 2) (u := .int .i64 n) |>.upset uO (g := g) (by omega) (j := 3) (u := .slice D ds.length dc) |>.upset uO (g := g) (by omega) (j := 4) (u := .slice O os.length oc) |>.upset uO (g := g + 1) (by omega) (j := 0) (u := .int .i64 0) |>.drew.drew |>.upset uO (g := g + 1) (by omega) (j := 0) (u := .int .i64 0)
    have fW := ((((((hb04.setCell (le_blk (B := g) (g := g) (j := 0) (Nat.le_refl _)) (.int .u8 k)).setCell (le_blk (B := g) (g := g) (j := 1) (Nat.le_refl _)) (.int .i64 p)).setCell (le_blk (B := g) (g := g) (j := 2) (Nat.le_refl _)) (.int .i64 n)).setCell (le_blk (B := g) (g := g) (j := 3) (Nat.le_refl _)) (.slice D ds.length dc)).setCell (le_blk (B := g) (g := g) (j := 4) (Nat.le_refl _)) (.slice O os.length oc)).setCell (le_blk (B := g) (g := g + 1) (j := 0) (by omega)) (.int .i64 0)).drew.drew.setCell (le_blk (B := g) (g := g + 1) (j := 0) (by omega)) (.int .i64 0)
    refine ⟨D, dc, O, oc, rfl, fD, fO, fun a ha => ?_, fun a ha => ?_, ?_⟩
    · have := uD a ha; omega
    · have := uO a ha; omega
    · rw [hg]; exact fW
theorem below_of_grown {b : Nat} {w w' : World} (h : w.grownBy w' (some b)) (hb : b ≤ w.heap.size) : Below b w w' :=
  ⟨h.os, h.tape, h.output, h.size, fun k hk => h.block k (Nat.lt_of_lt_of_le hk hb) (by intro e; injection e with e; omega)⟩
set_option maxHeartbeats 3200000 in
theorem dec_bad (A : Option Addr) (m c : Nat) (bs : List UInt8) (x : Int) (w : World) (hr : Rd w A (bys bs))
    (HOP : ∀ b w2, Blk w2 b [.slice A m c, .int .i64 0] 65 → Rd w2 A (bys bs) → w.heap.size + 2 ≤ b → Calls Try.prog 40 #[.pointer (some ⟨b, 0, none⟩)] w2 fun e w' => e = .panicked (stopped x) ∧ Below b w2 w') :
    Calls Try.prog 24 #[.slice A m c] w fun e w' => e = .returned (.tuple #[opv 0 0 0 none 0 0 none 0 0, .int .i64 0, .int .i64 x]) ∧ Below w.heap.size w w' := by
  have hmf : ∀ (fn : Fn) (first cap : Array Value) (w : World), (Instr.makeFunc fn first cap).run Try.prog w = .ok (.func fn first cap) w := fun _ _ _ _ => rfl
  obtain ⟨g, hg⟩ : ∃ g, w.heap.size = g := ⟨_, rfl⟩
  obtain ⟨w0, hw0⟩ : ∃ w0, (w.alloc (.cells #[.int .u8 0, .int .i64 0, .int .i64 0, .slice none 0 0, .slice none 0 0] 27)).alloc (.cells #[.int .i64 0] 31) = w0 := ⟨_, rfl⟩
  have hR : Blk w0 g [.int .u8 0, .int .i64 0, .int .i64 0, .slice none 0 0, .slice none 0 0] 27 := by rw [← hw0, ← hg]; exact (Blk.new w [.int .u8 0, .int .i64 0, .int .i64 0, .slice none 0 0, .slice none 0 0] _).alloc _
  have hE : Blk w0 (g + 1) [.int .i64 0] 31 := by
    rw [← hw0, ← hg]
    have := Blk.new (w.alloc (.cells #[.int .u8 0, .int .i64 0, .int .i64 0, .slice none 0 0, .slice none 0 0] 27)) [.int .i64 0] 31
    rwa [World.size_alloc] at this
  have hb0 : Below w.heap.size w w0 := by rw [← hw0]; exact ((Below.refl _ _).alloc (Nat.le_refl _) _).alloc (by simp) _
  have hr0 := hr.below hb0
  have HO := hide HOP
  clear HOP
  go_enter_defers Try.func24, Try.ntmps24
  go_wp2_with fail
  go_fit (of_any A m c w0)
  rintro e w1 ⟨rfl, hb1⟩
  have hR1 := hR.below hb1
  have hE1 := hE.below hb1
  have hr1 := hr0.below hb1
  have hb01 := hb0.trans (hb1.mono hb0.size)
  have sz1 := hE1.lt
  obtain ⟨b, hb⟩ : ∃ b, w1.heap.size = b := ⟨_, rfl⟩
  obtain ⟨w2, hw2⟩ : ∃ w2, w1.alloc (.cells #[.slice A m c, .int .i64 0] 65) = w2 := ⟨_, rfl⟩
  have hB2 : Blk w2 b [.slice A m c, .int .i64 0] 65 := by rw [← hw2, ← hb]; exact Blk.new w1 [.slice A m c, .int .i64 0] _
  have hb12 : Below w1.heap.size w1 w2 := by rw [← hw2]; exact (Below.refl _ _).alloc (Nat.le_refl _) _
  have hR2 := hR1.below hb12
  have hE2 := hE1.below hb12
  have hr2 := hr1.below hb12
  have hb02 := hb01.trans (hb12.mono hb01.size)
  have Hw2 := hide hw2
  clear hw2
  go_wp2_with fail
  rw [Hw2.out]
  go_fit (HO.out b w2 hB2 hr2 (by omega))
  rintro e w3 ⟨rfl, hb3⟩
  have hR3 := hR2.lo hb3 (by omega)
  have hE3 := hE2.lo hb3 (by omega)
  have hb03 := hb02.trans (hb3.mono (by omega))
  refine leaves_cons (f := 37) (args := #[.pointer (some ⟨g + 1, 0, none⟩)]) (by simp) (by simp [go_sem]) ?_
  refine (recov_any ⟨g + 1, 0, none⟩ x 0 _ (hE3.cell (j := 0) rfl) (hE3.frozen 0) hE3.lt).mono ?_
  rintro e u w6 ⟨rfl, rfl, rfl⟩
  have hR6 := (hR3.drew.alloc (.cells #[.int .i64 x] 80)).apart (k := g + 1) (by omega) 0 (.int .i64 x)
  have hE6 := (hE3.drew.alloc (.cells #[.int .i64 x] 80)).set 0 (.int .i64 x)
  refine ⟨_, results_cie rfl rfl rfl hR6 Try.underlying27 rfl (by kernel_rfl) (hE6.cell (j := 0) rfl) Try.underlying31, rfl, ?_⟩
  exact (hb03.drew.alloc (by have := hR3.lt; simp [hg]; omega) _).setCell (by show w.heap.size ≤ g + 1; omega) _
end Go.Proofs.Ytabglphiafeheaa
