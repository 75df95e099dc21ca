/- Facts of this seat's types. -/
import Derived.Test.YtcpnobhdogpfiaaDoorChecked
import Derived.Test.YtcpnobhdogpfiaaDoorLib
namespace Go.Proofs.YtcpnobhdogpfiaaDoor
set_option maxRecDepth 20000
open Go.RowKit Go.Px
theorem laidOut : laidOutB Tryd.prog = true := by kernel_rfl
theorem own : ownKnob Tryd.prog.godebug = none := by kernel_rfl
theorem tU64s : SlT Tryd.prog 85 84 1 8 := slT_mk Tryd.underlying85 (z := .int .u64 0) (by kernel_rfl) rfl (by decide)
theorem tInts : SlT Tryd.prog 44 3 1 8 := slT_mk Tryd.underlying44 (z := .int .i64 0) (by kernel_rfl) rfl (by decide)
theorem tByteRows : SlT Tryd.prog 87 22 1 24 := slT_mk Tryd.underlying87 (z := .slice none 0 0) (by kernel_rfl) rfl (by decide)
theorem tBytes : SlT Tryd.prog 22 5 1 1 := slT_mk Tryd.underlying22 (z := .int .u8 0) (by kernel_rfl) rfl (by decide)
@[go_sem] theorem eqnil_bytes (w : World) (A : Option Addr) (n c n' c' : Nat) : (binOp .eql 22 (.slice A n c) (.slice none n' c')).run Tryd.prog w = .ok (.bool A.isNone) w := Lib.run_eql_slice_nil w _ _ A n c n' c' Tryd.underlying22
theorem convB {w : World} {A : Option Addr} {n : Nat} (c : Nat) {bs : List UInt8} (hn : bs.length = n) (h : Rd w A (bys bs)) : (convert 22 9 (.slice A n c)).run Tryd.prog w = .ok (.string (strOf bs)) w := conv_bytes Tryd.underlying22 Tryd.underlying5 Tryd.underlying9 hn h
@[go_sem] theorem convConst (w : World) (C : Array Value) (n c g : Nat) (hg : g = w.heap.size) : (convert 22 22 (.slice (some ⟨g, 0, none⟩) n c)).run Tryd.prog (w.alloc (.cells C 5)) = .ok (.slice (some ⟨g, 0, none⟩) n c) (w.alloc (.cells C 5 (C.size, C.size + 1))) := by
  subst hg; exact Lib.run_convert_bytes_const w _ _ C n c Tryd.underlying22 Tryd.underlying5
theorem bool_two (b : Bool) : b = true ∨ b = false := by cases b <;> simp
theorem bool_or (b : Bool) : b = true ∨ b = false := by cases b <;> simp
theorem below_drewN {B : Nat} {w w' : World} (h : Below B w w') (n : Nat) : Below B w (w'.drewN n) := ⟨h.os, h.tape, h.output, h.size, h.block⟩
end Go.Proofs.YtcpnobhdogpfiaaDoor
