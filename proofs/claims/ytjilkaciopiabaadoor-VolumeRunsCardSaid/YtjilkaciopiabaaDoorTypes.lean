/- Facts of this seat's types. -/
import Derived.Test.YtjilkaciopiabaaDoorChecked
import Derived.Test.YtjilkaciopiabaaDoorLib
namespace Go.Proofs.YtjilkaciopiabaaDoor
open Go.RowKit Go.Px
theorem laidOut : laidOutB Tryd.prog = true := by kernel_rfl
theorem own : ownKnob Tryd.prog.godebug = none := by kernel_rfl
theorem tInts : SlT Tryd.prog 43 3 1 8 := slT_mk Tryd.underlying43 (z := .int .i64 0) (by kernel_rfl) rfl (by decide)
theorem tByteRows : SlT Tryd.prog 68 36 1 24 := slT_mk Tryd.underlying68 (z := .slice none 0 0) (by kernel_rfl) rfl (by decide)
theorem tBytes : SlT Tryd.prog 36 5 1 1 := slT_mk Tryd.underlying36 (z := .int .u8 0) (by kernel_rfl) rfl (by decide)
@[go_sem] theorem eqnil_bytes (w : World) (A : Option Addr) (n c n' c' : Nat) : (binOp .eql 36 (.slice A n c) (.slice none n' c')).run Tryd.prog w = .ok (.bool A.isNone) w := Lib.run_eql_slice_nil w _ _ A n c n' c' Tryd.underlying36
theorem convB {w : World} {A : Option Addr} {n : Nat} (c : Nat) {bs : List UInt8} (hn : bs.length = n) (h : Rd w A (bys bs)) : (convert 36 9 (.slice A n c)).run Tryd.prog w = .ok (.string (strOf bs)) w := conv_bytes Tryd.underlying36 Tryd.underlying5 Tryd.underlying9 hn h
@[go_sem] theorem convConst (w : World) (C : Array Value) (n c g : Nat) (hg : g = w.heap.size) : (convert 36 36 (.slice (some ⟨g, 0, none⟩) n c)).run Tryd.prog (w.alloc (.cells C 5)) = .ok (.slice (some ⟨g, 0, none⟩) n c) (w.alloc (.cells C 5 (C.size, C.size + 1))) := by
  subst hg; exact Lib.run_convert_bytes_const w _ _ C n c Tryd.underlying36 Tryd.underlying5
end Go.Proofs.YtjilkaciopiabaaDoor
