/- Facts of this seat's types. -/
import Derived.Test.YtdianokikhggnaaChecked
import Derived.Test.YtdianokikhggnaaLib
namespace Go.Proofs.Ytdianokikhggnaa
set_option maxRecDepth 20000
open Go.RowKit Go.Px
theorem laidOut : laidOutB Try.prog = true := by kernel_rfl
theorem own : ownKnob Try.prog.godebug = none := by kernel_rfl
theorem tInts : SlT Try.prog 42 3 1 8 := slT_mk Try.underlying42 (z := .int .i64 0) (by kernel_rfl) rfl (by decide)
theorem tByteRows : SlT Try.prog 55 29 1 24 := slT_mk Try.underlying55 (z := .slice none 0 0) (by kernel_rfl) rfl (by decide)
theorem tBytes : SlT Try.prog 29 5 1 1 := slT_mk Try.underlying29 (z := .int .u8 0) (by kernel_rfl) rfl (by decide)
@[go_sem] theorem eqnil_bytes (w : World) (A : Option Addr) (n c n' c' : Nat) : (binOp .eql 29 (.slice A n c) (.slice none n' c')).run Try.prog w = .ok (.bool A.isNone) w := Lib.run_eql_slice_nil w _ _ A n c n' c' Try.underlying29
theorem convB {w : World} {A : Option Addr} {n : Nat} (c : Nat) {bs : List UInt8} (hn : bs.length = n) (h : Rd w A (bys bs)) : (convert 29 9 (.slice A n c)).run Try.prog w = .ok (.string (strOf bs)) w := conv_bytes Try.underlying29 Try.underlying5 Try.underlying9 hn h
@[go_sem] theorem convConst (w : World) (C : Array Value) (n c g : Nat) (hg : g = w.heap.size) : (convert 29 29 (.slice (some ⟨g, 0, none⟩) n c)).run Try.prog (w.alloc (.cells C 5)) = .ok (.slice (some ⟨g, 0, none⟩) n c) (w.alloc (.cells C 5 (C.size, C.size + 1))) := by
  subst hg; exact Lib.run_convert_bytes_const w _ _ C n c Try.underlying29 Try.underlying5
theorem bool_two (b : Bool) : b = true ∨ b = false := by cases b <;> simp
theorem bool_or (b : Bool) : b = true ∨ b = false := by cases b <;> simp
theorem below_drewN {B : Nat} {w w' : World} (h : Below B w w') (n : Nat) : Below B w (w'.drewN n) := ⟨h.os, h.tape, h.output, h.size, h.block⟩
end Go.Proofs.Ytdianokikhggnaa
