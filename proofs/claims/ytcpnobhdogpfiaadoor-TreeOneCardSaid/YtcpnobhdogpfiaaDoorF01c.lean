/- Package octets: what its functions answer (one number, texts). -/
import Derived.Test.YtcpnobhdogpfiaaDoorF01b
namespace Go.Proofs.YtcpnobhdogpfiaaDoor
set_option maxRecDepth 20000
open Go.RowKit Go.Px
set_option linter.unusedVariables false

theorem put_any (A : Option Addr) (m c : Nat) (bs : List UInt8) (v : Nat) (n : Int) (w : World)
    (hm : bs.length = m) (hm8 : m ≤ 549755813888) (hA : Rd w A (bys bs)) (hv : v < 18446744073709551616) :
    Calls Tryd.prog 49 #[.slice A m c, .int .u64 v, .int .i64 n] w fun e w' => ∃ u, e = .returned (.tuple #[u, .int .i64 (fitsE v n)]) ∧ w'.ownsRow w.heap.size 5 1 u (putB bs v n).length (bys (putB bs v n)) ∧ Below w.heap.size w w' := by
  go_enter Tryd.func49, Tryd.ntmps49
  go_wp2_with fail
  refine (putAll_any _ _ _ bs n _ 1 1 [v] _ hm hm8 (hA.alloc _) rfl (by omega) (Rd.new1 _ _ _) (by simpa using hv)).mono ?_
  rintro e w' ⟨u, rfl, ho, hb⟩
  rw [(putAll_one bs v n).2]
  rw [(putAll_one bs v n).1] at ho
  go_wp2
  go_ret2
  refine ⟨_, rfl, own_weak ho (by simp), ?_⟩
  exact ((Below.refl _ _).alloc (Nat.le_refl _) _).trans (hb.mono (by simp))

end Go.Proofs.YtcpnobhdogpfiaaDoor
