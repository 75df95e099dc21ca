/- Copies into, and clearing of, a part of a block that is known whole. -/
import Derived.Test.YtdianokikhggnaaRes
namespace Go.Px
set_option maxRecDepth 20000
open Go.RowKit
def spl (cs : List Value) (off : Nat) (xs : List Value) : List Value := cs.take off ++ xs ++ cs.drop (off + xs.length)
theorem spl_length {cs xs : List Value} {off : Nat} (h : off + xs.length ≤ cs.length) : (spl cs off xs).length = cs.length := by
  unfold spl; simp only [List.length_append, List.length_take, List.length_drop]; omega
theorem spl_nil (cs : List Value) (off : Nat) : spl cs off [] = cs := by unfold spl; simp
section
variable {P : Program} {w : World}
theorem setRow_same {g : Nat} {cs : List Value} {T : TypeId} (h : Blk w g cs T) : w.setRow g cs.toArray = w := setRow_self w g cs.toArray T (0, 0) h
theorem run_copyB {g : Nat} {cs : List Value} {T dT sT ty e : TypeId} {bytes : Nat} (hB : Blk w g cs T) (hT : SlT P dT e 1 bytes) {off dLen dCap m c : Nat} {A : Option Addr} {ys : List Value} (hys : ys.length = m) (hr : Rd w A ys) (h1 : ∀ u ∈ ys, u.oneCell' = true) (hfit : off + min m dLen ≤ cs.length) :
    (Builtin.copy_ #[dT, sT] ty #[.slice (some ⟨g, off, none⟩) dLen dCap, .slice A m c]).run P w = .ok (goInt (min m dLen : Nat)) (w.setRow g (spl cs off (ys.take dLen)).toArray) := by
  obtain ⟨hu, ⟨i, z, hi, hz, hsz, hby, hzs⟩, hp⟩ := hT
  have hsz' : (P.info? e).map (·.size) = some 1 := by rw [hi]; simp [hsz]
  have hl : (ys.take dLen).length = min m dLen := by rw [List.length_take, hys]; exact Nat.min_comm _ _
  by_cases h0 : min m dLen = 0
  · have hnil : ys.take dLen = [] := List.eq_nil_of_length_eq_zero (by omega)
    rw [hnil, spl_nil, setRow_same hB, h0]
    exact run_copy_none (P := P) w dT sT ty e _ A dLen dCap m c hu hsz' h0
  · obtain ⟨ad, rfl, hat⟩ := hr.some_of (by omega)
    have := run_copy_row (P := P) w dT sT ty e g off dLen dCap ad m c cs.toArray T (ys.take dLen) hu hsz' hB hl (fun j v hv => hat j v (by
      rw [List.getElem?_take] at hv
      split at hv
      · exact hv
      · cases hv)) (by rw [hl]; simpa using hfit) (fun u hu => h1 u (List.mem_of_mem_take hu))
    rw [this, hl]
    unfold spl
    rw [hl]
theorem run_clearB {g : Nat} {cs : List Value} {T dT ty e : TypeId} {zv : Value} (hB : Blk w g cs T) (hu : P.underlying dT = some (.slice e)) (hz : (zeroValue e).run P w = .ok zv w) (hc : zv.cells = #[zv]) (h1 : zv.oneCell' = true) {off n c : Nat} (hfit : off + n ≤ cs.length) :
    (Builtin.clear_ #[dT] ty #[.slice (some ⟨g, off, none⟩) n c]).run P w = .ok (.tuple #[]) (w.setRow g (spl cs off (List.replicate n zv)).toArray) := by
  cases n with
  | zero =>
    rw [show List.replicate 0 zv = [] from rfl, spl_nil, setRow_same hB]
    simp [Builtin.clear_, run_underlying hu]
  | succ n =>
    have hst := run_storeCells_at P g off T (List.replicate (n + 1) zv) 0 cs.toArray w hB (by simpa using hfit) (fun v hv => by rw [List.eq_of_mem_replicate hv]; exact h1)
    have hzc : (Builtin.zeroCells #[zv] (n + 1)).toList = List.replicate (n + 1) zv := by
      have : Builtin.zeroCells #[zv] (n + 1) = Array.replicate (n + 1) zv := by
        unfold Builtin.zeroCells
        apply Array.ext
        · simp
        · intro i h1 h2
          simp [Nat.mod_one]
      rw [this]; simp
    have hrun : (Builtin.clear_ #[dT] ty #[.slice (some ⟨g, off, none⟩) (n + 1) c]).run P w = ((storeCells ⟨g, off, none⟩ (Builtin.zeroCells #[zv] (n + 1)).toList).run P w).andThen fun _ w' => .ok (.tuple #[]) w' := by
      simp [Builtin.clear_, run_underlying hu, hz, hc]
    rw [hrun, hzc, hst]
    simp only [Result.andThen_ok]
    unfold spl
    simp
theorem run_mkB {t e : TypeId} {z : Value} {bytes : Nat} (hu : P.underlying t = some (.slice e)) (hinf : (P.info? e).map (fun i => (i.zero, i.size, i.bytes)) = some (some z, 1, bytes)) (hz : z.cells = #[z]) {N : Nat} (hN : N * bytes ≤ 140737488355328) (h63 : N ≤ 140737488355328) (W : World) :
    (Instr.makeSlice t (.int .i64 (N : Int)) (.int .i64 (N : Int))).run P W = .ok (.slice (some ⟨W.heap.size, 0, none⟩) N N) (W.alloc (.cells (List.replicate N z).toArray e)) := by
  cases hi : P.info? e with
  | none => rw [hi] at hinf; cases hinf
  | some i =>
    rw [hi] at hinf
    simp only [Option.map_some, Option.some.injEq, Prod.mk.injEq] at hinf
    obtain ⟨h1, h2, h3⟩ := hinf
    have hbz : i.bytes * N ≤ 281474976710656 := by rw [h3, Nat.mul_comm]; omega
    have hr := run_make (P := P) W t e i z hu hi h1 .i64 .i64 (N : Int) (N : Int) (by omega) (by omega) (by
      have h2 : ((i.bytes * N : Nat) : Int) ≤ 281474976710656 := by omega
      rwa [Int.natCast_mul] at h2) (by omega)
    simp only [Int.toNat_natCast, h2, Nat.mul_one, hz] at hr
    rw [hr]
    have : madeCells #[z] N = (List.replicate N z).toArray := by
      rw [← toList_madeCells_one z N]
    rw [this]
end
end Go.Px
