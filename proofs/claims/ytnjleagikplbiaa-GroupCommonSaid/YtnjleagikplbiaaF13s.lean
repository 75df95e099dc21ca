/- group.set: sorted, each once. -/
import Derived.Test.YtnjleagikplbiaaF13d
import Derived.Test.YtnjleagikplbiaaM13b
import Derived.Test.YtnjleagikplbiaaS13
namespace Go.Proofs.Ytnjleagikplbiaa
open Go.RowKit Go.Px Go.Shelf Go.Lib
open Go.Sort hiding Below
set_option linter.unusedVariables false

theorem below_put {B : Nat} {w W : World} (h : Below B w W) {blk : Nat} (hb : B ≤ blk) (n off : Nat) (d : Array Int) : Below B w (putRow (Value.int .i64) (Sort.ahead W n) blk off d) :=
  ⟨h.os, h.tape, h.output, by rw [size_putRow]; exact h.size, fun k hk => by
    rw [← h.block k hk]
    show ((Sort.ahead W n).heap.modify blk _)[k]? = _
    rw [Array.getElem?_modify, if_neg (by omega)]; rfl⟩
theorem below_grow {B : Nat} {w W : World} (h : Below B w W) (hB : B ≤ w.heap.size) (os : Array Obj) : Below B w (grow W os) :=
  ⟨h.os, h.tape, h.output, by rw [size_grow]; have := h.size; omega, fun k hk => by
    rw [heap_grow_old _ _ (by have := h.size; omega)]; exact h.block k hk⟩
theorem below_sort {B : Nat} {w W : World} (h : Below B w W) (hB : B ≤ w.heap.size) {blk : Nat} (hb : B ≤ blk) (n off : Nat) (d : Array Int) (os : Array Obj) : Below B w (sortWorld (Value.int .i64) W blk off n d os) :=
  below_grow (below_put h hb n off d) hB os
theorem holds_sort {w : World} {blk off : Nat} {d d' : Array Int} (h : Holds (Value.int .i64) w blk off d) (hs : d'.size = d.size) (hblk : blk < w.heap.size) (n : Nat) (os : Array Obj) : Holds (Value.int .i64) (sortWorld (Value.int .i64) w blk off n d' os) blk off d' :=
  holds_grow _ _ _ _ _ _ (by rw [size_putRow]; exact hblk) (holds_putRow _ _ _ _ d d' h hs)

def cmpI (x y : Int) : Int := if x < y then -1 else if y < x then 1 else 0
theorem ltOf_cmpI (x y : Int) : ltOf cmpI x y = decide (x < y) := by
  unfold ltOf cmpI
  by_cases h1 : x < y
  · simp [h1]
  · by_cases h2 : y < x <;> simp [h1, h2]
theorem swo_cmpI : SWO (ltOf cmpI) where
  irrefl x := by rw [ltOf_cmpI]; simp
  trans x y z h1 h2 := by rw [ltOf_cmpI] at *; simp at *; omega
  ntrans x y z h1 h2 := by rw [ltOf_cmpI] at *; simp at *; omega
theorem cmp_any (x y : Int) (W : World) : Calls Try.prog 43 #[.int .i64 x, .int .i64 y] W fun e w' => e = .returned (.int .i64 (cmpI x y)) ∧ ∃ q, w' = W.drewN q := by
  by_cases h1 : x < y
  · have H := hide (show cmpI x y = -1 from if_pos h1)
    go_enter Try.func43, Try.ntmps43
    go_wp2
    go_ret
    exact ⟨by rw [H.out]; rfl, 0, rfl⟩
  · by_cases h2 : y < x
    · have H := hide (show cmpI x y = 1 by unfold cmpI; rw [if_neg h1, if_pos h2])
      go_enter Try.func43, Try.ntmps43
      go_wp2
      go_ret
      exact ⟨by rw [H.out]; rfl, 0, rfl⟩
    · have H := hide (show cmpI x y = 0 by unfold cmpI; rw [if_neg h1, if_neg h2])
      go_enter Try.func43, Try.ntmps43
      go_wp2
      go_ret
      exact ⟨by rw [H.out]; rfl, 0, rfl⟩

/-- What set leaves: the same nodes, ascending. -/
def SetIs (ds : List Int) (B : Nat) (w : World) (blk off cap : Nat) (e : Ending) (w' : World) : Prop :=
  ∃ l : List Int, e = .returned (.slice (some ⟨blk, off, none⟩) l.length cap) ∧ Asc l ∧ (∀ x, x ∈ l ↔ x ∈ ds) ∧ l.length ≤ ds.length ∧ Rd w' (some ⟨blk, off, none⟩) (ints l) ∧ Below B w w'
theorem rd_holds {w : World} {blk off : Nat} {l : List Int} (h : Holds (Value.int .i64) w blk off l.toArray) : Rd w (some ⟨blk, off, none⟩) (ints l) := fun j u hu => by
  have hj : j < l.length := by
    have := (List.getElem?_eq_some_iff.1 hu).1
    simpa [ints] using this
  have := (h j (by simpa using hj)).1
  refine ⟨_, rfl, ?_⟩
  rw [ints_get hj] at hu
  injection hu with hu
  subst hu
  have e : (⟨blk, off, none⟩ : Addr).add j = ⟨blk, off + j, none⟩ := by unfold Addr.add; split <;> simp_all
  rw [e, this]
  simp [getElem!_pos, hj]
theorem sorted_le {d : Array Int} (h : SortedIn (ltOf cmpI) 0 d.size d) : ∀ i j, i < j → j < d.size → d[i]! ≤ d[j]! := fun i j hij hj => by
  have := h i j (Nat.zero_le _) hij hj
  rw [ltOf_cmpI] at this
  simp at this
  exact this

set_option maxHeartbeats 800000 in
theorem set_any (blk off cap : Nat) (ds : List Int) (w : World) (B : Nat) (hH : Holds (Value.int .i64) w blk off ds.toArray) (hblk : blk < w.heap.size) (hsz : ds.length ≤ 1000) (hcap : ds.length ≤ cap) (hB : B ≤ blk) :
    Calls Try.prog 33 #[.slice (some ⟨blk, off, none⟩) ds.length cap] w (SetIs ds B w blk off cap) := by
  have eg : ∀ args w, (callFunc 43 args).run Try.prog w = .ok (.enter 43 args) w := enters_of Try.func43 (by kernel_rfl) rfl
  have hcr : CmpReads Try.prog 43 #[] (Value.int .i64) cmpI blk off ds.toArray.size w := fun _ _ _ _ x y => cmp_any x y _
  have hS := Try.slices_SortFunc (Value.int .i64) (fun _ => rfl) cmpI swo_cmpI 43 #[] blk off cap ds.toArray w eg hcr.lays hH hblk (by simp; omega)
  have HS := hide hS
  have HH := hide hH
  clear hS hH eg hcr
  go_enter Try.func33, Try.ntmps33
  go_wp2_with fail
  refine HS.out.mono ?_
  rintro e w1 ⟨rfl, d', n, os, hp, hs, rfl⟩
  have hsz' : d'.size = ds.length := by have := hp.1; simpa using this
  have hH1 := holds_sort HH.out hp.1 hblk n os
  have hb1 : Below B w (sortWorld (Value.int .i64) w blk off n d' os) := below_sort (Below.refl _ _) (by omega) hB n off d' os
  have hperm : d'.toList.Perm ds := by
    have := hp.2.2
    rw [show d'.extract 0 ds.toArray.size = d' by rw [show ds.toArray.size = d'.size by simp [hsz']]; simp, show ds.toArray.extract 0 ds.toArray.size = ds.toArray by simp] at this
    simpa using this
  rw [show ds.toArray.size = d'.size by simp [hsz']] at hs
  have hle := sorted_le hs
  obtain ⟨hc1, hc2⟩ := compact_sorted d' hle d'.size (Nat.le_refl _)
  have hcl : (Lib.compact d'.toList) = compactUpTo d' d'.size := by unfold Lib.compact; simp
  have hmem : ∀ x, x ∈ Lib.compact d'.toList ↔ x ∈ ds := fun x => by
    rw [hcl, hc2, ← hperm.mem_iff]
    constructor
    · rintro ⟨j, hj, rfl⟩; rw [getElem!_pos d' j hj]; simp
    · intro hx
      obtain ⟨j, hj, rfl⟩ := List.getElem_of_mem hx
      exact ⟨j, by simpa using hj, by rw [getElem!_pos d' j (by simpa using hj)]; simp⟩
  have hasc : Asc (Lib.compact d'.toList) := by rw [hcl]; exact hc1
  have hlen := Lib.compact_length_le d'.toList
  have hd't : d'.toList.toArray = d' := by simp
  have hC := Try.slices_Compact_int blk off cap d'.toList (sortWorld (Value.int .i64) w blk off n d' os) (by rw [hd't]; exact hH1) (by simp [hsz']; omega) (by simp [hsz']; omega)
  rw [show d'.toList.length = ds.length by simp [hsz']] at hC hlen
  obtain ⟨l, hl⟩ : ∃ l, Lib.compact d'.toList = l := ⟨_, rfl⟩
  rw [hl] at hC hmem hasc hlen
  obtain ⟨W, hW⟩ : ∃ W, sortWorld (Value.int .i64) w blk off n d' os = W := ⟨_, rfl⟩
  rw [hW] at hC hH1 hb1
  have HC := hide hC
  have HM := hide hmem
  have Hb := hide hb1
  have HH1 := hide hH1
  clear hC hmem hb1 hH1 hle hc1 hc2 hcl hl hp hs hperm
  go_wp2_with fail
  refine HC.out.mono ?_
  rintro e w2 ⟨rfl, q, rfl⟩
  go_wp2
  go_ret
  refine ⟨l, rfl, hasc, HM.out, hlen, ?_, below_put Hb.out hB q off _⟩
  have h2 : Holds (Value.int .i64) (putRow (Value.int .i64) (Sort.ahead W q) blk off (l ++ List.replicate (ds.length - l.length) 0).toArray) blk off (l ++ List.replicate (ds.length - l.length) 0).toArray :=
    holds_putRow _ _ _ _ d' _ (holds_ahead _ _ _ _ _ _ HH1.out) (by simp [hsz']; omega)
  have h3 := rd_holds h2
  rw [ints_append] at h3
  have h4 := h3.take l.length
  rwa [List.take_left' (ints_length l)] at h4
end Go.Proofs.Ytnjleagikplbiaa
