/- Package tree: Make. -/
import Derived.Test.YtcpnobhdogpfiaaDoorF25d
import Derived.Test.YtcpnobhdogpfiaaDoorRnd
import Derived.Test.YtcpnobhdogpfiaaDoorRes
import Derived.Maps.AppendAt
import Derived.Maps.OwnIn
namespace Go.Proofs.YtcpnobhdogpfiaaDoor
set_option maxRecDepth 20000
open Go.RowKit Go.Px Go.Shelf
set_option linter.unusedVariables false
attribute [local go_sem] Oper.semAt_some
theorem ownRow_lt {w : World} {base e size n : Nat} {v : Value} {xs : List Value} (h : w.ownsRow base e size v n xs) : ∀ g, v.ownBlock = some g → base ≤ g ∧ g < w.heap.size := by
  rcases h.2 with ⟨rfl, rfl⟩ | ⟨g, cap, cur, rfl, hbg, hg, _⟩
  · intro g hg; simp [Value.ownBlock] at hg
  · intro k hk
    simp [Value.ownBlock] at hk
    subst hk
    exact ⟨hbg, (Array.getElem?_eq_some_iff.1 hg).1⟩
theorem ownRow_grown {w w' : World} {base e size n : Nat} {v : Value} {xs : List Value} (h : w.ownsRow base e size v n xs) {r : Option Nat} (hg : w.grownBy w' r) (hr : ∀ g, v.ownBlock = some g → some g ≠ r) : w'.ownsRow base e size v n xs := by
  refine ⟨h.1, ?_⟩
  rcases h.2 with h2 | ⟨g, cap, cur, rfl, hbg, hg', rest⟩
  · exact .inl h2
  · exact .inr ⟨g, cap, cur, rfl, hbg, (hg.block g (Array.getElem?_eq_some_iff.1 hg').1 (hr g rfl)).trans hg', rest⟩
theorem putObj_size (W : World) (l : Nat) (o : Obj) : (W.putObj l o).heap.size = W.heap.size := by simp [World.putObj]
theorem blk_put {w : World} {g l : Nat} {vs : List Value} {T : TypeId} (h : Blk w g vs T) (hne : g ≠ l) (o : Obj) : Blk (w.putObj l o) g vs T := (World.putObj_heap_other hne).trans h
/-- A level above under way. -/
def UpI (w0 : World) (A : Option Addr) (n c : Nat) (cur : List Nat) (j : Nat) (W : World) : Prop :=
  (∃ v, Blk W w0.heap.size [v] 25 ∧ W.ownsRow (w0.heap.size + 5) 33 1 v j (u32s (upTo cur j))) ∧ Blk W (w0.heap.size + 1) [.slice A n c] 25 ∧ Blk W (w0.heap.size + 2) [.int .i64 4] 3 ∧ Below w0.heap.size w0 W ∧ w0.heap.size + 5 ≤ W.heap.size
theorem UpI.put {w0 : World} {A : Option Addr} {n c : Nat} {cur : List Nat} {j : Nat} {W : World} (h : UpI w0 A n c cur j W) (r : Loop) : UpI w0 A n c cur j (W.putObj (w0.heap.size + 4) (.loop r)) := by
  obtain ⟨⟨v, h1, h2⟩, h3, h4, h5, h6⟩ := h
  refine ⟨⟨v, blk_put h1 (by omega) _, ownRow_grown h2 (grownBy_putObj' W _ _) (fun g hg e => by injection e with e; have := (ownRow_lt h2 g hg).1; omega)⟩, blk_put h3 (by omega) _, blk_put h4 (by omega) _, h5.grown (grownBy_putObj' W _ _) h5.size (fun k e => by injection e with e; omega), by rw [putObj_size]; exact h6⟩
theorem UpI.drewN {w0 : World} {A : Option Addr} {n c : Nat} {cur : List Nat} {j : Nat} {W : World} (h : UpI w0 A n c cur j W) (k : Nat) : UpI w0 A n c cur j (W.drewN k) := by
  obtain ⟨⟨v, h1, h2⟩, h3, h4, h5, h6⟩ := h
  exact ⟨⟨v, h1, h2⟩, h3, h4, ⟨h5.os, h5.tape, h5.output, h5.size, h5.block⟩, h6⟩
theorem keepsBelow {w w' : World} (h : Below w.heap.size w w') : KeepsOthers w w' := ⟨h.size, fun k o hk _ => (h.block k (Array.getElem?_eq_some_iff.1 hk).1).trans hk⟩
theorem setCell_grown (X : World) (g q : Nat) (u : Value) : X.grownBy (X.setCell ⟨g, q, none⟩ u) (some g) := ⟨rfl, rfl, rfl, by simp, fun k hk hne => Below.heap_setCell X ⟨g, q, none⟩ u k (fun e => hne (by rw [e]))⟩
theorem ownRow_cells {w : World} {base e size n : Nat} {v : Value} {xs : List Value} (h : w.ownsRow base e size v n xs) : ∀ (j : Nat) (o : Obj), v.ownBlock = some j → w.heap[j]? = some o → o.isCells = true := by
  intro j o hj ho
  rcases h.2 with ⟨rfl, rfl⟩ | ⟨g, cap, cur, rfl, hbg, hg, _⟩
  · simp [Value.ownBlock] at hj
  · simp [Value.ownBlock] at hj
    subst hj
    rw [hg] at ho
    injection ho with ho
    subst ho; rfl
theorem upI_store {w0 X X3 X4 : World} {A : Option Addr} {n c : Nat} {cur : List Nat} {j d : Nat} {v5 v6 : Value} (x1 : Blk X w0.heap.size [v5] 25) (x2 : X.ownsRow (w0.heap.size + 5) 33 1 v5 j (u32s (upTo cur j))) (x3 : Blk X (w0.heap.size + 1) [.slice A n c] 25) (x4 : Blk X (w0.heap.size + 2) [.int .i64 4] 3)
    (x5 : Below w0.heap.size w0 X) (x6 : w0.heap.size + 5 ≤ X.heap.size) (hbX : Below X.heap.size X X3) (ho6 : X4.ownsRow (w0.heap.size + 5) 33 1 v6 (j + 1) (u32s (upTo cur j) ++ [.int .u32 (d : Int)])) (hg6 : X3.grownBy X4 v5.ownBlock) (hd : rowD (pieceD cur j) = d) :
    UpI w0 A n c cur (j + 1) (X4.setCell ⟨w0.heap.size, 0, none⟩ v6) ∧ KeepsOthers X (X4.setCell ⟨w0.heap.size, 0, none⟩ v6) := by
  have lo5 := ownRow_lt x2
  have lo6 := ownRow_lt ho6
  have hzX := hbX.size
  have hz4 := hg6.size
  have kb : ∀ q, q < w0.heap.size + 5 → X4.heap[q]? = X.heap[q]? := fun q hq => (hg6.block q (by omega) (fun e => by have := (lo5 q e.symm).1; omega)).trans (hbX.block q (by omega))
  have b0 : Blk X4 w0.heap.size [v5] 25 := (kb _ (by omega)).trans x1
  have b1 : Blk X4 (w0.heap.size + 1) _ _ := (kb _ (by omega)).trans x3
  have b2 : Blk X4 (w0.heap.size + 2) _ _ := (kb _ (by omega)).trans x4
  have ex : u32s (upTo cur j) ++ [.int .u32 (d : Int)] = u32s (upTo cur (j + 1)) := by rw [upTo_succ, u32s_append, hd]; rfl
  rw [ex] at ho6
  refine ⟨⟨⟨v6, b0.set 0 v6, ownRow_grown ho6 (setCell_grown _ _ _ _) (fun g hg e => by injection e with e; have := (lo6 g hg).1; omega)⟩, b1.apart (by omega) _ _, b2.apart (by omega) _ _, ?_, by simp; omega⟩, ?_⟩
  · have h1 := x5.trans (hbX.mono x5.size)
    have h2 := h1.grown hg6 h1.size (fun k e => by have := (lo5 k e).1; omega)
    exact h2.setCell (Nat.le_refl _) _
  · exact ((keepsBelow hbX).trans (KeepsOthers.of_grownBy hg6 (ownRow_cells (own_below x2 hbX)))).trans (KeepsOthers.setCell _ _ _)
theorem own_ne_blk {w : World} {base e size n g : Nat} {T : TypeId} {v : Value} {xs vs : List Value} (h : w.ownsRow base e size v n xs) (hB : Blk w g vs T) (hT : (T == e) = false) : v.ownBlock ≠ some g := by
  rcases h.2 with ⟨rfl, rfl⟩ | ⟨g', cap, cur, rfl, hbg, hg, _⟩
  · simp [Value.ownBlock]
  · intro e
    simp [Value.ownBlock] at e
    subst e
    have : w.heap[g']? = some (.cells vs.toArray T) := hB
    rw [hg] at this
    injection this with this
    injection this with _ h2
    rw [h2] at hT
    simp at hT
def sliceLen : Value → Nat
  | .slice _ m _ => m
  | _ => 0
/-- What holds between two levels of a tree under way. -/
def MakeI (l : List Nat) (w : World) (b4 : Nat) (s : Value) (wr : World) : Prop :=
  ∃ (f : Nat) (pre : List (List Nat)) (cur : List Nat) (Ak : Option Addr) (ck : Nat) (v : Value) (cs : List Value),
      s = .slice Ak cur.length ck ∧ cur.length ≤ ck ∧ ck ≤ 9223372036854775807 ∧ 1 ≤ cur.length ∧ cur.length ≤ 4 ^ f ∧ cur.length ≤ 4096 ∧ pre ++ lvD f cur = treeD l ∧ pre.length + f ≤ 6 ∧ (∀ x ∈ cur, x < 4294967296) ∧
      Rd wr Ak (u32s cur) ∧ (∀ a, Ak = some a → a.block ≠ b4 ∧ some a.block ≠ v.ownBlock) ∧ Blk wr w.heap.size [.slice none 0 0] 29 ∧ Blk wr b4 [v] 29 ∧
      wr.ownsRow (w.heap.size + 1) 25 1 v (pre.length + 1) cs ∧ tyRow32.Rows wr (fun b => w.heap.size + 1 ≤ b ∧ b ≠ b4 ∧ some b ≠ v.ownBlock) (pre ++ [cur]) cs ∧ Below w.heap.size w wr
theorem make_next {l : List Nat} {w wr W w7 : World} {b4 f' m j c5 c7 : Nat} {pre : List (List Nat)} {cur : List Nat} {v : Value} {cs : List Value} {A5 A7 : Option Addr}
    (hbw : Below w.heap.size w wr) (hkf : m ≤ 4 ^ (f' + 1)) (hlt : 1 < m) (hlv : pre ++ cur :: lvD f' (upD cur) = treeD l) (hpf : pre.length + (f' + 1) ≤ 6) (hk4 : m ≤ 4096) (hm : cur.length = m)
    (hr5 : Rd W A5 (u32s (upD cur))) (ha5 : ∀ a, A5 = some a → wr.heap.size + 5 ≤ a.block ∧ a.block < W.heap.size) (hc5 : j ≤ c5) (hc63 : c5 ≤ 9223372036854775807) (hul : (upD cur).length = j) (x5 : Below wr.heap.size wr W) (hnb : Below W.heap.size W (W.alloc (.cells #[.slice A5 j c5] 25)))
    (hg7 : (W.alloc (.cells #[.slice A5 j c5] 25)).grownBy w7 v.ownBlock) (hv7 : (Value.slice A7 (pre.length + 1 + 1) c7).ownBlock = v.ownBlock ∨ (Value.slice A7 (pre.length + 1 + 1) c7).ownBlock = some (W.alloc (.cells #[.slice A5 j c5] 25)).heap.size)
    (hO7 : w7.ownsRow (w.heap.size + 1) 25 1 (.slice A7 (pre.length + 1 + 1) c7) (pre.length + 1 + 1) (cs ++ [.slice A5 j c5])) (hCo : wr.ownsRow (w.heap.size + 1) 25 1 v (pre.length + 1) cs)
    (hCr : tyRow32.Rows wr (fun b => w.heap.size + 1 ≤ b ∧ b ≠ b4 ∧ some b ≠ v.ownBlock) (pre ++ [cur]) cs) (E2 : Blk w7 w.heap.size [.slice none 0 0] 29) (E4 : Blk w7 b4 [v] 29) (hb4lt : b4 < wr.heap.size) (hb4 : w.heap.size < b4) (hne4 : v.ownBlock ≠ some b4) :
    MakeI l w b4 (.slice A5 j c5) (w7.setCell ⟨b4, 0, none⟩ (.slice A7 (pre.length + 1 + 1) c7)) := by
  have hz := hbw.size
  have z5 := x5.size
  have hlov := ownRow_lt hCo
  have zn : (W.alloc (.cells #[.slice A5 j c5] 25)).heap.size = W.heap.size + 1 := World.size_alloc _ _
  rw [zn] at hv7
  have hv7' : ∀ b, b < W.heap.size → some b ≠ v.ownBlock → some b ≠ (Value.slice A7 (pre.length + 1 + 1) c7).ownBlock := fun b hb hne e => by
    rcases hv7 with h | h
    · exact hne (e.trans h)
    · have := e.trans h; injection this with this; omega
  have hne7 : (Value.slice A7 (pre.length + 1 + 1) c7).ownBlock ≠ some b4 := fun e => hv7' b4 (by omega) (fun h => hne4 h.symm) e.symm
  have hA5 : ∀ a, A5 = some a → some a.block ≠ v.ownBlock := fun a ha e => by have := (hlov _ e.symm).2; have := (ha5 a ha).1; omega
  have hrf : Rd (w7.setCell ⟨b4, 0, none⟩ (.slice A7 (pre.length + 1 + 1) c7)) A5 (u32s (upD cur)) :=
    ((hr5.below hnb).grown hg7 hA5).grown (setCell_grown _ _ _ _) (fun a ha e => by injection e with e; have := (ha5 a ha).1; omega)
  have hj1 : 1 ≤ j := by rw [← hul, upD_length, hm]; exact upN_pos (by omega)
  have hjm : j < m := by rw [← hul, upD_length, hm]; exact upN_lt hlt
  have hRh : tyRow32.Rows wr (fun b => (w.heap.size + 1 ≤ b ∧ b ≠ b4 ∧ some b ≠ v.ownBlock) ∧ b < wr.heap.size) (pre ++ [cur]) cs := ⟨hCr.1, fun i x hx => (hCr.2 i x hx).here⟩
  have hR7 := ((hRh.below x5).below hnb).grown hg7 (fun b hb => hb.1.2.2)
  have hRf := hR7.grown (setCell_grown w7 b4 0 (.slice A7 (pre.length + 1 + 1) c7)) (fun b hb e => by injection e with e; exact hb.1.2.1 e)
  refine ⟨f', pre ++ [cur], upD cur, A5, c5, .slice A7 (pre.length + 1 + 1) c7, cs ++ [.slice A5 j c5], by rw [hul], by rw [hul]; exact hc5, hc63, by rw [hul]; exact hj1, ?_, by omega, ?_, by simp; omega, upD_lt cur, hrf, ?_, E2.apart (by omega) _ _, ?_, ?_, ?_, ?_⟩
  · rw [upD_length, hm]; exact upN_pow hkf
  · rw [List.append_assoc]; exact hlv
  · exact fun a ha => ⟨by have := (ha5 a ha).1; omega, hv7' _ (ha5 a ha).2 (hA5 a ha)⟩
  · exact E4.set 0 _
  · rw [List.length_append, List.length_singleton]
    exact ownRow_grown hO7 (setCell_grown _ _ _ _) (fun g hg e => hne7 (by rw [hg, e]))
  · refine (hRf.mono (fun b hb => ⟨hb.1.1, hb.1.2.1, hv7' b (by have := hb.2; omega) hb.1.2.2⟩)).snoc (row32_mk hul hc5 hc63 hrf (fun _ a ha => ⟨?_, ?_, hv7' _ (ha5 a ha).2 (hA5 a ha)⟩) (upD_lt cur))
    · have := (ha5 a ha).1; omega
    · have := (ha5 a ha).1; omega
  · have h1 := (hbw.trans (x5.mono hz)).trans (hnb.mono (by omega))
    have h2 := h1.grown hg7 h1.size (fun k e => by have := (hlov k e).1; omega)
    exact h2.setCell (by show w.heap.size ≤ b4; omega) _
theorem infoU32s : (Tryd.prog.info? 25).map (fun i => (i.zero, i.size, i.bytes)) = some (some (.slice none 0 0), 1, 24) := by kernel_rfl
theorem rd_piece {w : World} {A : Option Addr} {l : List Nat} {n c j : Nat} (h : Rd w A (u32s l)) (hn : l.length = n) (hnc : n ≤ c) (hj : 4 * j < n) : Rd w (cutA A c (4 * j) 1) (u32s (pieceD l j)) := by
  have h1 := h.cutA (n := n) (k := 4 * j) (cap := c) (by rw [u32s_length, hn]; exact Nat.le_refl _) (by omega) hnc
  have h2 := h1.take 4
  have e : u32s (pieceD l j) = (List.drop (4 * j) (u32s l)).take 4 := by
    unfold pieceD u32s; rw [List.map_take, List.map_drop]
  rw [e]; exact h2
theorem mem_piece {l : List Nat} {j x : Nat} (h : x ∈ pieceD l j) : x ∈ l := List.mem_of_mem_drop (List.mem_of_mem_take h)
theorem tU32s : SlT Tryd.prog 27 25 1 24 := slT_mk Tryd.underlying27 (z := .slice none 0 0) (by kernel_rfl) rfl (by decide)
set_option maxRecDepth 100000 in
set_option maxHeartbeats 3200000 in
theorem make_any (A : Option Addr) (n c : Nat) (l : List Nat) (w : World) (hn : l.length = n) (hn8 : n ≤ 1099511627776) (hnc : n ≤ c) (hc63 : c ≤ 9223372036854775807) (hr : Rd w A (u32s l)) (hb : ∀ x ∈ l, x < 4294967296) (ht : Tab w) (h1 : 1 ≤ n) (h2 : n ≤ 4096) :
    Calls Tryd.prog 13 #[.slice A n c] w fun e w' => ∃ B K C, e = .returned (.tuple #[.agg #[.slice B K C], .int .i64 0]) ∧ tyTree.Is w' (fun b => w.heap.size ≤ b) (treeD l) [.slice B K C] ∧ Below w.heap.size w w' := by
  have Hn := hide hn
  clear hn
  obtain ⟨i0, hi, hz0, hz1, hz2⟩ := info_parts infoU32s
  have hmo : Tryd.prog.follows .mixedOrders = true := by kernel_rfl
  refine (callsIn_wide (n := 8)).1 ?_
  refine callsIn_of_wp_marks Tryd.func13 rfl trivial ?_ rfl
  simp only [Tryd.ntmps13, List.size_toArray, List.length_cons, List.length_nil, Nat.reduceAdd, Nat.reduceSub, Array.replicate_succ, Array.replicate_zero, List.push_toArray, List.append_toArray, List.nil_append, List.cons_append]
  have e0 : ((n : Int) == 0) = false := by rw [beq_eq_false_iff_ne]; omega
  gi_wp2_with fail
  refine ⟨trivial, (callsIn_wide.2 (clone32_any A n c l _ Hn.out (by omega) (hr.alloc _))).mono ?_⟩
  rintro x w1 ⟨v1, rfl, ho1, hb1⟩
  obtain ⟨A1, c1, rfl, _, hc1, hcm1, hr1, ha1⟩ := own_out ho1
  have z0 : (w.alloc (.cells #[.slice none 0 0] 29)).heap.size = w.heap.size + 1 := World.size_alloc _ _
  have z1 := hb1.size
  rw [z0] at z1 ha1
  have hb01 : Below w.heap.size w w1 := ((Below.refl _ _).alloc (Nat.le_refl _) _).trans (hb1.mono (by omega))
  have hB2 : Blk w1 w.heap.size [.slice none 0 0] 29 := (Blk.new w [.slice none 0 0] _).below hb1
  clear ho1 hb1
  gi_wp2_with fail
  have hg3 := Blk.new w1 [.slice A1 n c1] 25
  obtain ⟨w3, hw3⟩ : ∃ x, (w1.alloc (.cells #[.slice A1 n c1] 25)).alloc (.cells #[.slice (some ⟨w1.heap.size, 0, none⟩) 1 1] 29) = x := ⟨_, rfl⟩
  have hb13 : Below w1.heap.size w1 w3 := by rw [← hw3]; exact ((Below.refl _ _).alloc (Nat.le_refl _) _).alloc (by simp) _
  have z3 : w3.heap.size = w1.heap.size + 2 := by rw [← hw3]; simp
  have hB2' := hB2.below hb13
  have hB4 : Blk w3 (w1.heap.size + 1) [.slice (some ⟨w1.heap.size, 0, none⟩) 1 1] 29 := by
    rw [← hw3]
    have := Blk.new (w1.alloc (.cells #[.slice A1 n c1] 25)) [.slice (some ⟨w1.heap.size, 0, none⟩) 1 1] 29
    rwa [World.size_alloc] at this
  have hO : w3.ownsRow (w.heap.size + 1) 25 1 (.slice (some ⟨w1.heap.size, 0, none⟩) 1 1) 1 [.slice A1 n c1] := by
    have h := own_made (w := w1) (base := w.heap.size + 1) (e := 25) (size := 1) #[.slice A1 n c1] 1 1 (by omega) (Nat.le_refl _) (by decide) rfl
    have h' := own_below h ((Below.refl _ _).alloc (Nat.le_refl _) (.cells #[.slice (some ⟨w1.heap.size, 0, none⟩) 1 1] 29))
    rw [← hw3]; exact h'
  have hR0 : tyRow32.Rows w3 (fun b => w.heap.size + 1 ≤ b ∧ b ≠ w1.heap.size + 1 ∧ some b ≠ (Value.slice (some ⟨w1.heap.size, 0, none⟩) 1 1).ownBlock) [l] [.slice A1 n c1] := by
    refine Ty.Rows.one (row32_mk Hn.out hc1 (by unfold maxLen at hcm1; omega) (hr1.below hb13) (fun _ a ha => ?_) hb)
    have := ha1 a ha
    refine ⟨by omega, by omega, fun e => ?_⟩
    simp [Value.ownBlock] at e
    omega
  have hrl := (hr.below hb01).below hb13
  have hAl : ∀ a, A = some a → a.block < w.heap.size := rd_block hr (fun e => by
    have h0 : (u32s l).length = 0 := by rw [e]; rfl
    rw [u32s_length, Hn.out] at h0
    omega)
  have hb03 := hb01.trans (hb13.mono hb01.size)
  have Hw3 := hide hw3
  have Hlv : Hid (([] : List (List Nat)) ++ lvD 6 l = treeD l) := hide rfl
  obtain ⟨b4, hb4⟩ : ∃ x, w1.heap.size + 1 = x := ⟨_, rfl⟩
  rw [hb4] at hB4 hR0 ⊢
  clear hw3 hg3 hr1 ha1 hb01 hB2 hb13
  refine wpIn_loop (fun a' wr => ∃ (u0 u5 u6 u20 u21 u22 u23 u24 u25 u26 u27 u28 u29 u30 u31 u32 u33 u34 u35 u36 u37 u38 : Value) (rs : List Nat), (MakeI l w b4 u0 wr ∧ MarksAt w.heap.size wr rs) ∧ a' = { tmps := #[u0, undef, .pointer (some ⟨w.heap.size, 0, none⟩), .int .i64 0, .pointer (some ⟨b4, 0, none⟩), u5, u6, .slice A n c, .int .i64 (n : Int), .bool false, .bool false, .slice A n c, .int .i64 (n : Int), .bool (decide ((4096 : Int) < (n : Int))), .bool (decide ((4096 : Int) < (n : Int))), undef, .slice A n c, .slice A1 n c1, .slice (some ⟨w1.heap.size, 0, none⟩) 1 1, .agg #[.slice (some ⟨w1.heap.size, 0, none⟩) 1 1], u20, u21, u22, u23, u24, u25, u26, u27, u28, u29, u30, u31, u32, u33, u34, u35, u36, u37, u38], defers := rs.map mark7 }) (fun a' _ => sliceLen (a'.tmps.getD 0 undef)) ?start ?round
  case start =>
    rw [Hw3.out]
    exact ⟨_, _, _, _, _, _, _, _, _, _, _, _, _, _, _, _, _, _, _, _, _, _, [], ⟨⟨6, [], l, A, c, _, _, by rw [Hn.out], by rw [Hn.out]; exact hnc, hc63, by rw [Hn.out]; exact h1, by rw [Hn.out]; omega, by rw [Hn.out]; exact h2, Hlv.out, by simp, hb, hrl, fun a ha => ⟨by have := hAl a ha; omega, fun e => by have := hAl a ha; simp [Value.ownBlock] at e; omega⟩, hB2', hB4, hO, hR0, hb03⟩, MarksAt.nil _ _⟩, rfl⟩
  case round =>
    intro a' wr hinv
    obtain ⟨u0, u5, u6, u20, u21, u22, u23, u24, u25, u26, u27, u28, u29, u30, u31, u32, u33, u34, u35, u36, u37, u38, rs, ⟨hrel, hmk⟩, rfl⟩ := hinv
    obtain ⟨f, pre, cur, Ak, ck, v, cs, rfl, hkc, hk63, hk1, hkf, hk4, hlv, hpf, hcb, hrk, hAk, hC2, hC4, hCo, hCr, hbw⟩ := hrel
    by_cases hlt : 1 < cur.length
    · obtain ⟨f', rfl⟩ : ∃ f', f = f' + 1 := ⟨f - 1, by
        cases f with
        | zero => simp at hkf; omega
        | succ f => rfl⟩
      rw [lvD_more hlt] at hlv
      obtain ⟨m, hm⟩ : ∃ m, cur.length = m := ⟨_, rfl⟩
      rw [hm] at hkc hk1 hkf hk4 hlt ⊢
      have Hm := hide hm
      have Hlv := hide hlv
      have HC4 := hide hC4
      have HC2 := hide hC2
      clear hm hlv hC4 hC2
      gi_wp2_with fail
      refine ⟨trivial, (callsIn_wide.2 (chunk_any Ak m ck _)).mono ?_⟩
      rintro x w5 ⟨rfl, rfl⟩
      gi_wp2_with fail
      obtain ⟨W0, hW0⟩ : ∃ x, ((wr.alloc (.cells #[.slice none 0 0] 25)).alloc (.cells #[.slice Ak m ck] 25)).alloc (.cells #[.int .i64 4] 3) = x := ⟨_, rfl⟩
      have hsz : W0.heap.size = wr.heap.size + 3 := by rw [← hW0]; simp
      have hbW : Below wr.heap.size wr W0 := by rw [← hW0]; exact (((Below.refl _ _).alloc (Nat.le_refl _) _).alloc (by simp) _).alloc (by simp; omega) _
      have q0 : Blk W0 wr.heap.size [.slice none 0 0] 25 := by rw [← hW0]; exact ((Blk.new wr [.slice none 0 0] 25).alloc _).alloc _
      have q1 : Blk W0 (wr.heap.size + 1) [.slice Ak m ck] 25 := by
        rw [← hW0]
        have := (Blk.new (wr.alloc (.cells #[.slice none 0 0] 25)) [.slice Ak m ck] 25).alloc (.cells #[.int .i64 4] 3)
        rwa [World.size_alloc] at this
      have q2 : Blk W0 (wr.heap.size + 2) [.int .i64 4] 3 := by
        rw [← hW0]
        have := Blk.new ((wr.alloc (.cells #[.slice none 0 0] 25)).alloc (.cells #[.slice Ak m ck] 25)) [.int .i64 4] 3
        rwa [World.size_alloc, World.size_alloc] at this
      rw [hW0]
      refine range_own 8 (by omega) (lb := #[.pointer (some ⟨wr.heap.size + 1, 0, none⟩), .pointer (some ⟨wr.heap.size + 2, 0, none⟩)]) (by simp [Act.eval]) (enters_of Tryd.func64 (by kernel_rfl) rfl) (encC Ak m ck) (fun _ => rfl) (fun j => 4 * j < m)
        (fun j W => UpI wr Ak m ck cur j W ∧ 4 * j < m + 4) (fun j W => UpI wr Ak m ck cur (j + 1) W ∧ 4 * j < m) (fun _ _ => False) ?i0 ?ip ?mp (fun _ _ _ _ h => h) ?it ?round ?done (fun _ _ h => h.elim)
      case i0 =>
        intro r
        have hb2 : Below W0.heap.size W0 ((W0.alloc (.deferred (some []))).alloc (.loop r)) := ((Below.refl _ _).alloc (Nat.le_refl _) _).alloc (by simp) _
        exact ⟨⟨⟨_, q0.below hb2, World.ownsRow_nil _ _ _ _⟩, q1.below hb2, q2.below hb2, hbW.trans (hb2.mono hbW.size), by simp; omega⟩, by omega⟩
      case ip => intro j W r hW h; rw [hsz]; exact ⟨h.1.put r, h.2⟩
      case mp => intro j W r hW h; rw [hsz]; exact ⟨h.1.put r, h.2⟩
      case it =>
        refine chunk_iter (8 - 1) (by omega) _ _ _ Ak m ck (by omega) hkc hk63 _ _ ?_ ?_ ?_
        · exact fun j W h => ⟨h.1.2.1.cell (j := 0) rfl, h.1.2.2.1.cell (j := 0) rfl⟩
        · exact fun j W k h => ⟨h.1.drewN k, h.2⟩
        · exact fun j W h => ⟨h.1.2.2.1.cell (j := 0) rfl, h.1, by omega⟩
      case round =>
        intro j W hU hj hlW
        obtain ⟨hU, _⟩ := hU
        rw [show encC Ak m ck j = #[.slice (cutA Ak ck (4 * j) 1) (min 4 (m - 4 * j)) (min 4 (m - 4 * j))] from rfl]
        gi_wp2
        refine ⟨KeepsOthers.refl _, fun r' => ?_⟩
        rw [hsz]
        have hX := hU.put r'
        obtain ⟨X, hXX⟩ : ∃ x, W.putObj (wr.heap.size + 3 + 1) (.loop r') = x := ⟨_, rfl⟩
        rw [show wr.heap.size + 3 + 1 = wr.heap.size + 4 from rfl] at hXX ⊢
        rw [hXX] at hX ⊢
        obtain ⟨⟨v5, x1, x2⟩, x3, x4, x5, x6⟩ := hX
        have x1c := x1.cell (j := 0) rfl
        gi_wp2_with fail
        have hpc := rd_piece (hrk.below x5) Hm.out hkc hj
        have hpl : (pieceD cur j).length = min 4 (m - 4 * j) := by rw [pieceD_length, Hm.out]
        have hp4 := Nat.min_le_left 4 (m - 4 * j)
        have htX : Tab X.drew := Rd.below (Rd.below ht hbw) (x5.drew)
        have HROW := hide (row_any _ _ (min 4 (m - 4 * j)) (pieceD cur j) X.drew hpl (by omega) hpc (fun x hx => hcb x (mem_piece hx)) htX)
        obtain ⟨d, hd⟩ : ∃ d, rowD (pieceD cur j) = d := ⟨_, rfl⟩
        rw [hd] at HROW
        have Hd := hide hd
        have Hpl := hide hpl
        clear hd hpl hpc
        refine round_any hmo (by kernel_rfl) (by rintro ⟨_, _, h⟩; exact h) ?_
        refine wpAny_take (fuel := 5) (i := 1) (v := .slice (cutA Ak ck (4 * j) 1) (min 4 (m - 4 * j)) (min 4 (m - 4 * j))) rfl (by kernel_rfl) (by kernel_rfl) (by kernel_rfl) (fun _ _ _ h => h) (Or.inl ⟨by rfl, fun Z => ?_⟩) ?_
        · go_simp
        refine any_two (fuel := 4) (i := 0) (j := 2) (by kernel_rfl) rfl rfl rfl rfl (fun K hK => ?_) (fun K hK => ?_)
        · go_simp
          refine hK _ _ ?_
          clear hK K
          refine any_one (fuel := 3) (i := 2) (by kernel_rfl) rfl rfl (fun K hK => ?_)
          go_simp
          refine HROW.out.mono ?_
          rintro x X2 ⟨rfl, hb2⟩
          refine hK _ _ ?_
          clear hK K
          refine any_one (fuel := 2) (i := 3) (by kernel_rfl) rfl rfl (fun K hK => ?_)
          go_simp
          refine hK _ _ ?_
          clear hK K
          have hb2' : Below X.heap.size X X2 := (Below.refl _ X).drew.trans hb2
          have hbX : Below X.heap.size X (X2.alloc (.cells #[.int .u32 (d : Int)] 33)) := hb2'.alloc hb2'.size _
          refine any_one (fuel := 1) (i := 4) (by kernel_rfl) rfl rfl (fun K hK => ?_)
          refine oper_own rfl tU32 (by rfl) (own_below x2 hbX) (A := some ⟨X2.heap.size, 0, none⟩) (m := 1) (c := 1) (by rfl) (by rfl) (Rd.new1 X2 _ _) (by intro u hu; simp at hu; subst hu; rfl) (by omega) (by omega) (by have := hbX.size; omega) ?_
          intro v6 X4 ho6 hg6 hv6
          obtain ⟨A6, c6, rfl, _⟩ := own_out ho6
          refine hK _ _ ?_
          clear hK K
          refine any_one (fuel := 0) (i := 5) (by kernel_rfl) rfl rfl (fun K hK => ?_)
          have lo5 := ownRow_lt x2
          have ow5 := own_below x2 hbX
          have hzX := hbX.size
          have kb : ∀ q, q < wr.heap.size + 5 → X4.heap[q]? = X.heap[q]? := fun q hq => (hg6.block q (by omega) (fun e => by have := (lo5 q e.symm).1; omega)).trans (hbX.block q (by omega))
          have b5b : Blk X4 wr.heap.size [v5] 25 := (kb _ (by omega)).trans x1
          have c5 := b5b.cell (j := 0) rfl
          have f5 := b5b.frozen 0
          have HU : Hid (UpI wr Ak m ck cur (j + 1) (X4.setCell ⟨wr.heap.size, 0, none⟩ (.slice A6 (j + 1) c6)) ∧ KeepsOthers X (X4.setCell ⟨wr.heap.size, 0, none⟩ (.slice A6 (j + 1) c6))) := hide (upI_store x1 x2 x3 x4 x5 x6 hbX ho6 hg6 Hd.out)
          go_simp
          refine hK _ _ ?_
          clear hK K
          refine ⟨by kernel_rfl, ?_⟩
          exact ⟨HU.out.2, HU.out.1, hj⟩
        · go_simp
          refine HROW.out.mono ?_
          rintro x X2 ⟨rfl, hb2⟩
          refine hK _ _ ?_
          clear hK K
          refine any_two (fuel := 3) (i := 0) (j := 3) (by kernel_rfl) rfl rfl rfl rfl (fun K hK => ?_) (fun K hK => ?_)
          · have x1d := (x1.below ((Below.refl _ X).drew.trans hb2)).cell (j := 0) rfl
            go_simp
            refine hK _ _ ?_
            clear hK K x1d
            refine any_one (fuel := 2) (i := 3) (by kernel_rfl) rfl rfl (fun K hK => ?_)
            go_simp
            refine hK _ _ ?_
            clear hK K
            have hb2' : Below X.heap.size X X2 := (Below.refl _ X).drew.trans hb2
            have hbX : Below X.heap.size X (X2.alloc (.cells #[.int .u32 (d : Int)] 33)) := hb2'.alloc hb2'.size _
            refine any_one (fuel := 1) (i := 4) (by kernel_rfl) rfl rfl (fun K hK => ?_)
            refine oper_own rfl tU32 (by rfl) (own_below x2 hbX) (A := some ⟨X2.heap.size, 0, none⟩) (m := 1) (c := 1) (by rfl) (by rfl) (Rd.new1 X2 _ _) (by intro u hu; simp at hu; subst hu; rfl) (by omega) (by omega) (by have := hbX.size; omega) ?_
            intro v6 X4 ho6 hg6 hv6
            obtain ⟨A6, c6, rfl, _⟩ := own_out ho6
            refine hK _ _ ?_
            clear hK K
            refine any_one (fuel := 0) (i := 5) (by kernel_rfl) rfl rfl (fun K hK => ?_)
            have lo5 := ownRow_lt x2
            have ow5 := own_below x2 hbX
            have hzX := hbX.size
            have kb : ∀ q, q < wr.heap.size + 5 → X4.heap[q]? = X.heap[q]? := fun q hq => (hg6.block q (by omega) (fun e => by have := (lo5 q e.symm).1; omega)).trans (hbX.block q (by omega))
            have b5b : Blk X4 wr.heap.size [v5] 25 := (kb _ (by omega)).trans x1
            have c5 := b5b.cell (j := 0) rfl
            have f5 := b5b.frozen 0
            have HU : Hid (UpI wr Ak m ck cur (j + 1) (X4.setCell ⟨wr.heap.size, 0, none⟩ (.slice A6 (j + 1) c6)) ∧ KeepsOthers X (X4.setCell ⟨wr.heap.size, 0, none⟩ (.slice A6 (j + 1) c6))) := hide (upI_store x1 x2 x3 x4 x5 x6 hbX ho6 hg6 Hd.out)
            go_simp
            refine hK _ _ ?_
            clear hK K
            refine ⟨by kernel_rfl, ?_⟩
            exact ⟨HU.out.2, HU.out.1, hj⟩
          · go_simp
            refine hK _ _ ?_
            clear hK K
            have x1d := (x1.below (((Below.refl _ X).drew.trans hb2).alloc ((Below.refl _ X).drew.trans hb2).size (.cells #[.int .u32 (d : Int)] 33))).cell (j := 0) rfl
            refine any_one (fuel := 2) (i := 0) (by kernel_rfl) rfl rfl (fun K hK => ?_)
            go_simp
            refine hK _ _ ?_
            clear hK K x1d
            have hb2' : Below X.heap.size X X2 := (Below.refl _ X).drew.trans hb2
            have hbX : Below X.heap.size X (X2.alloc (.cells #[.int .u32 (d : Int)] 33)) := hb2'.alloc hb2'.size _
            refine any_one (fuel := 1) (i := 4) (by kernel_rfl) rfl rfl (fun K hK => ?_)
            refine oper_own rfl tU32 (by rfl) (own_below x2 hbX) (A := some ⟨X2.heap.size, 0, none⟩) (m := 1) (c := 1) (by rfl) (by rfl) (Rd.new1 X2 _ _) (by intro u hu; simp at hu; subst hu; rfl) (by omega) (by omega) (by have := hbX.size; omega) ?_
            intro v6 X4 ho6 hg6 hv6
            obtain ⟨A6, c6, rfl, _⟩ := own_out ho6
            refine hK _ _ ?_
            clear hK K
            refine any_one (fuel := 0) (i := 5) (by kernel_rfl) rfl rfl (fun K hK => ?_)
            have lo5 := ownRow_lt x2
            have ow5 := own_below x2 hbX
            have hzX := hbX.size
            have kb : ∀ q, q < wr.heap.size + 5 → X4.heap[q]? = X.heap[q]? := fun q hq => (hg6.block q (by omega) (fun e => by have := (lo5 q e.symm).1; omega)).trans (hbX.block q (by omega))
            have b5b : Blk X4 wr.heap.size [v5] 25 := (kb _ (by omega)).trans x1
            have c5 := b5b.cell (j := 0) rfl
            have f5 := b5b.frozen 0
            have HU : Hid (UpI wr Ak m ck cur (j + 1) (X4.setCell ⟨wr.heap.size, 0, none⟩ (.slice A6 (j + 1) c6)) ∧ KeepsOthers X (X4.setCell ⟨wr.heap.size, 0, none⟩ (.slice A6 (j + 1) c6))) := hide (upI_store x1 x2 x3 x4 x5 x6 hbX ho6 hg6 Hd.out)
            go_simp
            refine hK _ _ ?_
            clear hK K
            refine ⟨by kernel_rfl, ?_⟩
            exact ⟨HU.out.2, HU.out.1, hj⟩
      case done =>
        intro j W hU hnm hDq
        obtain ⟨⟨⟨v5, x1, x2⟩, x3, x4, x5, x6⟩, hj4⟩ := hU
        rw [hsz] at hDq
        have hj : j = upN m := by unfold upN; omega
        have hup : upTo cur j = upD cur := by unfold upD; rw [Hm.out, ← hj]
        rw [hup] at x2
        have hul : (upD cur).length = j := by rw [upD_length, Hm.out, hj]
        have hlo5 := ownRow_lt x2
        obtain ⟨A5, c5, rfl, _, hc5, hcm5, hr5, ha5⟩ := own_out x2
        have z5 := x5.size
        have HB4 := HC4.out.below x5
        have HB2 := HC2.out.below x5
        have hO9 := own_below hCo x5
        have hlov := ownRow_lt hCo
        have hb4lt := HC4.out.lt
        have d4 := HB4.cell (j := 0) rfl
        have d5 := x1.cell (j := 0) rfl
        have hnb : Below W.heap.size W (W.alloc (.cells #[.slice A5 j c5] 25)) := (Below.refl _ _).alloc (Nat.le_refl _) _
        have hnew := Rd.new1 W (.slice A5 j c5) 25
        have hO9' := own_below hO9 hnb
        rw [hsz]
        have Hj := hide hj
        clear hj hup hnm
        gi_wp2_with (first | (with_reducible refine stop_appendIn rfl ?_))
        show wpListIn _ _ _ _ _ _ _ _
        refine wpListIn_append_own_at _ rfl _ _ 27 rfl (w.heap.size + 1) 25 i0 (.slice none 0 0) 1 24 Tryd.underlying27 hi hz0 hz1 hz2 rfl (by decide) v (pre.length + 1) cs rfl hO9' ⟨W.heap.size, 0, none⟩ 1 1 [.slice A5 j c5] rfl rfl (fun q u hu => hnew.at_ hu) (by intro u hu; simp at hu; subst hu; rfl) (by unfold maxLen; omega) (by omega) (by have := hbw.size; simp; omega) ?_
        intro v7 w7 hO7 hg7 _ hv7
        obtain ⟨A7, c7, rfl, _⟩ := own_out hO7
        have hne4 := own_ne_blk hCo HC4.out (by decide)
        have hne2 := own_ne_blk hCo HC2.out (by decide)
        have hwz := hbw.size
        have E4 : Blk w7 b4 [v] 29 := (hg7.block b4 (by simp; omega) (fun e => hne4 e.symm)).trans (HB4.below hnb)
        have E2 : Blk w7 w.heap.size [.slice none 0 0] 29 := (hg7.block w.heap.size (by simp; omega) (fun e => hne2 e.symm)).trans (HB2.below hnb)
        have hne5 : some wr.heap.size ≠ v.ownBlock := fun e => by have := (hlov _ e.symm).2; omega
        have E5 : Blk w7 wr.heap.size [.slice A5 j c5] 25 := (hg7.block wr.heap.size (by simp; omega) hne5).trans (x1.below hnb)
        have e4 := E4.cell (j := 0) rfl
        have f4 := E4.frozen 0
        have e5 := (E5.apart (show wr.heap.size ≠ b4 by omega) 0 (.slice A7 (pre.length + 1 + 1) c7)).cell (j := 0) rfl
        have HN := hide (make_next hbw hkf hlt Hlv.out hpf hk4 Hm.out hr5 ha5 hc5 (by unfold maxLen at hcm5; omega) hul x5 hnb hg7 hv7 hO7 hCo hCr E2 E4 hb4lt (by omega) hne4)
        have HMK := hide (show MarksAt w.heap.size (w7.setCell ⟨b4, 0, none⟩ (.slice A7 (pre.length + 1 + 1) c7)) ((wr.heap.size + 3) :: rs) from
          ((hmk.keep (keepsBelow x5)).cons hDq (by omega) hmk.lt (by omega)).keep ((((KeepsOthers.alloc _ _).trans (KeepsOthers.of_grownBy hg7 (ownRow_cells hO9'))).trans (KeepsOthers.setCell _ _ _))))
        clear E2 E4 hO7 hg7 hv7 hDq hmk
        gi_wp2
        refine ⟨⟨_, _, _, _, _, _, _, _, _, _, _, _, _, _, _, _, _, _, _, _, _, _, (wr.heap.size + 3) :: rs, ⟨HN.out, HMK.out⟩, rfl⟩, ?_⟩
        show j < m
        rw [Hj.out]; exact upN_lt hlt
    · have hone : cur.length = 1 := by omega
      have hloc := ownRow_lt hCo
      obtain ⟨Av, cv, rfl, _, hcv, hcmv, hrv, hav⟩ := own_out hCo
      have hfin : pre ++ [cur] = treeD l := by rw [← hlv, lvD_one _ (by omega)]
      rw [hfin] at hCr
      have hll : (treeD l).length = pre.length + 1 := by rw [← hfin]; simp
      obtain ⟨m, hm⟩ : ∃ m, cur.length = m := ⟨_, rfl⟩
      rw [hm] at hlt hone ⊢
      subst hone
      have HC2 := hide hC2
      have d4 := hC4.cell (j := 0) rfl
      have f2 := hC2.frozen 0
      have d2 := hC2.cell (j := 0) rfl
      have HH := hide (And.intro hrv (And.intro hCr (And.intro hbw hmk)))
      have Hll := hide hll
      have Hm := hide hm
      clear hfin hlv hll hm hrv hCr hbw hmk hCo hAk hrk hcb hC2
      gi_wp2
      obtain ⟨hrv, hCr, hbw, hmk⟩ := HH.out
      refine leaves_marks (B := w.heap.size) rs _ (hmk.keep (KeepsOthers.setCell _ _ _)) ?_
      intro W' hca hbl
      have hB : Blk W' w.heap.size [.slice Av (pre.length + 1) cv] 29 := hca _ _ rfl (HC2.out.set 0 _)
      have hg := setCell_grown wr w.heap.size 0 (.slice Av (pre.length + 1) cv)
      have hr1 := hca.rd (hrv.grown hg (fun a ha e => by injection e with e; have := (hav a ha).1; omega))
      have hR1 := (hCr.grown hg (fun b hb e => by injection e with e; have := hb.1; omega)).keep (Q' := fun b => w.heap.size ≤ b) (fun A xs h _ => hca.rd h) (fun b hb => by have := hb.1; omega)
      exact ⟨_, results_cell2 rfl rfl hB Tryd.underlying29 rfl (by kernel_rfl), Av, pre.length + 1, cv, rfl,
        Tree_mk Hll.out hcv (by unfold maxLen at hcmv; omega) hr1 (fun _ a ha => by have := (hav a ha).1; omega) hR1, (hbw.setCell (Nat.le_refl _) _).trans hbl⟩
end Go.Proofs.YtcpnobhdogpfiaaDoor
