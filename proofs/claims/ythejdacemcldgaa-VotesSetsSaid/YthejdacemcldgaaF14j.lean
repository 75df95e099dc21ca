/- Stage 14: votes.Ack. -/
import Derived.Test.YthejdacemcldgaaF14h
namespace Go.Proofs.Ythejdacemcldgaa
set_option maxRecDepth 20000
open Go.RowKit Go.Px Go.Shelf Go.Lib
open Go.Sort hiding Below
set_option linter.unusedVariables false
theorem blk_sortA {w : World} {blk n : Nat} {L : List Value} {T : TypeId} {d : Array (Int × Int)} {os : Array Obj} (BL : Blk w blk L T) : ∃ L' : List Value, Blk (sortWorldK encA 2 w blk 0 n d os) blk L' T ∧ L'.length = L.length := by
  have hlt : blk < w.heap.size := BL.lt
  refine ⟨(putCells id 0 (flatK encA 2 d) L.toArray).toList, ?_, by simp [putCells]⟩
  unfold Blk sortWorldK
  rw [heap_grow_old _ _ (by unfold putRowK; rw [size_putRow]; exact hlt)]
  show ((Sort.ahead w n).heap.modify blk _)[blk]? = _
  rw [Array.getElem?_modify, if_pos rfl]
  rw [show (Sort.ahead w n).heap[blk]? = w.heap[blk]? from rfl, show w.heap[blk]? = _ from BL]
  rfl
theorem take_of_rd {w : World} {g : Nat} {L : List Value} {T : TypeId} {xs : List Value} (BL : Blk w g L T) (hr : Rd w (some ⟨g, 0, none⟩) xs) (hl : xs.length ≤ L.length) : L.take xs.length = xs := by
  apply List.ext_getElem?
  intro j
  rw [List.getElem?_take]
  by_cases hj : j < xs.length
  · rw [if_pos hj]
    obtain ⟨a, ha, hc⟩ := hr j _ (List.getElem?_eq_getElem hj)
    injection ha with ha
    subst ha
    rw [addr_add14] at hc
    have h1 := BL.cell (List.getElem?_eq_getElem (show j < L.length by omega))
    rw [h1] at hc
    injection hc with hc
    rw [List.getElem?_eq_getElem hj, List.getElem?_eq_getElem (show j < L.length by omega), hc]
  · rw [if_neg hj, List.getElem?_eq_none (by omega)]
theorem sortB_any {w : World} {base n c blk : Nat} {ds : List (Int × Int)} (h : w.ownsRow base 44 2 (.slice (some ⟨blk, 0, none⟩) n c) n (acs ds)) (hn : ds.length = n) (hn0 : 0 < n) (h12 : n ≤ 4096) :
    Calls Try.prog 25 #[.slice (some ⟨blk, 0, none⟩) n c, .func (.func 26) #[] #[]] w fun e w' => e = .returned (.tuple #[]) ∧ ∃ (es : List (Int × Int)) (L : List Value), es.Perm ds ∧ Srt es ∧ Blk w' blk L 44 ∧ L.take (2 * n) = acs es ∧ 2 * n ≤ L.length ∧ w.grownBy w' (some blk) := by
  obtain ⟨L0, BL0, hL0⟩ : ∃ L0 : List Value, Blk w blk L0 44 ∧ 2 * n ≤ L0.length := by
    rcases h.2 with ⟨_, h2⟩ | ⟨g, cap, cur, hv, hb, hg, h1, h2, h3, _⟩
    · omega
    · injection hv with hv _ _
      injection hv with hv
      injection hv with hv
      subst hv
      exact ⟨cur.toList, by unfold Blk; simpa using hg, by rw [Array.length_toList, h3]; omega⟩
  have hblk : blk < w.heap.size := BL0.lt
  have h' := h
  rw [acs_flat] at h'
  have eg : ∀ args w, (callFunc 26 args).run Try.prog w = .ok (.enter 26 args) w := enters_of Try.func26 (by kernel_rfl) rfl
  have hsz : ds.toArray.size = n := by simpa using hn
  have hcon := AnyQ.slices_SortFunc Try.sortAck 2 Try.isAgg44 Try.sizeOf44 encA (fun _ => rfl) (fun x v hv => by simp [encA] at hv; rcases hv with rfl | rfl <;> rfl) ackC swoA 26 #[] blk 0 c ds.toArray w eg (cmpA blk 0 _ w) (own_holdsA h') hblk (by omega)
  rw [hsz] at hcon
  refine (show Calls Try.prog 25 _ _ _ from hcon).mono ?_
  rintro e w' ⟨rfl, d', n', os, hp, hs, rfl⟩
  have hsz' : d'.size = ds.length := by rw [hp.1]; simp
  have hperm : d'.toList.Perm ds := by
    have := hp.2.2
    rw [Array.extract_eq_self_of_le (by omega), Array.extract_eq_self_of_le (by simp; omega)] at this
    simpa using this
  have hrd : Rd (sortWorldK encA 2 w blk 0 n' d' os) (some ⟨blk, 0, none⟩) (acs d'.toList) := by
    rw [acs_flat]
    refine rd_holdsA ?_
    rw [show d'.toList.toArray = d' by simp]
    exact holdsK_grow encA 2 _ os blk 0 d' (by unfold putRowK; rw [size_putRow]; exact hblk) (holdsK_putRowK encA 2 (Sort.ahead w n') blk 0 ds.toArray d' (holdsK_ahead encA 2 w n' blk 0 _ (own_holdsA h')) (by simp [hsz']))
  obtain ⟨L', BL', hL'⟩ := blk_sortA (n := n') (d := d') (os := os) BL0
  have hlen : (acs d'.toList).length = 2 * n := by rw [acs_length, Array.length_toList, hsz', hn]
  refine ⟨rfl, d'.toList, L', hperm, ?_, BL', ?_, by omega, grown_sortA _ _ _⟩
  · unfold Srt
    rw [List.pairwise_iff_getElem]
    intro i j hi hj hij hlt
    have hi' : i < d'.size := by simpa using hi
    have hj' : j < d'.size := by simpa using hj
    have := hs i j (Nat.zero_le _) hij (by omega)
    rw [getElem!_pos d' j hj', getElem!_pos d' i hi'] at this
    unfold ltOf at this
    simp only [decide_eq_false_iff_not, ackC_lt] at this
    simp only [Array.getElem_toList] at hlt
    exact this hlt
  · have h0 := take_of_rd BL' hrd (by omega)
    rwa [hlen] at h0
set_option maxHeartbeats 1600000 in
theorem mack_any (A : Option Addr) (n c : Nat) (l : List (Int × Int)) (v m : Int) (w : World) (hn : l.length = n) (h63 : n ≤ 4000) (hr : Rd w A (acs l)) :
    Calls Try.prog 13 #[.slice A n c, .int .i64 v, .int .i64 m] w fun e w' => ∃ (o : List (Int × Int)) (B : Option Addr) (d : Nat), e = .returned (.slice B o.length d) ∧ Rd w' B (acs o) ∧ AckOf (l ++ [(v, m)]) o ∧ o.length ≤ n + 1 ∧ o.length ≤ d ∧ d ≤ maxLen ∧ Below w.heap.size w w' := by
  have HC := hide (aclone_any A n c l w hn (by omega) hr)
  obtain ⟨L0, hL⟩ : ∃ y, l ++ [(v, m)] = y := ⟨_, rfl⟩
  rw [hL]
  have hLl : L0.length = n + 1 := by rw [← hL, List.length_append, hn]; rfl
  have Hn := hide hn
  have HL := hide hL
  clear hn hL
  go_enter Try.func13, Try.ntmps13
  go_wp2_with fail
  go_fit HC.out
  rintro e w1 ⟨u, rfl, hO1, hb1⟩
  go_wp2_with (first | (with_reducible refine stop_append rfl ?_) | (with_reducible refine stop_copy rfl ?_) | (with_reducible refine stop_make rfl ?_))
  refine ((Grow.start hO1 hb1.size).alloc _).append rfl rfl tAcks rfl rfl (m := 1) (news := [.int .i64 v, .int .i64 m]) rfl (Rd.newN w1 [.int .i64 v, .int .i64 m] _ (0, 0)) (acs_one [(v, m)]) (by omega) (by omega) ?_
  intro v2 w2 hG2 _
  have hO2 := hG2.owns
  rw [show acs l ++ [.int .i64 v, .int .i64 m] = acs L0 from by rw [← HL.out, acs_append]; rfl] at hO2
  have hb2 : Below w.heap.size w w2 := hb1.grown hG2.grown hb1.size (fun g hg => (own14_lt hO1 g hg).1)
  obtain ⟨g, c2, rfl, hwg, hc2, hcm2⟩ : ∃ g c2, v2 = .slice (some ⟨g, 0, none⟩) (n + 1) c2 ∧ w.heap.size ≤ g ∧ n + 1 ≤ c2 ∧ c2 ≤ maxLen := by
    rcases hO2.2 with ⟨_, h2⟩ | ⟨g, cap, cur, rfl, hb, hg, h1, h2, _⟩
    · exact absurd h2 (by omega)
    · exact ⟨g, cap, rfl, hb, h1, h2⟩
  have HS := hide (sortB_any hO2 hLl (by omega) (by omega))
  clear hO1 hO2 hG2
  have HLl := hide hLl
  clear hLl
  go_wp2_with fail
  refine HS.out.mono ?_
  rintro e w3 ⟨rfl, es, L, hp, hsrt, BL, hLt, hLe, hg3⟩
  have hel : es.length = n + 1 := by rw [hp.length_eq, HLl.out]
  have hb3 : Below w.heap.size w w3 := hb2.grown hg3 hb2.size (fun b hb => by injection hb with hb; omega)
  have HK := hide (compf_any (c := c2) BL hLt hLe hel (by omega) hc2 (by unfold maxLen at hcm2; omega))
  have hAK := cfU_ack hp hsrt
  rw [hel] at hAK
  have hle := cfU_len es (n + 1)
  obtain ⟨o, ho⟩ : ∃ y, cfU es (n + 1) = y := ⟨_, rfl⟩
  rw [ho] at HK hAK hle
  have HA := hide hAK
  clear hp hsrt BL hLt hLe hg3 hel hAK ho
  go_wp2_with fail
  refine HK.out.mono ?_
  rintro e w4 ⟨rfl, hR4, hF4⟩
  have hb4 := hF4.below hb3 hb3.size (fun b hb => by omega)
  go_wp2
  go_ret
  exact ⟨o, _, _, rfl, hR4, HA.out, hle, by omega, hcm2, hb4⟩
end Go.Proofs.Ythejdacemcldgaa
