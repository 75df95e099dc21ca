/- Stage 24: what stands between a client's calls, and its mathematics: it stays one that may be, serials rise by one with what is asked for, and what is told is told once. -/
import Derived.Test.YtlcbelmbonaooaaF24s
import Derived.Test.YtlcbelmbonaooaaF24V
import Derived.Test.YtlcbelmbonaooaaF24z
import Derived.Test.YtlcbelmbonaooaaAtL
namespace Go.Proofs.Ytlcbelmbonaooaa
set_option maxRecDepth 20000
open Go.RowKit Go.Px
set_option linter.unusedVariables false
theorem numB_of24 {v : Int} (h : 0 ≤ v ∧ v ≤ 4611686018427387904) : numB v = true := decide_eq_true h
theorem prB_of {id : Int} {g : GroupD} {v se : Int} {bu : Bool} {o : OpD} {n : GroupD} {qu : Int} (h1 : serB id = true) (h2 : grpOk g.1 g.2 = true) (h3 : numB v = true) (h4 : numB se = true) (h5 : numB qu = true) (h6 : restB (id, g, v, se, bu, o, n, qu) = true) : prB (id, g, v, se, bu, o, n, qu) = true := by
  show (serB id && (grpOk g.1 g.2 && (numB v && (numB se && (numB qu && restB (id, g, v, se, bu, o, n, qu)))))) = true
  rw [h1, h2, h3, h4, h5, h6]; rfl
theorem prB_out {id : Int} {g : GroupD} {v se : Int} {bu : Bool} {o : OpD} {n : GroupD} {qu : Int} (h : prB (id, g, v, se, bu, o, n, qu) = true) : serB id = true ∧ grpOk g.1 g.2 = true ∧ numB v = true ∧ numB se = true ∧ numB qu = true ∧ restB (id, g, v, se, bu, o, n, qu) = true := by
  have h' : (serB id && (grpOk g.1 g.2 && (numB v && (numB se && (numB qu && restB (id, g, v, se, bu, o, n, qu)))))) = true := h
  simp only [Bool.and_eq_true] at h'
  exact ⟨h'.1, h'.2.1, h'.2.2.1, h'.2.2.2.1, h'.2.2.2.2.1, h'.2.2.2.2.2⟩
theorem noB_len {o : OpD} (h : noB o.1 o.2.1 o.2.2.1 o.2.2.2.1 o.2.2.2.2 = true) : o.2.2.2.1.length = 0 ∧ o.2.2.2.2.length = 0 := by
  unfold noB eqO at h
  simp only [Bool.and_eq_true, beq_iff_eq] at h
  rw [h.2.2.2.1, h.2.2.2.2]; exact ⟨rfl, rfl⟩
theorem ngB_len {e : Int} {n : Nat} (h : ngB e n = true) : n = 0 := by
  unfold ngB at h
  simp only [Bool.and_eq_true, beq_iff_eq] at h
  omega
theorem fmE_len {k : Nat} {p n : Int} {d o : Nat} (h : (fmE k p n d o == 0) = true) : d ≤ 262144 ∧ o ≤ 4096 := by
  rw [beq_iff_eq] at h
  unfold fmE at h
  split at h
  · rename_i h1; unfold fmP at h1; exact ⟨h1.1.2.2.1, h1.1.2.2.2⟩
  · cases h
/-- A client that may be holds nothing long. -/
theorem prB_light {x : ProxyD} (hp : prB x = true) : LightP x := by
  obtain ⟨id, g, v, se, bu, o, n, qu⟩ := x
  obtain ⟨h1, h2, h3, h4, h5, h6⟩ := prB_out hp
  have h9 := grpOk_len h2
  have hr : (o.2.2.2.1.length ≤ 262144 ∧ o.2.2.2.2.length ≤ 4096) ∧ n.2.length ≤ 9 := by
    unfold restB at h6
    simp only at h6
    split at h6
    · simp only [Bool.and_eq_true] at h6
      have h7 := h6.2
      unfold asksB at h7
      simp only [Bool.or_eq_true, Bool.and_eq_true] at h7
      rcases h7 with ⟨h7, h8⟩ | ⟨h7, h8⟩
      · exact ⟨fmE_len h7, by have := ngB_len h8; omega⟩
      · have := noB_len h7
        exact ⟨by omega, (grpOk_len h8).2⟩
    · simp only [Bool.and_eq_true] at h6
      have := noB_len h6.1
      have := ngB_len h6.2
      exact ⟨by omega, by omega⟩
  exact ⟨by show g.2.length ≤ _; omega, by show o.2.2.2.1.length ≤ _; omega, by show o.2.2.2.2.length ≤ _; omega, by show n.2.length ≤ _; omega⟩
theorem restB_idle {id : Int} {g : GroupD} {v se qu : Int} : restB (id, g, v, se, false, zeroO, zeroG, qu) = true := rfl
/-- What an accepted request makes. -/
theorem ask_ok {x : ProxyD} {o : OpD} (hp : prB x = true) (h : (askD x o zeroG (asksB o zeroG)).2.2 = 0) : prB (askD x o zeroG (asksB o zeroG)).1 = true ∧ (askD x o zeroG (asksB o zeroG)).1.2.2.2.1 = x.2.2.2.1 + 1 ∧ x.2.2.2.2.1 = false := by
  obtain ⟨id, g, v, se, bu, po, n, qu⟩ := x
  obtain ⟨h1, h2, h3, h4, h5, h6⟩ := prB_out hp
  unfold askD at h ⊢
  simp only at h ⊢
  rw [if_neg (by rw [hp]; exact Bool.noConfusion)] at h ⊢
  split at h
  · cases h
  · rename_i g1
    rw [if_neg g1]
    split at h
    · cases h
    · rename_i g2
      rw [if_neg g2]
      split at h
      · cases h
      · rename_i g3
        rw [if_neg g3]
        have g2' : ¬ (4611686018427387904 ≤ se) := fun hh => g2 (decide_eq_true hh)
        have := numB_out h4
        refine ⟨prB_of h1 h2 h3 (numB_of24 (by omega)) (numB_of24 (by omega)) ?_, rfl, by cases bu <;> simp_all⟩
        unfold restB
        simp only [if_true]
        rw [show decide (1 ≤ se + 1) = true from decide_eq_true (by omega), show asksB o zeroG = true by cases hh : asksB o zeroG <;> simp_all]
        rfl
theorem ask_err {x : ProxyD} {o : OpD} : (askD x o zeroG (asksB o zeroG)).2.2 = 0 ∨ ((askD x o zeroG (asksB o zeroG)).2.2 == 0) = false := by
  rcases bool_two ((askD x o zeroG (asksB o zeroG)).2.2 == 0) with h | h
  · exact .inl (beq_iff_eq.1 h)
  · exact .inr h
/-- What a message makes. -/
theorem take_ok {x : ProxyD} {y : MsgD} (hp : prB x = true) : prB (takeD x y).1 = true ∧ (takeD x y).1.2.2.2.1 = x.2.2.2.1 ∧ ((takeD x y).2.2.2 = true → x.2.2.2.2.1 = true ∧ (takeD x y).1.2.2.2.2.1 = false) ∧ ((takeD x y).2.2.2 = false → (takeD x y).1.2.2.2.2.1 = x.2.2.2.2.1) := by
  have hn : prB (nopD x).1 = true ∧ (nopD x).1.2.2.2.1 = x.2.2.2.1 ∧ ((nopD x).2.2.2 = true → x.2.2.2.2.1 = true ∧ (nopD x).1.2.2.2.2.1 = false) ∧ ((nopD x).2.2.2 = false → (nopD x).1.2.2.2.2.1 = x.2.2.2.2.1) := ⟨hp, rfl, fun h => Bool.noConfusion h, fun _ => rfl⟩
  unfold takeD
  split
  · rename_i hg
    have hm : msgB y = true := by
      unfold goB at hg
      simp only [Bool.and_eq_true] at hg
      exact hg.2.2
    obtain ⟨id, g, v, se, bu, po, n, qu⟩ := x
    obtain ⟨k, f, t, e, mv, nu, cm, no, nc, cl, ms, mo, r, mg, s, l⟩ := y
    obtain ⟨h1, h2, h3, h4, h5, h6⟩ := prB_out hp
    have hmv : numB mv = true := by
      have hm' : (kinB k && (endB f && (endB t && (numsB e mv nu cm no cl ms && (opK mo && (reK r && (grZ mg && (stK s && entsB l)))))))) = true := hm
      simp only [Bool.and_eq_true] at hm'
      have h7 := hm'.2.2.2.1
      unfold numsB at h7
      simp only [Bool.and_eq_true] at h7
      exact h7.2.1
    split
    · split
      · rename_i ha
        refine ⟨?_, rfl, fun _ => ⟨?_, rfl⟩, fun h => Bool.noConfusion h⟩
        · refine prB_of h1 h2 ?_ h4 h5 restB_idle
          have := numB_out h3
          have := numB_out hmv
          split
          · exact numB_of24 (by omega)
          · exact h3
        · have ha' : (bu && ((ms == se) && ((cl == id) && (decide (e ≤ g.1) && ((r.1 : Int) != 0))))) = true := ha
          simp only [Bool.and_eq_true] at ha'
          exact ha'.1
      · exact hn
    · split
      · split
        · rename_i hb
          have hb' : (grK mg && ((mg.1 == e) && decide (g.1 < e))) = true := hb
          simp only [Bool.and_eq_true] at hb'
          exact ⟨prB_of h1 hb'.1 hmv h4 (numB_of24 (by omega)) h6, rfl, fun h => Bool.noConfusion h, fun _ => rfl⟩
        · exact hn
      · exact hn
  · exact hn
/-- What a tick makes. -/
theorem tick_ok {x : ProxyD} (hp : prB x = true) : prB (tickD x).1 = true ∧ (tickD x).1.2.2.2.1 = x.2.2.2.1 ∧ (tickD x).1.2.2.2.2.1 = x.2.2.2.2.1 := by
  obtain ⟨id, g, v, se, bu, po, n, qu⟩ := x
  obtain ⟨h1, h2, h3, h4, h5, h6⟩ := prB_out hp
  unfold tickD
  simp only
  rw [if_neg (by rw [hp]; exact Bool.noConfusion)]
  split
  · exact ⟨hp, rfl, rfl⟩
  · refine ⟨prB_of h1 h2 h3 h4 ?_ h6, rfl, rfl⟩
    have := numB_out h5
    unfold nextQ
    split
    · exact numB_of24 (by omega)
    · exact numB_of24 (by omega)
/-- What was told so far: rising, none above the serial, none alike while it waits. -/
structure Told (x : ProxyD) (l : List Int) : Prop where
  up : ∀ (i j : Nat) (a b : Int), i < j → l[i]? = some a → l[j]? = some b → a < b
  le : ∀ a ∈ l, a ≤ x.2.2.2.1
  lt : x.2.2.2.2.1 = true → ∀ a ∈ l, a < x.2.2.2.1
theorem Told.nil (x : ProxyD) : Told x [] := ⟨fun i j a b _ h => (by simp at h), fun a h => (by cases h), fun _ a h => (by cases h)⟩
theorem Told.ask {x y : ProxyD} {l : List Int} (h : Told x l) (hy : y.2.2.2.1 = x.2.2.2.1 + 1) : Told y l := ⟨h.up, fun a ha => by have := h.le a ha; omega, fun _ a ha => by have := h.le a ha; omega⟩
theorem Told.stay {x y : ProxyD} {l : List Int} (h : Told x l) (h1 : y.2.2.2.1 = x.2.2.2.1) (h2 : y.2.2.2.2.1 = x.2.2.2.2.1) : Told y l := ⟨h.up, fun a ha => by rw [h1]; exact h.le a ha, fun hb a ha => by rw [h1]; exact h.lt (h2 ▸ hb) a ha⟩
theorem Told.told {x y : ProxyD} {l : List Int} (h : Told x l) (h1 : y.2.2.2.1 = x.2.2.2.1) (hb : x.2.2.2.2.1 = true) (h2 : y.2.2.2.2.1 = false) : Told y (l ++ [y.2.2.2.1]) := by
  refine ⟨fun i j a b hij hi hj => ?_, fun a ha => ?_, fun hb' => by rw [h2] at hb'; cases hb'⟩
  · by_cases hjl : j < l.length
    · rw [List.getElem?_append_left (by omega)] at hi
      rw [List.getElem?_append_left hjl] at hj
      exact h.up i j a b hij hi hj
    · have hj' := (List.getElem?_eq_some_iff.1 hj).1
      simp at hj'
      have hjj : j = l.length := by omega
      subst hjj
      rw [List.getElem?_append_left hij] at hi
      rw [List.getElem?_append_right (by omega)] at hj
      simp at hj
      have := h.lt hb a (List.mem_of_getElem? hi)
      omega
  · rcases List.mem_append.1 ha with ha | ha
    · rw [h1]; exact h.le a ha
    · rw [List.mem_singleton] at ha; omega
end Go.Proofs.Ytlcbelmbonaooaa
namespace Go.Px
open Go.RowKit Go.Maps Go.Deep
set_option linter.unusedVariables false
abbrev tyCall : Ty := .st (.pr tyOp tyMsg)
abbrev CallD : Type := OpD × MsgD
theorem list_33 {cs : List Value} (h : cs.length = 33) : ∃ c0 c1 c2 c3 c4 c5 c6 c7 c8 c9 c10 c11 c12 c13 c14 c15 c16 c17 c18 c19 c20 c21 c22 c23 c24 c25 c26 c27 c28 c29 c30 c31 c32, cs = [c0, c1, c2, c3, c4, c5, c6, c7, c8, c9, c10, c11, c12, c13, c14, c15, c16, c17, c18, c19, c20, c21, c22, c23, c24, c25, c26, c27, c28, c29, c30, c31, c32] := by
  match cs, h with
  | c0 :: c1 :: c2 :: c3 :: c4 :: c5 :: c6 :: c7 :: c8 :: c9 :: c10 :: c11 :: c12 :: c13 :: c14 :: c15 :: c16 :: c17 :: c18 :: c19 :: c20 :: c21 :: c22 :: c23 :: c24 :: c25 :: c26 :: c27 :: c28 :: c29 :: c30 :: c31 :: c32 :: [], _ => exact ⟨c0, c1, c2, c3, c4, c5, c6, c7, c8, c9, c10, c11, c12, c13, c14, c15, c16, c17, c18, c19, c20, c21, c22, c23, c24, c25, c26, c27, c28, c29, c30, c31, c32, rfl⟩
theorem own_lt24 {w : World} {base e size n : Nat} {v : Value} {xs : List Value} (h : w.ownsRow base e size v n xs) : ∀ g, v.ownBlock = some g → base ≤ g ∧ g < w.heap.size := by
  rcases h.2 with ⟨hv, _⟩ | ⟨g, cap, cur, hv, hbg, hg, _⟩
  · intro g hg; rw [hv] at hg; cases hg
  · intro g' hg'
    rw [hv] at hg'
    have : g = g' := by injection hg'
    subst this
    exact ⟨hbg, (Array.getElem?_eq_some_iff.1 hg).1⟩
theorem own_fr24 {X : Nat → Prop} {w w' : World} {base e size n : Nat} {v : Value} {xs : List Value} (h : w.ownsRow base e size v n xs) (hf : Fr X w w') (hx : ∀ g, v.ownBlock = some g → ¬ X g) : w'.ownsRow base e size v n xs := by
  refine ⟨h.1, ?_⟩
  rcases h.2 with h2 | ⟨g, cap, cur, hv, hbg, hg, r⟩
  · exact .inl h2
  · exact .inr ⟨g, cap, cur, hv, hbg, (hf.blk g (Array.getElem?_eq_some_iff.1 hg).1 (hx g (by rw [hv]; rfl))).trans hg, r⟩
end Go.Px
namespace Go.Proofs.Ytlcbelmbonaooaa
open Go.RowKit Go.Px Go.Maps Go.Deep
set_option linter.unusedVariables false
/-- The client's own block gg, the row of what was told, all that stood before. -/
structure OnI (w : World) (gg : Nat) (wr : World) (v : Value) (told : List Int) (y : ProxyD) (us : List Value) : Prop where
  pb : Blk wr gg us 30
  is : tyProxy.Is wr (fun b => b ≠ gg ∧ some b ≠ v.ownBlock) y us
  ow : wr.ownsRow (gg + 1) 3 1 v told.length (ints told)
  bl : Below gg w wr
  ok : prB y = true
  tl : Told y told
section
variable {w wr w' : World} {gg : Nat} {v : Value} {told : List Int} {y z : ProxyD} {us ds : List Value}
theorem OnI.below (h : OnI w gg wr v told y us) (hd : Below wr.heap.size wr w') : OnI w gg w' v told y us :=
  ⟨h.pb.below hd, h.is.below hd, own_below h.ow hd, h.bl.trans (hd.mono (Nat.le_of_lt h.pb.lt)), h.ok, h.tl⟩
theorem OnI.put {N : Nat} (h : OnI w gg wr v told y us) (hN : gg < N) (hN2 : ∀ g, v.ownBlock = some g → g < N) (hF : Fr (fun b => b = gg) wr w') (hb : Blk w' gg ds 30) (hi : tyProxy.Is wr (fun b => N ≤ b) z ds) (ok : prB z = true) (tl : Told z told) : OnI w gg w' v told z ds :=
  ⟨hb, (hi.fr hF (fun b hb hx => by have hx' : b = gg := hx; omega)).mono (fun b hb => ⟨by omega, fun e => by have := hN2 b e.symm; omega⟩),
    own_fr24 h.ow hF (fun g hg hx => by have hx' : g = gg := hx; have := (own_lt24 h.ow g hg).1; omega),
    hF.below h.bl (Nat.le_of_lt h.pb.lt) (fun k hk => by have hk' : k = gg := hk; omega), ok, tl⟩
theorem OnI.grow (h : OnI w gg wr v told y us) {v' : Value} {a : Int} (hG : Grow wr v (gg + 1) 3 1 w' v' (told.length + 1) (ints told ++ [.int .i64 a])) (tl : Told y (told ++ [a])) : OnI w gg w' v' (told ++ [a]) y us := by
  have hl := own_lt24 h.ow
  have hp := h.pb.lt
  refine ⟨(hG.grown.block gg hp (fun e => by have := (hl gg e.symm).1; omega)).trans h.pb, ((h.is.here).grown hG.grown (fun b hb => hb.1.2)).mono (fun b hb => ⟨hb.1.1, ?_⟩), ?_, grown_below h.bl hG.grown (Nat.le_of_lt hp) (fun k hk => by have := (hl k hk).1; omega), h.ok, tl⟩
  · rcases hG.blk with hv | hv
    · rw [hv]; exact hb.1.2
    · intro e; have := hv b e.symm; have := hb.2; omega
  · rw [List.length_append, ints_append]; exact hG.owns
theorem Told.idle {x y : ProxyD} {l : List Int} (h : Told x l) (h1 : y.2.2.2.1 = x.2.2.2.1) (h2 : y.2.2.2.2.1 = false) : Told y l := ⟨h.up, fun a ha => by rw [h1]; exact h.le a ha, fun hb => by rw [h2] at hb; cases hb⟩
end
end Go.Proofs.Ytlcbelmbonaooaa
