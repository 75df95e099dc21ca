/- The document's disk: Bad, Barrier. -/
import Derived.Test.YtdianokikhggnaaF08q
import Derived.Test.YtdianokikhggnaaF08k
import Derived.BigRegion
namespace Go.Proofs.Ytdianokikhggnaa
set_option maxRecDepth 20000
open Go.RowKit Go.Px Go.Maps
set_option linter.unusedVariables false
section
variable {w w' : World} {Q Q' X : Nat → Prop} {t f : Nat} {cs cs' : List Value} {d d' : Dk}
theorem rown_f {w w' : World} (hf : Fr (fun x => x = f) w w') : Fr (ROwn t f) w w' := hf.mono (fun x hx => .inr hx)
theorem rown_t {w w' : World} (hf : Fr (fun x => x = t) w w') : Fr (ROwn t f) w w' := hf.mono (fun x hx => .inl hx)
set_option maxHeartbeats 1600000 in
theorem rbad08_any (h : RDIs w Q t f cs d) (i : Int) (hi1 : -9223372036854775808 ≤ i) (hi2 : i ≤ 9223372036854775807) :
    Calls Try.prog 31 #[.pointer (some ⟨t, 0, none⟩), .int .i64 i] w fun e w' => e = .returned (.int .i64 (d.badE i)) ∧ (∃ cs', RDIs w' Q t f cs' (d.badD i)) ∧ Fr (ROwn t f) w w' ∧ w'.heap.size = w.heap.size := by
  obtain ⟨cc, b1, _⟩ := h.blk
  have x1 := b1.cell (j := 1) rfl
  have hN := h.ok.n2
  by_cases hin : inI d.fast.length i
  · have he : d.badE i = 0 := if_pos hin
    have hb : d.badD i = (d.putL i none).putB i true := if_pos hin
    rw [he, hb]
    obtain ⟨g1, g2⟩ := hin
    obtain ⟨I, rfl⟩ : ∃ I : Nat, i = (I : Int) := ⟨i.toNat, by omega⟩
    have hI : I < d.fast.length := by omega
    obtain ⟨A, n, c, B, m, e, c0, c1, c2, c3, r⟩ := h.at_ hI
    obtain ⟨w1, hw1⟩ : ∃ y, w = y := ⟨_, rfl⟩
    have h1 : RDIs w1 Q t f cs d := by rw [← hw1]; exact h
    have y1d : w1.drew.cell? ⟨t, 1, none⟩ = some (.slice (some ⟨f, 0, none⟩) d.fast.length cc) := by rw [← hw1]; exact x1
    obtain ⟨cd, b2, _⟩ := h1.blk
    have y1 := b2.cell (j := 1) rfl
    obtain ⟨A', n', c', B', m', e', k0, k1, k2, k3, k4, k5, k6, k7, k8, _⟩ := h1.at_ hI
    have B0 := h1.row
    have B1 := B0.set (I * 4 + 3) (.bool true)
    have B2 := B1.set (I * 4 + 1) (.bool false)
    have B3 := B2.set (I * 4 + 2) (.slice none 0 0)
    have hlen := h1.len
    have hl4 : I * 4 + 3 < cs.length := by omega
    have j0 := B0.frozen (I * 4 + 3)
    have j1 := B1.frozen (I * 4 + 1)
    have j2 := B2.frozen (I * 4 + 2)
    have q1 : ∀ u, (cs.set (I * 4 + 3) u)[I * 4 + 1]? = some (.bool (d.loose (I : Int)).isSome) := fun u => by
      obtain ⟨_, _, _, _, _, _, _, s1, _⟩ := h1.sec I hI
      rw [List.getElem?_set_ne (by omega)]; exact s1
    have z1 := B1.cell (q1 _)
    have z2 : ((w1.setCell ⟨f, I * 4 + 3, none⟩ (.bool true)).setCell ⟨f, I * 4 + 1, none⟩ (.bool false)).cell? ⟨f, I * 4 + 2, none⟩ = some (.slice B' m' e') := by
      refine B2.cell ?_
      rw [List.getElem?_set_ne (by omega), List.getElem?_set_ne (by omega)]
      obtain ⟨_, _, _, _, _, _, _, _, s2, _⟩ := h1.sec I hI
      have := B0.cell s2
      rw [k2] at this
      injection this with this
      rw [this]; exact s2
    have hFs : Fr (fun x => x = f) w1 (((w1.setCell ⟨f, I * 4 + 3, none⟩ (.bool true)).setCell ⟨f, I * 4 + 1, none⟩ (.bool false)).setCell ⟨f, I * 4 + 2, none⟩ (.slice none 0 0)) :=
      ((Fr.set (X := fun x => x = f) w1 ⟨f, I * 4 + 3, none⟩ _ rfl).trans (Fr.set (X := fun x => x = f) _ ⟨f, I * 4 + 1, none⟩ _ rfl)).trans (Fr.set (X := fun x => x = f) _ ⟨f, I * 4 + 2, none⟩ _ rfl)
    have hup : RDIs (((w1.setCell ⟨f, I * 4 + 3, none⟩ (.bool true)).setCell ⟨f, I * 4 + 1, none⟩ (.bool false)).setCell ⟨f, I * 4 + 2, none⟩ (.slice none 0 0)) Q t f (((cs.set (I * 4 + 3) (.bool true)).set (I * 4 + 1) (.bool false)).set (I * 4 + 2) (.slice none 0 0)) ((d.putL (I : Int) none).putB (I : Int) true) := by
      refine h1.upd hI B3 hFs (by simp) (fun j hj => by rw [List.getElem?_set_ne (by omega), List.getElem?_set_ne (by omega), List.getElem?_set_ne (by omega)]) (fun hi' => ?_) rfl rfl rfl (fun j _ => rfl) (fun x hx => if_neg hx) (fun x hx => if_neg hx) ?_
      · obtain ⟨s0, s1, s2⟩ : (cs[I * 4]? = some (.slice A' n' c')) ∧ True ∧ True := by
          obtain ⟨_, _, _, _, _, _, s0, _⟩ := h1.sec I hI
          have := B0.cell s0
          rw [k0] at this
          injection this with this
          rw [this]; exact ⟨s0, trivial, trivial⟩
        have hr : ∀ a, A' = some a → a.block ≠ f := fun a ha => (h1.out _ (k8 a ha)).2
        refine ⟨A', n', c', none, 0, 0, by rw [List.getElem?_set_ne (by omega), List.getElem?_set_ne (by omega), List.getElem?_set_ne (by omega)]; exact s0, ?_, ?_, ?_, k4, k5, k6, k7.fr hFs (fun _ a ha => hr a ha), k8, Nat.le_refl _, by omega, fun b hb => ?_⟩
        · rw [List.getElem?_set_ne (by omega), List.getElem?_set_self (by simp; omega), show ((d.putL (I : Int) none).putB (I : Int) true).loose (I : Int) = none from if_pos rfl]; rfl
        · rw [List.getElem?_set_self (by simp; omega)]
        · rw [List.getElem?_set_ne (by omega), List.getElem?_set_ne (by omega), List.getElem?_set_self (by omega), show ((d.putL (I : Int) none).putB (I : Int) true).bad (I : Int) = true from if_pos rfl]
        · rw [show ((d.putL (I : Int) none).putB (I : Int) true).loose (I : Int) = none from if_pos rfl] at hb; cases hb
      · have o := h1.ok
        refine ⟨o.s1, o.s2, o.n1, o.n2, o.fl, fun x b hx => ?_, fun x hx => ?_, o.f1, o.f2⟩
        · have hx' : (if x = (I : Int) then none else d.loose x) = some b := hx
          split at hx'
          · cases hx'
          · exact o.lo x b hx'
        · have hx' : (if x = (I : Int) then true else d.bad x) = true := hx
          split at hx'
          · rename_i hxe; subst hxe; exact ⟨g1, g2⟩
          · exact o.ba x hx'
    have hb9 := fun W : World => (Below.refl W.heap.size W).drew
    have H := hide (And.intro (show ∃ cs', RDIs (((w1.setCell ⟨f, I * 4 + 3, none⟩ (.bool true)).setCell ⟨f, I * 4 + 1, none⟩ (.bool false)).setCell ⟨f, I * 4 + 2, none⟩ (.slice none 0 0)).drew Q t f cs' ((d.putL (I : Int) none).putB (I : Int) true) from ⟨_, hup.below (hb9 _)⟩) (rown_f (t := t) hFs.drew))
    obtain ⟨N, hNe⟩ : ∃ N, d.fast.length = N := ⟨_, rfl⟩
    rw [hNe] at x1 y1 y1d hN hI
    have q0 : decide (N ≤ I) = false := decide_eq_false (by omega)
    have jj1 := B0.frozen (I * 4 + 1)
    have jj2 := B0.frozen (I * 4 + 2)
    subst hw1
    clear h b1 he hb hNe h1 b2 B0 B1 B2 B3 hFs hup r c0 c1 c2 c3 g1 g2 hb9
    go_enter Try.func31, Try.ntmps31
    go_wp2
    go_region
    go_wp2
    go_ret
    exact ⟨rfl, H.out.1, H.out.2, by simp⟩
  · have he : d.badE i = 5 := if_neg hin
    have hb : d.badD i = d := if_neg hin
    rw [he, hb]
    have H := hide h
    obtain ⟨N, hNe⟩ : ∃ N, d.fast.length = N := ⟨_, rfl⟩
    rw [hNe] at x1 hN hin
    unfold inI at hin
    clear h b1 he hb hNe
    rcases (show i < 0 ∨ (0 ≤ i ∧ (N : Int) ≤ i) by omega) with g | ⟨g, g2⟩
    · have q1 : decide (i < 0) = true := decide_eq_true g
      clear hin
      go_enter Try.func31, Try.ntmps31
      go_wp2
      go_ret
      exact ⟨rfl, ⟨_, H.out⟩, Fr.refl _ _, rfl⟩
    · have q1 : decide (i < 0) = false := decide_eq_false (by omega)
      have q2 : decide ((N : Int) ≤ i) = true := decide_eq_true g2
      clear hin
      go_enter Try.func31, Try.ntmps31
      go_wp2
      go_ret
      exact ⟨rfl, ⟨_, H.out⟩, Fr.refl _ _, rfl⟩
end
end Go.Proofs.Ytdianokikhggnaa
