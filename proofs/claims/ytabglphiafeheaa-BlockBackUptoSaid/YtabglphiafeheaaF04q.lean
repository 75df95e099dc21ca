/- block.DecodeOp of any bytes. -/
import Derived.Test.YtabglphiafeheaaF04k
import Derived.Test.YtabglphiafeheaaM04
namespace Go.Proofs.Ytabglphiafeheaa
open Go.RowKit Go.Px
set_option linter.unusedVariables false
def DecAny (bs : List UInt8) (w : World) (e : Ending) (w' : World) : Prop :=
  ∃ D dc O oc, e = .returned (.tuple #[opv (opK bs) (opP bs) (opN bs) D (opD bs).length dc O (opO bs).length oc, .int .i64 (opT bs), .int .i64 (opE bs)]) ∧ Rd w' D (bys (opD bs)) ∧ Rd w' O (bys (opO bs)) ∧ Up w.heap.size D ∧ Up w.heap.size O ∧ Below w.heap.size w w'
theorem decAny_bad {bs : List UInt8} {x : Int} {w : World} {e : Ending} {w' : World} (hx : opE bs = x) (h0 : x ≠ 0) (h : e = .returned (.tuple #[opv 0 0 0 none 0 0 none 0 0, .int .i64 0, .int .i64 x]) ∧ Below w.heap.size w w') : DecAny bs w e w' := by
  obtain ⟨rfl, hb⟩ := h
  obtain ⟨h1, h2, h3, h4, h5, h6⟩ := opE_no (show opE bs ≠ 0 by rw [hx]; exact h0)
  unfold DecAny
  rw [h1, h2, h3, h4, h5, h6, hx]
  exact ⟨none, 0, none, 0, rfl, Rd.nil, Rd.nil, (fun a ha => by cases ha), (fun a ha => by cases ha), hb⟩
set_option maxHeartbeats 1600000 in
theorem dec_any (A : Option Addr) (m c : Nat) (bs : List UInt8) (w : World) (hm : bs.length = m) (hmc : m ≤ c) (hm8 : m ≤ 140737488355328) (hc : c ≤ 9223372036854775807) (hr : Rd w A (bys bs)) (hlo : Lo w.heap.size A) :
    Calls Try.prog 24 #[.slice A m c] w (DecAny bs w) := by
  have hne : ∀ b, w.heap.size + 2 ≤ b → ∀ a, A = some a → some a.block ≠ some b := fun b hb a ha h => by
    injection h with h; have := hlo a ha; omega
  by_cases h9 : bs.length < 9
  · have hx : opE bs = 10 := by unfold opE; rw [if_pos h9]
    refine (dec_bad A m c bs 10 w hr fun b w2 hB hr2 hb => ?_).mono fun e w' h => decAny_bad hx (by decide) h
    by_cases h1 : bs.length < 1
    · refine (op_bad0 b _ A m c bs 0 0 0 [] 0 10 w2 hB hm hmc hm8 hc hr2 (hne b hb) (short_get bs 0 1 (by decide) (by decide) (by decide) (by omega) (by omega)) (by decide)).mono ?_
      rintro e w' ⟨he, hg⟩; exact ⟨he, below_of_grown hg (Nat.le_of_lt hB.lt)⟩
    · have e0 := long_get bs 0 1 (by decide) (by decide) (by decide) (by omega)
      by_cases h5 : bs.length < 5
      · refine (op_bad1 b _ A m c bs _ 0 0 [] 0 10 w2 hB hm hmc hm8 hc hr2 (hne b hb) e0 rfl (getI_of e0) (short_get bs 1 4 (by decide) (by decide) (by decide) (by omega) (by omega)) (by decide)).mono ?_
        rintro e w' ⟨he, hg⟩; exact ⟨he, below_of_grown hg (Nat.le_of_lt hB.lt)⟩
      · have e1 := long_get bs 1 4 (by decide) (by decide) (by decide) (by omega)
        refine (op_bad2 b _ A m c bs _ _ 0 [] 0 10 w2 hB hm hmc hm8 hc hr2 (hne b hb) e0 rfl (getI_of e0) e1 rfl (getI_of e1) (getV_4 bs 1) (short_get bs 5 4 (by decide) (by decide) (by decide) (by omega) (by omega)) (by decide)).mono ?_
        rintro e w' ⟨he, hg⟩; exact ⟨he, below_of_grown hg (Nat.le_of_lt hB.lt)⟩
  · have e0 := long_get bs 0 1 (by decide) (by decide) (by decide) (by omega)
    have e1 := long_get bs 1 4 (by decide) (by decide) (by decide) (by omega)
    have e2 := long_get bs 5 4 (by decide) (by decide) (by decide) (by omega)
    have hx : opE bs = if textE bs 9 ≠ 0 then brE (textE bs 9) else if textE bs (textI bs 9) ≠ 0 then brE (textE bs (textI bs 9))
      else if fmE (getV bs 0 1) (getV bs 1 4) (getV bs 5 4) (textS bs 9).length (textS bs (textI bs 9)).length ≠ 0 then 42 else 0 := by unfold opE; rw [if_neg h9]
    by_cases h3 : textE bs 9 = 0
    · have hb3 := textI_bd h3
      rw [if_neg (by rw [h3]; decide)] at hx
      by_cases h4 : textE bs (textI bs 9) = 0
      · rw [if_neg (by rw [h4]; decide)] at hx
        rcases fmE_two (getV bs 0 1) (getV bs 1 4) (getV bs 5 4) (textS bs 9).length (textS bs (textI bs 9)).length with ⟨_, hf⟩ | hf
        · have hx0 : opE bs = 0 := by rw [hx, if_neg (by rw [hf]; decide)]
          refine (dec_ok A m c bs (getV bs 0 1) (getV bs 1 4) (getV bs 5 4) (textS bs 9) (textI bs 9) (textS bs (textI bs 9)) (textI bs (textI bs 9)) w hm hmc hm8 hc hr hlo ⟨e0, rfl, getI_of e0, e1, rfl, getI_of e1, e2, rfl, getI_of e2, h3, rfl, rfl, h4, rfl, rfl, getV_1 bs 0, getV_4 bs 1, getV_4 bs 5, ⟨by omega, by omega⟩, hf⟩).mono ?_
          rintro e w' ⟨D, dc, O, oc, he, h⟩
          obtain ⟨g1, g2, g3, g4, g5, g6⟩ := opE_yes hx0
          unfold DecAny
          rw [g1, g2, g3, g4, g5, g6, hx0]
          exact ⟨D, dc, O, oc, he, h⟩
        · have hx42 : opE bs = 42 := by rw [hx, if_pos (by rw [hf]; decide)]
          refine (dec_bad A m c bs 42 w hr fun b w2 hB hr2 hb => ?_).mono fun e w' h => decAny_bad hx42 (by decide) h
          exact op_bad5 b _ A m c bs (getV bs 0 1) (getV bs 1 4) (getV bs 5 4) (textS bs 9) (textI bs 9) (textS bs (textI bs 9)) (textI bs (textI bs 9)) b w2 hB hm hmc hm8 hc hr2 (fun a ha => by have := hlo a ha; omega) (Nat.le_refl _) ⟨e0, rfl, getI_of e0, e1, rfl, getI_of e1, e2, rfl, getI_of e2, h3, rfl, rfl, h4, rfl, rfl, getV_1 bs 0, getV_4 bs 1, getV_4 bs 5, ⟨by omega, by omega⟩, hf⟩
      · have hx4 : opE bs = txE (textE bs (textI bs 9)) := by rw [hx, if_pos h4]; rfl
        have hn : txE (textE bs (textI bs 9)) ≠ 0 := by
          rcases textE_cases bs (textI bs 9) (by omega) (by omega) with e | e | e
          · exact absurd e h4
          · rw [e]; decide
          · rw [e]; decide
        refine (dec_bad A m c bs _ w hr fun b w2 hB hr2 hb => ?_).mono fun e w' h => decAny_bad hx4 hn h
        refine (op_bad4 b _ A m c bs _ _ _ _ (textI bs 9) _ w2 hB hm hmc hm8 hc hr2 (hne b hb) e0 rfl (getI_of e0) e1 rfl (getI_of e1) (getV_4 bs 1) e2 rfl (getI_of e2) (getV_4 bs 5) h3 rfl rfl ⟨by omega, by omega⟩ rfl hn).mono ?_
        rintro e w' ⟨he, hg⟩; exact ⟨he, below_of_grown hg (Nat.le_of_lt hB.lt)⟩
    · have hx3 : opE bs = txE (textE bs 9) := by rw [hx, if_pos h3]; rfl
      have hn : txE (textE bs 9) ≠ 0 := by
        rcases textE_cases bs 9 (by omega) (by omega) with e | e | e
        · exact absurd e h3
        · rw [e]; decide
        · rw [e]; decide
      refine (dec_bad A m c bs _ w hr fun b w2 hB hr2 hb => ?_).mono fun e w' h => decAny_bad hx3 hn h
      refine (op_bad3 b _ A m c bs _ _ _ [] 0 _ w2 hB hm hmc hm8 hc hr2 (hne b hb) e0 rfl (getI_of e0) e1 rfl (getI_of e1) (getV_4 bs 1) e2 rfl (getI_of e2) (getV_4 bs 5) rfl hn).mono ?_
      rintro e w' ⟨he, hg⟩; exact ⟨he, below_of_grown hg (Nat.le_of_lt hB.lt)⟩
end Go.Proofs.Ytabglphiafeheaa
