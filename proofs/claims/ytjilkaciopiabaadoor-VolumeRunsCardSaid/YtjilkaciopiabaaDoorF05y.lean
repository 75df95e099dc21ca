/- plinthref05: Do of any request. -/
import Derived.Test.YtjilkaciopiabaaDoorF05x
import Derived.Test.YtjilkaciopiabaaDoorF05z
import Derived.Test.YtjilkaciopiabaaDoorG05b
namespace Go.Proofs.YtjilkaciopiabaaDoor
open Go.RowKit Go.Px
set_option linter.unusedVariables false

set_option maxHeartbeats 3200000 in
theorem rdo_any (w : World) (lo rv gb gv cb cv b z N : Nat) (rows sv : List Value) (bs : List UInt8) (vs : List Int) (last : Int) (k : Nat) (p n : Int) (D : Option Addr) (d dc : Nat) (ds : List UInt8) (O : Option Addr) (o oc : Nat) (os : List UInt8) (num : Int) (hk : k < 256) (h : RVolIs w lo rv gb gv cb cv b z N rows sv bs vs last)
    (hd : ds.length = d) (hdc : d ≤ dc) (hdm : dc ≤ 9223372036854775807) (ho : os.length = o) (hD : Rd w D (bys ds)) (hO : Rd w O (bys os)) (hDv : ds ≠ [] → ∀ a, D = some a → a.block < lo) (hOv : os ≠ [] → ∀ a, O = some a → a.block < lo) :
    Calls Tryd.prog 22 #[.pointer (some ⟨rv, 0, none⟩), opv k p n D d dc O o oc, .int .i64 num] w
      (RDoIs lo rv gb gv cb cv b z N sv (doE b z last k p n ds.length os.length num) (doKE b z bs last k p n ds os num) (doDE b z bs last k p n ds os num) (doBE b z bs last k p n ds os num) (doVE b z bs vs last k p n ds os num) (doLE b z last k p n ds os num) w) := by
  subst hd ho
  obtain ⟨lo1, lo2, lo3⟩ := h.hlo
  by_cases hnum : serB num = true ∧ ¬ num < last
  · have hE0 : doE b z last k p n ds.length os.length num = ftE b z k p n ds.length os.length := by unfold doE; rw [if_pos hnum]
    obtain ⟨n1', n2'⟩ := serB_out hnum.1
    have n3' : last ≤ num := by have := hnum.2; omega
    by_cases hf : ftE b z k p n ds.length os.length = 0
    · have hE1 := hE0.trans hf
      unfold doKE doDE doBE doVE doLE
      simp only [hE1, if_true]
      by_cases hc : ftC b z k p n ds.length os.length = 1
      · obtain ⟨p1, n1, hg⟩ := fit_good hf hc
        obtain ⟨P, rfl⟩ := Int.eq_ofNat_of_zero_le p1
        obtain ⟨M, rfl⟩ := Int.eq_ofNat_of_zero_le n1
        have far : ∀ {A : Option Addr} {xs : List UInt8}, (xs ≠ [] → ∀ a, A = some a → a.block < lo) → 1 ≤ xs.length → ∀ a, A = some a → a.block ≠ rv ∧ a.block ≠ gb ∧ a.block ≠ gv := fun {A xs} hA hl a ha => by
          have := hA (by rintro rfl; simp at hl) a ha
          omega
        rcases hg with rfl | ⟨rfl, g1, g2, g3⟩ | ⟨hkk, g1, g2, g3, g4⟩
        · have e1 : doK b z bs 4 P M ds.length os = 1 := by unfold doK; rw [if_pos hc, if_neg (by omega)]
          have e2 : doD b z bs 4 P M ds.length os = [] := by unfold doD; rw [if_pos hc, if_neg (by decide), if_neg (by omega)]
          have e3 : doW b z bs 4 P M ds.length os = false := by unfold doW; simp
          unfold doB doV
          rw [e1, e2, e3]
          exact rdo_flush w lo rv gb gv cb cv b z N rows sv bs vs last P M D _ dc O _ oc num h n1' n2' n3' hf hc
        · have hP : P + 1 ≤ b := by omega
          have hz := h.hz.1
          cases hsg : (segB bs P 1 z == os) with
          | false =>
            have e1 : doK b z bs 5 P M ds.length os = 4 := by unfold doK; rw [if_pos hc, if_pos ⟨rfl, hsg⟩]
            have e2 : doD b z bs 5 P M ds.length os = segB bs P 1 z := by unfold doD; rw [if_pos hc, if_neg (by decide), if_pos ⟨rfl, hsg⟩]; rfl
            have e3 : doW b z bs 5 P M ds.length os = false := by unfold doW; simp [hsg]
            unfold doB doV
            rw [e1, e2, e3]
            exact rdo_swapno w lo rv gb gv cb cv b z N rows sv bs vs last P M D _ dc O _ oc num h n1' n2' n3' hf hc os hP rfl hO (far hOv (by omega)) (by simpa using hsg)
          | true =>
            have e1 : doK b z bs 5 P M ds.length os = 1 := by unfold doK; rw [if_pos hc, if_neg (by rw [Int.toNat_natCast, hsg]; simp)]
            have e2 : doD b z bs 5 P M ds.length os = [] := by unfold doD; rw [if_pos hc, if_neg (by decide), if_neg (by rw [Int.toNat_natCast, hsg]; simp)]
            have e3 : doW b z bs 5 P M ds.length os = true := by unfold doW; simp [hsg, hc]
            unfold doB doV
            rw [e1, e2, e3]
            exact rdo_swapyes w lo rv gb gv cb cv b z N rows sv bs vs last P M D _ dc O _ oc num h n1' n2' n3' hf hc os ds rfl (by omega) hdc hdm hD (far hDv (by omega)) hP rfl hO (far hOv (by omega)) (by simpa using hsg)
        · have hin : P + M ≤ b := by omega
          have hM : 1 ≤ M := by omega
          have e1 : doK b z bs k P M ds.length os = 1 := by unfold doK; rw [if_pos hc, if_neg (by omega)]
          rcases hkk with rfl | rfl | rfl
          · have e2 : doD b z bs 1 P M ds.length os = segB bs P M z := by unfold doD; rw [if_pos hc, if_pos rfl]; rfl
            have e3 : doW b z bs 1 P M ds.length os = false := by unfold doW; simp
            unfold doB doV
            rw [e1, e2, e3]
            exact rdo_read w lo rv gb gv cb cv b z N rows sv bs vs last P M D _ dc O _ oc num h n1' n2' n3' hf hc hin
          · have e2 : doD b z bs 2 P M ds.length os = [] := by unfold doD; rw [if_pos hc, if_neg (by decide), if_neg (by omega)]
            have e3 : doW b z bs 2 P M ds.length os = true := by unfold doW; simp [hc]
            have hdn : ds.length = M * z := by have := g4 rfl; exact Int.ofNat.inj (by simpa using this)
            have hMz : 1 ≤ M * z := Nat.mul_pos hM h.hz.1
            unfold doB doV
            rw [e1, e2, e3]
            exact rdo_write w lo rv gb gv cb cv b z N rows sv bs vs last P M D _ dc O _ oc num h n1' n2' n3' hf hc ds hin rfl hdn hdc hdm hD (far hDv (by omega))
          · have e2 : doD b z bs 3 P M ds.length os = [] := by unfold doD; rw [if_pos hc, if_neg (by decide), if_neg (by omega)]
            have e3 : doW b z bs 3 P M ds.length os = true := by unfold doW; simp [hc]
            unfold doB doV
            rw [e1, e2, e3]
            exact rdo_trim w lo rv gb gv cb cv b z N rows sv bs vs last P M D _ dc O _ oc num h n1' n2' n3' hf hc hin
      · obtain ⟨C, hC⟩ := ftC_nat b z k p n ds.length os.length
        have e1 : doK b z bs k p n ds.length os = C := by unfold doK; rw [if_neg hc, hC]; rfl
        have e2 : doD b z bs k p n ds.length os = [] := by unfold doD; rw [if_neg hc]
        have e3 : doW b z bs k p n ds.length os = false := by unfold doW; simp [hc]
        unfold doB doV
        rw [e1, e2, e3]
        exact rdo_badcode w lo rv gb gv cb cv b z N rows sv bs vs last k p n D _ dc O _ oc num hk h n1' n2' n3' C (by intro e; apply hc; rw [hC, e]; rfl) hf hC
    · have hE1 : doE b z last k p n ds.length os.length num ≠ 0 := by rw [hE0]; exact hf
      unfold doKE doDE doBE doVE doLE
      simp only [if_neg hE1]
      rw [hE0]
      exact rdo_badfit w lo rv gb gv cb cv b z N rows sv bs vs last k p n D _ dc O _ oc num hk h n1' n2' n3' _ hf rfl (ft_bad rfl hf)
  · have hE0 : doE b z last k p n ds.length os.length num = 5 := by unfold doE; rw [if_neg hnum]
    unfold doKE doDE doBE doVE doLE
    rw [hE0]
    refine rdo_badnum w lo rv gb gv cb cv b z N rows sv bs vs last k p n D _ dc O _ oc num h ?_
    by_cases q1 : num < 1
    · exact .inl q1
    · by_cases q2 : 4611686018427387904 < num
      · exact .inr (.inl ⟨by omega, q2⟩)
      · refine .inr (.inr ⟨by omega, by omega, Classical.not_not.1 fun hh => hnum ⟨decide_eq_true ⟨by omega, by omega⟩, hh⟩⟩)
end Go.Proofs.YtjilkaciopiabaaDoor
