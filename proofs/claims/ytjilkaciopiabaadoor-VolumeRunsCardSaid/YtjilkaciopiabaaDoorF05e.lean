/- volume.Do of any request. -/
import Derived.Test.YtjilkaciopiabaaDoorF05d
namespace Go.Proofs.YtjilkaciopiabaaDoor
open Go.RowKit Go.Px
set_option linter.unusedVariables false

theorem fit_good {b z : Nat} {k : Nat} {p n : Int} {d o : Nat} (hE : ftE b z k p n d o = 0) (hC : ftC b z k p n d o = 1) :
    0 ≤ p ∧ 0 ≤ n ∧ (k = 4 ∨ (k = 5 ∧ p < b ∧ d = z ∧ o = z) ∨ ((k = 1 ∨ k = 2 ∨ k = 3) ∧ 1 ≤ n ∧ n ≤ 64 ∧ p + n ≤ b ∧ (k = 2 → (d : Int) = n * z))) := by
  have hE' := hE
  unfold ftE at hE
  split at hE
  · rename_i h; exact absurd hE h
  · rcases fmE_two k p n d o with ⟨hp, _⟩ | hp
    · obtain ⟨⟨⟨p1, _⟩, ⟨n1, _⟩, _, _⟩, hk⟩ := hp
      refine ⟨p1, n1, ?_⟩
      unfold ftC at hC
      rw [hE', if_neg (by decide)] at hC
      by_cases h4 : k = 4
      · exact .inl h4
      · rw [if_neg h4] at hC
        by_cases h5 : k = 5
        · rw [if_pos h5] at hC
          split at hC
          · cases hC
          · split at hC
            · cases hC
            · exact .inr (.inl ⟨h5, by omega, by omega, by omega⟩)
        · rw [if_neg h5] at hC
          split at hC
          · cases hC
          · split at hC
            · cases hC
            · rename_i h6 h7
              refine .inr (.inr ⟨by omega, by omega, by omega, by omega, fun h2 => ?_⟩)
              exact Classical.not_not.1 fun hh => h7 ⟨h2, hh⟩
    · rw [hp] at hE; cases hE
theorem ftC_nat (b z : Int) (k : Nat) (p n : Int) (d o : Nat) : ∃ C : Nat, ftC b z k p n d o = C := by
  unfold ftC
  repeat' split
  all_goals first | exact ⟨0, rfl⟩ | exact ⟨1, rfl⟩ | exact ⟨2, rfl⟩ | exact ⟨3, rfl⟩
section
variable (b z : Nat) (bs : List UInt8) (vs : List Int) (last : Int) (k : Nat) (p n : Int) (ds os : List UInt8) (num : Int)
def doKE : Nat := if doE b z last k p n ds.length os.length num = 0 then doK b z bs k p n ds.length os else 0
def doDE : List UInt8 := if doE b z last k p n ds.length os.length num = 0 then doD b z bs k p n ds.length os else []
def doBE : List UInt8 := if doE b z last k p n ds.length os.length num = 0 then doB b z bs k p n ds os else bs
def doVE : List Int := if doE b z last k p n ds.length os.length num = 0 then doV b z bs vs k p n ds os num else vs
def doLE : Int := if doE b z last k p n ds.length os.length num = 0 then num else last
end
set_option maxHeartbeats 3200000 in
theorem do_any (w : World) (v r s b z N : Nat) (bs : List UInt8) (vs : List Int) (last : Int) (k : Nat) (p n : Int) (D : Option Addr) (d dc : Nat) (ds : List UInt8) (O : Option Addr) (o oc : Nat) (os : List UInt8) (num : Int) (hk : k < 256) (h : VolIs w v r s b z N bs vs last)
    (hd : ds.length = d) (ho : os.length = o) (hD : Rd w D (bys ds)) (hO : Rd w O (bys os)) (hDv : ds ≠ [] → ∀ a, D = some a → a.block ≠ v ∧ a.block ≠ r ∧ a.block ≠ s) (hOv : os ≠ [] → ∀ a, O = some a → a.block ≠ v ∧ a.block ≠ r ∧ a.block ≠ s) :
    Calls Tryd.prog 11 #[.pointer (some ⟨v, 0, none⟩), opv k p n D d dc O o oc, .int .i64 num] w
      (DoIs v r s b z N (doE b z last k p n ds.length os.length num) (doKE b z bs last k p n ds os num) (doDE b z bs last k p n ds os num) (doBE b z bs last k p n ds os num) (doVE b z bs vs last k p n ds os num) (doLE b z last k p n ds os num) w) := by
  subst hd ho
  by_cases hnum : serB num = true ∧ ¬ num < last
  · have hE0 : doE b z last k p n ds.length os.length num = ftE b z k p n ds.length os.length := by unfold doE; rw [if_pos hnum]
    by_cases hf : ftE b z k p n ds.length os.length = 0
    · have hE1 := hE0.trans hf
      unfold doKE doDE doBE doVE doLE
      simp only [hE1, if_true]
      by_cases hc : ftC b z k p n ds.length os.length = 1
      · obtain ⟨p1, n1, hg⟩ := fit_good hf hc
        obtain ⟨P, rfl⟩ := Int.eq_ofNat_of_zero_le p1
        obtain ⟨M, rfl⟩ := Int.eq_ofNat_of_zero_le n1
        have rdU : ∀ {w1 : World} {A : Option Addr} {xs : List Value}, Upd v r s w w1 → Rd w A xs → (xs ≠ [] → ∀ a, A = some a → a.block ≠ v ∧ a.block ≠ r ∧ a.block ≠ s) → Rd w1 A xs := fun {w1 A xs} hU hR hA j u hu => by
          obtain ⟨a, rfl, hcell⟩ := hR j u hu
          obtain ⟨a1, a2, a3⟩ := hA (by rintro rfl; simp at hu) a rfl
          have hlt : (a.add j).block < w.heap.size := World.block_lt_of_cell? w _ hcell
          refine ⟨a, rfl, ?_⟩
          rw [← hcell]
          unfold World.cell?
          rw [hU.blk (a.add j).block hlt (by rw [add_block]; exact a1) (by rw [add_block]; exact a2) (by rw [add_block]; exact a3)]
        rcases hg with rfl | ⟨rfl, g1, g2, g3⟩ | ⟨hkk, g1, g2, g3, g4⟩
        · refine do_ok w v r s b z N bs vs last 4 P M D _ dc O _ oc num hk h hnum.1 hnum.2 hf hc _ _ _ _ fun w1 hV hU => ?_
          have e1 : doK b z bs 4 P M ds.length os = 1 := by unfold doK; rw [if_pos hc, if_neg (by omega)]
          have e2 : doD b z bs 4 P M ds.length os = [] := by unfold doD; rw [if_pos hc, if_neg (by decide), if_neg (by omega)]
          have e3 : doW b z bs 4 P M ds.length os = false := by unfold doW; simp
          unfold doB doV
          rw [e1, e2, e3]
          exact done_flush w1 v r s b z N bs vs num P M D _ dc O _ oc num hV
        · have hP : P + 1 ≤ b := by omega
          cases hsg : (segB bs P 1 z == os) with
          | false =>
            refine do_ok w v r s b z N bs vs last 5 P M D _ dc O _ oc num hk h hnum.1 hnum.2 hf hc _ _ _ _ fun w1 hV hU => ?_
            have e1 : doK b z bs 5 P M ds.length os = 4 := by unfold doK; rw [if_pos hc, if_pos ⟨rfl, hsg⟩]
            have e2 : doD b z bs 5 P M ds.length os = segB bs P 1 z := by unfold doD; rw [if_pos hc, if_neg (by decide), if_pos ⟨rfl, hsg⟩]; rfl
            have e3 : doW b z bs 5 P M ds.length os = false := by unfold doW; simp [hsg]
            unfold doB doV
            rw [e1, e2, e3]
            exact done_swapno w1 v r s b z N bs vs num P M D _ dc O _ oc num hV os rfl (rdU hU hO (fun hh => hOv (by rintro rfl; exact hh rfl))) hP hsg
          | true =>
            refine do_ok w v r s b z N bs vs last 5 P M D _ dc O _ oc num hk h hnum.1 hnum.2 hf hc _ _ _ _ fun w1 hV hU => ?_
            have e1 : doK b z bs 5 P M ds.length os = 1 := by unfold doK; rw [if_pos hc, if_neg (by rw [Int.toNat_natCast, hsg]; simp)]
            have e2 : doD b z bs 5 P M ds.length os = [] := by unfold doD; rw [if_pos hc, if_neg (by decide), if_neg (by rw [Int.toNat_natCast, hsg]; simp)]
            have e3 : doW b z bs 5 P M ds.length os = true := by unfold doW; simp [hsg, hc]
            unfold doB doV
            rw [e1, e2, e3]
            exact done_swapyes w1 v r s b z N bs vs num P M D _ dc O _ oc num hV ds os rfl (rdU hU hD (fun hh => hDv (by rintro rfl; exact hh rfl))) (by omega) rfl (rdU hU hO (fun hh => hOv (by rintro rfl; exact hh rfl))) hP hsg
        · have hin : P + M ≤ b := by omega
          have hM : 1 ≤ M := by omega
          have e1 : doK b z bs k P M ds.length os = 1 := by unfold doK; rw [if_pos hc, if_neg (by omega)]
          rcases hkk with rfl | rfl | rfl
          · refine do_ok w v r s b z N bs vs last 1 P M D _ dc O _ oc num hk h hnum.1 hnum.2 hf hc _ _ _ _ fun w1 hV hU => ?_
            have e2 : doD b z bs 1 P M ds.length os = segB bs P M z := by unfold doD; rw [if_pos hc, if_pos rfl]; rfl
            have e3 : doW b z bs 1 P M ds.length os = false := by unfold doW; simp
            unfold doB doV
            rw [e1, e2, e3]
            exact done_read w1 v r s b z N bs vs num P M D _ dc O _ oc num hV hM hin
          · refine do_ok w v r s b z N bs vs last 2 P M D _ dc O _ oc num hk h hnum.1 hnum.2 hf hc _ _ _ _ fun w1 hV hU => ?_
            have e2 : doD b z bs 2 P M ds.length os = [] := by unfold doD; rw [if_pos hc, if_neg (by decide), if_neg (by omega)]
            have e3 : doW b z bs 2 P M ds.length os = true := by unfold doW; simp [hc]
            unfold doB doV
            rw [e1, e2, e3]
            exact done_write w1 v r s b z N bs vs num P M D _ dc O _ oc num hV ds rfl (rdU hU hD (fun hh => hDv (by rintro rfl; exact hh rfl))) (by have := g4 rfl; exact Int.ofNat.inj (by simpa using this)) hM hin
          · refine do_ok w v r s b z N bs vs last 3 P M D _ dc O _ oc num hk h hnum.1 hnum.2 hf hc _ _ _ _ fun w1 hV hU => ?_
            have e2 : doD b z bs 3 P M ds.length os = [] := by unfold doD; rw [if_pos hc, if_neg (by decide), if_neg (by omega)]
            have e3 : doW b z bs 3 P M ds.length os = true := by unfold doW; simp [hc]
            unfold doB doV
            rw [e1, e2, e3]
            exact done_trim w1 v r s b z N bs vs num P M D _ dc O _ oc num hV hM hin
      · obtain ⟨C, hC⟩ := ftC_nat b z k p n ds.length os.length
        have e1 : doK b z bs k p n ds.length os = C := by unfold doK; rw [if_neg hc, hC]; rfl
        have e2 : doD b z bs k p n ds.length os = [] := by unfold doD; rw [if_neg hc]
        have e3 : doW b z bs k p n ds.length os = false := by unfold doW; simp [hc]
        unfold doB doV
        rw [e1, e2, e3]
        exact do_badcode w v r s b z N bs vs last k p n D _ dc O _ oc num hk h hnum.1 hnum.2 C (by intro e; apply hc; rw [hC, e]; rfl) hf hC
    · have hE1 : doE b z last k p n ds.length os.length num ≠ 0 := by rw [hE0]; exact hf
      unfold doKE doDE doBE doVE doLE
      simp only [if_neg hE1]
      rw [hE0]
      exact do_badfit w v r s b z N bs vs last k p n D _ dc O _ oc num hk h hnum.1 hnum.2 _ hf rfl (ft_bad rfl hf)
  · have hE0 : doE b z last k p n ds.length os.length num = 5 := by unfold doE; rw [if_neg hnum]
    unfold doKE doDE doBE doVE doLE
    rw [hE0]
    exact do_badnum w v r s b z N bs vs last k p n D _ dc O _ oc num h hnum
end Go.Proofs.YtjilkaciopiabaaDoor
