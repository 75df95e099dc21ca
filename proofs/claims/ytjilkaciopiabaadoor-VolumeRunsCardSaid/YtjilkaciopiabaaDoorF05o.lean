/- may.Pages, at any pages. -/
import Derived.Test.YtjilkaciopiabaaDoorF05n
namespace Go.Proofs.YtjilkaciopiabaaDoor
open Go.RowKit Go.Px
set_option linter.unusedVariables false
def mpA (b z : Int) : Int → List (Int × Int × List UInt8) → Bool
  | _, [] => true
  | ah, p :: r => decide (¬ p.1 ≤ ah ∧ ¬ b ≤ p.1 ∧ serB p.2.1 = true ∧ (p.2.2.length : Int) = z) && mpA b z p.1 r
theorem mpA_yes {b z ah : Int} {p : Int × Int × List UInt8} {r : List (Int × Int × List UInt8)} (h : ¬ p.1 ≤ ah ∧ ¬ b ≤ p.1 ∧ serB p.2.1 = true ∧ (p.2.2.length : Int) = z) : mpA b z ah (p :: r) = mpA b z p.1 r := by
  unfold mpA; rw [decide_eq_true h, Bool.true_and]; cases r <;> rfl
theorem mpA_no {b z ah : Int} {p : Int × Int × List UInt8} {r : List (Int × Int × List UInt8)} (h : ¬ (¬ p.1 ≤ ah ∧ ¬ b ≤ p.1 ∧ serB p.2.1 = true ∧ (p.2.2.length : Int) = z)) : mpA b z ah (p :: r) = false := by
  unfold mpA; rw [decide_eq_false h, Bool.false_and]
theorem rd3_0 {w : World} {a : Addr} {cs : List Value} (hat : ∀ j u, cs[j]? = some u → w.cell? (a.add j) = some u) {k : Nat} {u : Value} (h : cs[3 * k]? = some u) : w.cell? (a.add (k * 3)) = some u := by
  rw [Nat.mul_comm]; exact hat _ _ h
theorem rd3_S {w : World} {a : Addr} {cs : List Value} (hat : ∀ j u, cs[j]? = some u → w.cell? (a.add j) = some u) {k i : Nat} {u : Value} (h : cs[3 * k + (i + 1)]? = some u) : w.cell? ⟨(a.add (k * 3)).block, (a.add (k * 3)).off + (i + 1), none⟩ = some u := by
  have := hat _ _ h
  have e : a.add (3 * k + (i + 1)) = ⟨(a.add (k * 3)).block, (a.add (k * 3)).off + (i + 1), none⟩ := by
    unfold Addr.add
    rw [if_neg (by omega)]
    split
    · rename_i h0
      rw [show 3 * k + (i + 1) = i + 1 by omega]
    · show (⟨a.block, a.off + (3 * k + (i + 1)), none⟩ : Addr) = ⟨a.block, a.off + k * 3 + (i + 1), none⟩
      rw [show a.off + (3 * k + (i + 1)) = a.off + k * 3 + (i + 1) by omega]
  rw [← e]; exact this
set_option maxHeartbeats 3200000 in
theorem mayPages_any (b z : Int) (A : Option Addr) (n c : Nat) (cs : List Value) (ps : List (Int × Int × List UInt8)) (Q : Nat → Prop) (w : World) (hn : ps.length = n) (hnc : n ≤ c) (hc : c ≤ 9223372036854775807) (hr : Rd w A cs) (hP : PgRows w Q cs ps) :
    Calls Tryd.prog 32 #[shp b z, .slice A n c] w fun e w' => e = .returned (.bool (mpA b z (-1) ps)) ∧ Below w.heap.size w w' := by
  obtain ⟨w0, hw0⟩ : ∃ w0, w.alloc (.cells #[.int .i64 b, .int .i64 z] 23) = w0 := ⟨_, rfl⟩
  obtain ⟨g, hg⟩ : ∃ g, w.heap.size = g := ⟨_, rfl⟩
  have hS : Blk w0 g [.int .i64 b, .int .i64 z] 23 := by rw [← hw0, ← hg]; exact Blk.new w [.int .i64 b, .int .i64 z] _
  have hb0 : Below w.heap.size w w0 := by rw [← hw0]; exact (Below.refl _ _).alloc (Nat.le_refl _) _
  have hr0 := hr.below hb0
  have hP0 := hP.below hb0
  have hl := hP.1
  have Hw0 := hide hw0
  go_enter Tryd.func32, Tryd.ntmps32
  go_wp2
  clear hw0
  go_loopw [5, 10] (fun a i wr => ∃ (k : Nat) (ah : Int), k ≤ n ∧ i = .int .i64 k ∧ a = .int .i64 ah ∧ mpA b z (-1) ps = mpA b z ah (ps.drop k) ∧ Below w0.heap.size w0 wr) (fun _ i _ => n - (intOf i).toNat)
  case atStart => exact ⟨0, -1, by omega, rfl, rfl, rfl, Below.refl _ _⟩
  case round =>
    obtain ⟨k, ah, hk, rfl, rfl, hm, hB⟩ := hrel
    have hbx : Below w.heap.size w wr := hb0.trans (hB.mono hb0.size)
    have hbx' : Below g w wr := by rw [← hg]; exact hbx
    by_cases hlt : k < n
    · obtain ⟨p, hp⟩ : ∃ p, ps[k]? = some p := ⟨_, List.getElem?_eq_getElem (by omega)⟩
      obtain ⟨A', m, c', h1, h2, h3, h4, h5, h6, h7, h8⟩ := (hP0.below hB).2 k p hp
      obtain ⟨a, rfl, hat⟩ := (hr0.below hB).some_of (xs := cs) (by omega)
      have y0 := rd3_0 hat h1
      have y1 := rd3_S (i := 0) hat h2
      have y2 := rd3_S (i := 1) hat h3
      have hd : ps.drop k = p :: ps.drop (k + 1) := by
        rw [List.drop_eq_getElem_cons (by omega)]
        rw [List.getElem?_eq_getElem (by omega)] at hp
        injection hp with hp
        rw [hp]
      obtain ⟨p1, p2, pd⟩ := p
      simp only at h1 h2 h4 h7 y0 y1
      rw [hd] at hm
      have x0 := ((hS.below hB).alloc (.cells #[.int .i64 p1, .int .i64 p2, .slice A' m c'] 80)).cell (j := 0) rfl
      have x1 := ((hS.below hB).alloc (.cells #[.int .i64 p1, .int .i64 p2, .slice A' m c'] 80)).cell (j := 1) rfl
      have hsz := hB.size
      have hgl := hS.lt
      by_cases c1 : p1 ≤ ah
      · have hf := hide (hm.trans (mpA_no (fun hh => hh.1 c1)))
        clear hm hd
        go_wp2
        go_ret
        exact ⟨by rw [hf.out]; rfl, by first | exact hbx.alloc (by omega) _ | exact hbx'.alloc (by omega) _⟩
      · by_cases c2 : b ≤ p1
        · have hf := hide (hm.trans (mpA_no (fun hh => hh.2.1 c2)))
          clear hm hd
          go_wp2
          go_ret
          exact ⟨by rw [hf.out]; rfl, by first | exact hbx.alloc (by omega) _ | exact hbx'.alloc (by omega) _⟩
        · go_wp2_with fail
          go_fit (serial_any p2 _)
          cases c3 : serB p2 with
          | false =>
            have hf := hide (hm.trans (mpA_no (fun hh => by have := hh.2.2.1; simp only at this; rw [c3] at this; cases this)))
            clear hm hd c3
            rintro x w1 ⟨rfl, rfl⟩
            go_wp2
            go_ret
            exact ⟨by rw [hf.out]; rfl, by first | exact hbx.alloc (by omega) _ | exact hbx'.alloc (by omega) _⟩
          | true =>
            by_cases c4 : (m : Int) = z
            · have hf := hide (hm.trans (mpA_yes ⟨by show ¬ p1 ≤ ah; omega, by show ¬ b ≤ p1; omega, c3, by show (pd.length : Int) = z; rw [h4]; exact c4⟩))
              clear hm hd c3
              rintro x w1 ⟨rfl, rfl⟩
              go_wp2
              go_roundw
              case rel => exact ⟨k + 1, p1, by omega, by go_num, rfl, hf.out, hB.alloc hB.size _⟩
              case measure => simp [intOf]; omega
            · have hf := hide (hm.trans (mpA_no (fun hh => c4 (by have := hh.2.2.2; simp only at this; rw [h4] at this; exact this))))
              clear hm hd c3
              rintro x w1 ⟨rfl, rfl⟩
              go_wp2
              go_ret
              exact ⟨by rw [hf.out]; rfl, by first | exact hbx.alloc (by omega) _ | exact hbx'.alloc (by omega) _⟩
    · obtain rfl : k = n := by omega
      have hf := hide (hm.trans (by rw [List.drop_eq_nil_of_le (by omega)]; rfl : mpA b z ah (ps.drop k) = true))
      clear hm
      go_wp2
      go_ret
      exact ⟨by rw [hf.out]; rfl, by first | exact hbx | exact hbx'⟩
end Go.Proofs.YtjilkaciopiabaaDoor
