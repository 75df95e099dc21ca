/- Package sector: unreadable, bytes, Read. -/
import Derived.Test.YtdianokikhggnaaF08c
namespace Go.Proofs.Ytdianokikhggnaa
set_option maxRecDepth 20000
open Go.RowKit Go.Px Go.Maps
set_option linter.unusedVariables false
section
variable {w : World} {Q : Nat → Prop} {t f lm bm : Nat} {d : Dk}
def Dk.unread (d : Dk) (i : Int) : Bool := (d.loose i).isNone && d.bad i
theorem unread08_any (h : DIs w Q t f lm bm d) (i : Int) (h1 : -9223372036854775808 ≤ i) (h2 : i ≤ 9223372036854775807) :
    Calls Try.prog 45 #[.pointer (some ⟨t, 0, none⟩), .int .i64 i] w fun e w' => e = .returned (.bool (d.unread i)) ∧ Below w.heap.size w w' := by
  obtain ⟨cc, b1, _⟩ := h.blk
  have x2 := b1.cell (j := 2) rfl
  have x3 := b1.cell (j := 3) rfl
  have lb := h.look_ba h1 h2
  rcases h.look_lo h1 h2 with ⟨hl, ll⟩ | ⟨bs, A, n, c, hl, ll, _⟩
  · have hu : d.unread i = d.bad i := by unfold Dk.unread; rw [hl]; rfl
    rw [hu]
    obtain ⟨bb, hbb⟩ : ∃ bb, d.bad i = bb := ⟨_, rfl⟩
    rw [hbb] at lb ⊢
    have lb2 := ((Below.refl w.heap.size w).alloc (Nat.le_refl _) (.cells #[] 75))
    have y3 := ((b1.below lb2).cell (j := 3) rfl)
    have lb3 := (h.below lb2).look_ba h1 h2
    rw [hbb] at lb3
    clear h b1 hl hu hbb
    go_enter Try.func45, Try.ntmps45
    go_wp2
    go_ret
    exact ⟨rfl, lb2⟩
  · have hu : d.unread i = false := by unfold Dk.unread; rw [hl]; rfl
    rw [hu]
    clear h b1 hl hu
    go_enter Try.func45, Try.ntmps45
    go_wp2
    go_ret
    exact ⟨rfl, Below.refl _ _⟩
/-- What a sector holds: what is loose, else what is fast. -/
def Dk.bytesD (d : Dk) (i : Nat) : List UInt8 := (d.loose (i : Int)).getD (d.fast.getD i [])
theorem Dk.bytesD_len (ok : d.Ok) {i : Nat} (hi : i < d.fast.length) : (d.bytesD i).length = d.size := by
  unfold Dk.bytesD
  cases hl : d.loose (i : Int) with
  | none =>
    show (d.fast.getD i []).length = _
    rw [List.getD_eq_getElem?_getD, List.getElem?_eq_getElem hi]
    exact ok.fl _ (List.getElem_mem hi)
  | some bs => exact (ok.lo _ _ hl).2.2
theorem bytes08_any (h : DIs w Q t f lm bm d) (i : Nat) (hi : i < d.fast.length) :
    Calls Try.prog 46 #[.pointer (some ⟨t, 0, none⟩), .int .i64 (i : Int)] w fun e w' => ∃ A n c, e = .returned (.slice A n c) ∧ SecIs w Q (.slice A n c) (d.bytesD i) ∧ w = w' := by
  obtain ⟨cc, b1, _⟩ := h.blk
  have x1 := b1.cell (j := 1) rfl
  have x2 := b1.cell (j := 2) rfl
  have hN := h.ok.n2
  obtain ⟨v, hv, hs⟩ := h.sec hi
  obtain ⟨A, n, c, rfl, hsr⟩ := hs
  rcases h.look_lo (i := (i : Int)) (by omega) (by omega) with ⟨hl, ll⟩ | ⟨bs, A', n', c', hl, ll, hb1, hb2, hb3, hb4, hb5⟩
  · have he : d.bytesD i = d.fast[i] := by
      unfold Dk.bytesD
      rw [hl, List.getD_eq_getElem?_getD, List.getElem?_eq_getElem hi]; rfl
    rw [he]
    have HS := hide (show SecIs w Q (.slice A n c) d.fast[i] from ⟨A, n, c, rfl, hsr⟩)
    obtain ⟨N, hNe⟩ : ∃ N, d.fast.length = N := ⟨_, rfl⟩
    have hi' := hi
    rw [hNe] at hi' hN x1
    clear h b1 hl he hsr hNe
    go_enter Try.func46, Try.ntmps46
    go_wp2
    go_ret
    exact ⟨A, n, c, rfl, HS.out, rfl⟩
  · have he : d.bytesD i = bs := by unfold Dk.bytesD; rw [hl]; rfl
    rw [he]
    have HS := hide (show SecIs w Q (.slice A' n' c') bs from ⟨A', n', c', rfl, hb2, hb3, .inr ⟨hb1, hb4, hb5⟩⟩)
    clear h b1 hl he hsr hv x1
    go_enter Try.func46, Try.ntmps46
    go_wp2
    go_ret
    exact ⟨A', n', c', rfl, HS.out, rfl⟩
end
end Go.Proofs.Ytdianokikhggnaa
