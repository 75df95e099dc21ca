/- plinthref06: Ask, Last (written by gen_g6y.py). -/
import Derived.Test.YtplodjccjobjbaaF06y
namespace Go.Proofs.Ytplodjccjobjbaa
open Go.RowKit Go.Px Go.Maps
set_option linter.unusedVariables false
/-- What the document's Ask tells. -/
def RAsk (V E : Int) (k : Nat) (bs : List UInt8) (w : World) (e : Ending) (w' : World) : Prop :=
  ∃ D d dc, e = .returned (.tuple #[.int .i64 V, resv k D d dc, .int .i64 E]) ∧ bs.length = d ∧ d ≤ dc ∧ dc ≤ 9223372036854775807 ∧ k < 256 ∧ Rd w' D (bys bs) ∧ Below w.heap.size w w'
section
variable {w : World} {r : Nat} {A : Option Addr} {n c : Nat} {cs : List Value} {es : List RowT}

set_option maxRecDepth 20000 in
set_option maxHeartbeats 1600000 in
theorem rask_bad (h : RfIs w r A n c cs es) (x s : Int) (hb : serB x = false ∨ (serB x = true ∧ serB s = false)) : Calls Try.prog 25 #[.pointer (some ⟨r, 0, none⟩), .int .i64 x, .int .i64 s] w (RAsk 0 5 0 [] w) := by
  obtain ⟨g, hg⟩ : ∃ g, w.heap.size = g := ⟨_, rfl⟩
  obtain ⟨w0, hw0⟩ : ∃ x, w.alloc (.cells #[.int .u8 0, .slice none 0 0] 33) = x := ⟨_, rfl⟩
  have hZ : Blk w0 g [.int .u8 0, .slice none 0 0] 33 := by rw [← hw0, ← hg]; exact Blk.new w [.int .u8 0, .slice none 0 0] _
  have hb0 : Below w.heap.size w w0 := by rw [← hw0]; exact (Below.refl _ _).alloc (Nat.le_refl _) _
  have h0 := h.below hb0
  have hnc := h.nc
  have hcm := h.cm
  have rl := h.blk.lt
  have zl := hZ.lt
  have Hw0 := hide hw0
  clear hw0
  have x0 := h0.blk.cell (j := 0) rfl
  have z0 := hZ.cell (j := 0) rfl
  have z1 := hZ.cell (j := 1) rfl
  have fz0 := hZ.frozen 0
  have fz1 := hZ.frozen 1
  rcases hb with hc | ⟨hc, hs⟩
  · have Hc := hide hc
    clear hc
    go_enter Try.func25, Try.ntmps25
    go_wp2_with fail
    try rw [Hw0.out]
    go_fit (number6_any x w0)
    rw [Hc.out]
    rintro xx w1 ⟨rfl, rfl⟩
    go_wp2
    have hbz := (hb0.setCell (p := ⟨g, 0, none⟩) (leBk (by omega)) (.int .u8 0)).setCell (p := ⟨g, 1, none⟩) (leBk (by omega)) (.slice none 0 0)
    refine bodyPost_ret (results_scs rfl rfl (((hZ.set 0 (.int .u8 0)).set 1 (.slice none 0 0))) Try.underlying33 rfl (by kernel_rfl)) rfl ?_
    exact ⟨none, 0, 0, rfl, rfl, by omega, by omega, by omega, Rd.nil, hbz⟩
  · have Hc := hide hc
    have Hs := hide hs
    clear hc hs
    go_enter Try.func25, Try.ntmps25
    go_wp2_with fail
    try rw [Hw0.out]
    go_fit (number6_any x w0)
    rw [Hc.out]
    rintro xx w1 ⟨rfl, rfl⟩
    go_wp2_with fail
    try rw [Hw0.out]
    go_fit (number6_any s w0)
    rw [Hs.out]
    rintro xx w1 ⟨rfl, rfl⟩
    go_wp2
    have hbz := (hb0.setCell (p := ⟨g, 0, none⟩) (leBk (by omega)) (.int .u8 0)).setCell (p := ⟨g, 1, none⟩) (leBk (by omega)) (.slice none 0 0)
    refine bodyPost_ret (results_scs rfl rfl (((hZ.set 0 (.int .u8 0)).set 1 (.slice none 0 0))) Try.underlying33 rfl (by kernel_rfl)) rfl ?_
    exact ⟨none, 0, 0, rfl, rfl, by omega, by omega, by omega, Rd.nil, hbz⟩

set_option maxRecDepth 20000 in
set_option maxHeartbeats 1600000 in
theorem rask_full (h : RfIs w r A n c cs es) {m : TM} (ht : TbOf m es) (x s : Int) (hc : serB x = true) (hs : serB s = true) (hm : m x = none) (hN : 64 ≤ n) : Calls Try.prog 25 #[.pointer (some ⟨r, 0, none⟩), .int .i64 x, .int .i64 s] w (RAsk 4 0 0 [] w) := by
  obtain ⟨g, hg⟩ : ∃ g, w.heap.size = g := ⟨_, rfl⟩
  obtain ⟨w0, hw0⟩ : ∃ x, w.alloc (.cells #[.int .u8 0, .slice none 0 0] 33) = x := ⟨_, rfl⟩
  have hZ : Blk w0 g [.int .u8 0, .slice none 0 0] 33 := by rw [← hw0, ← hg]; exact Blk.new w [.int .u8 0, .slice none 0 0] _
  have hb0 : Below w.heap.size w w0 := by rw [← hw0]; exact (Below.refl _ _).alloc (Nat.le_refl _) _
  have h0 := h.below hb0
  have hnc := h.nc
  have hcm := h.cm
  have rl := h.blk.lt
  have zl := hZ.lt
  have Hw0 := hide hw0
  clear hw0
  have x0 := h0.blk.cell (j := 0) rfl
  have z0 := hZ.cell (j := 0) rfl
  have z1 := hZ.cell (j := 1) rfl
  have fz0 := hZ.frozen 0
  have fz1 := hZ.frozen 1
  have Hc := hide hc
  have Hs := hide hs
  clear hc hs
  have HF := hide (rfind_no h0 x (fun e he => ht.atN hm he))
  clear ht hm
  go_enter Try.func25, Try.ntmps25
  go_wp2_with fail
  try rw [Hw0.out]
  go_fit (number6_any x w0)
  rw [Hc.out]
  rintro xx w1 ⟨rfl, rfl⟩
  go_wp2_with fail
  try rw [Hw0.out]
  go_fit (number6_any s w0)
  rw [Hs.out]
  rintro xx w1 ⟨rfl, rfl⟩
  go_wp2_with fail
  go_fit HF.out
  rintro xx w1 ⟨rfl, rfl⟩
  go_wp2
  have hbz := (hb0.setCell (p := ⟨g, 0, none⟩) (leBk (by omega)) (.int .u8 0)).setCell (p := ⟨g, 1, none⟩) (leBk (by omega)) (.slice none 0 0)
  refine bodyPost_ret (results_scs rfl rfl (((hZ.set 0 (.int .u8 0)).set 1 (.slice none 0 0))) Try.underlying33 rfl (by kernel_rfl)) rfl ?_
  exact ⟨none, 0, 0, rfl, rfl, by omega, by omega, by omega, Rd.nil, hbz⟩

set_option maxRecDepth 20000 in
set_option maxHeartbeats 1600000 in
theorem rask_new0 (h : RfIs w r A n c cs es) {m : TM} (ht : TbOf m es) (x s : Int) (hc : serB x = true) (hs : serB s = true) (hm : m x = none) (hN : n < 64) : Calls Try.prog 25 #[.pointer (some ⟨r, 0, none⟩), .int .i64 x, .int .i64 s] w (RAsk 1 0 0 [] w) := by
  obtain ⟨g, hg⟩ : ∃ g, w.heap.size = g := ⟨_, rfl⟩
  obtain ⟨w0, hw0⟩ : ∃ x, w.alloc (.cells #[.int .u8 0, .slice none 0 0] 33) = x := ⟨_, rfl⟩
  have hZ : Blk w0 g [.int .u8 0, .slice none 0 0] 33 := by rw [← hw0, ← hg]; exact Blk.new w [.int .u8 0, .slice none 0 0] _
  have hb0 : Below w.heap.size w w0 := by rw [← hw0]; exact (Below.refl _ _).alloc (Nat.le_refl _) _
  have h0 := h.below hb0
  have hnc := h.nc
  have hcm := h.cm
  have rl := h.blk.lt
  have zl := hZ.lt
  have Hw0 := hide hw0
  clear hw0
  have x0 := h0.blk.cell (j := 0) rfl
  have z0 := hZ.cell (j := 0) rfl
  have z1 := hZ.cell (j := 1) rfl
  have fz0 := hZ.frozen 0
  have fz1 := hZ.frozen 1
  have Hc := hide hc
  have Hs := hide hs
  clear hc hs
  have HF := hide (rfind_no h0 x (fun e he => ht.atN hm he))
  clear ht hm
  go_enter Try.func25, Try.ntmps25
  go_wp2_with fail
  try rw [Hw0.out]
  go_fit (number6_any x w0)
  rw [Hc.out]
  rintro xx w1 ⟨rfl, rfl⟩
  go_wp2_with fail
  try rw [Hw0.out]
  go_fit (number6_any s w0)
  rw [Hs.out]
  rintro xx w1 ⟨rfl, rfl⟩
  go_wp2_with fail
  go_fit HF.out
  rintro xx w1 ⟨rfl, rfl⟩
  go_wp2
  have hbz := (hb0.setCell (p := ⟨g, 0, none⟩) (leBk (by omega)) (.int .u8 0)).setCell (p := ⟨g, 1, none⟩) (leBk (by omega)) (.slice none 0 0)
  refine bodyPost_ret (results_scs rfl rfl (((hZ.set 0 (.int .u8 0)).set 1 (.slice none 0 0))) Try.underlying33 rfl (by kernel_rfl)) rfl ?_
  exact ⟨none, 0, 0, rfl, rfl, by omega, by omega, by omega, Rd.nil, hbz⟩

set_option maxRecDepth 20000 in
set_option maxHeartbeats 1600000 in
theorem rask_new1 (h : RfIs w r A n c cs es) {m : TM} (ht : TbOf m es) (x s : Int) (hc : serB x = true) (hs : serB s = true) {s0 : Int} {k0 : Nat} {b0 : List UInt8} (hm : m x = some (s0, k0, b0)) (hN : s0 < s) : Calls Try.prog 25 #[.pointer (some ⟨r, 0, none⟩), .int .i64 x, .int .i64 s] w (RAsk 1 0 0 [] w) := by
  obtain ⟨g, hg⟩ : ∃ g, w.heap.size = g := ⟨_, rfl⟩
  obtain ⟨w0, hw0⟩ : ∃ x, w.alloc (.cells #[.int .u8 0, .slice none 0 0] 33) = x := ⟨_, rfl⟩
  have hZ : Blk w0 g [.int .u8 0, .slice none 0 0] 33 := by rw [← hw0, ← hg]; exact Blk.new w [.int .u8 0, .slice none 0 0] _
  have hb0 : Below w.heap.size w w0 := by rw [← hw0]; exact (Below.refl _ _).alloc (Nat.le_refl _) _
  have h0 := h.below hb0
  have hnc := h.nc
  have hcm := h.cm
  have rl := h.blk.lt
  have zl := hZ.lt
  have Hw0 := hide hw0
  clear hw0
  have x0 := h0.blk.cell (j := 0) rfl
  have z0 := hZ.cell (j := 0) rfl
  have z1 := hZ.cell (j := 1) rfl
  have fz0 := hZ.frozen 0
  have fz1 := hZ.frozen 1
  have Hc := hide hc
  have Hs := hide hs
  clear hc hs
  obtain ⟨j, hj, hlt⟩ := ht.atS hm
  have HF := hide (rfind_at h0 x j _ hj hlt)
  have hjn : j < n := by rw [← h.len]; exact (List.getElem?_eq_some_iff.1 hj).1
  have hl := h0.rows.1
  obtain ⟨a, rfl, hat⟩ := h0.rd.some_of (xs := cs) (by rw [hl, h.len]; omega)
  obtain ⟨D, d, dc, _, y1, y2, y3, hk8, hd, hdc, hdm, hrd, _⟩ := (h.rows.2 j _ hj).cells hat
  simp only at y1 y2 hk8 hd hrd
  have Hd := hide hd
  clear ht hm hat hl hj hlt hd
  go_enter Try.func25, Try.ntmps25
  go_wp2_with fail
  try rw [Hw0.out]
  go_fit (number6_any x w0)
  rw [Hc.out]
  rintro xx w1 ⟨rfl, rfl⟩
  go_wp2_with fail
  try rw [Hw0.out]
  go_fit (number6_any s w0)
  rw [Hs.out]
  rintro xx w1 ⟨rfl, rfl⟩
  go_wp2_with fail
  go_fit HF.out
  rintro xx w1 ⟨rfl, rfl⟩
  go_wp2
  have hbz := (hb0.setCell (p := ⟨g, 0, none⟩) (leBk (by omega)) (.int .u8 0)).setCell (p := ⟨g, 1, none⟩) (leBk (by omega)) (.slice none 0 0)
  refine bodyPost_ret (results_scs rfl rfl (((hZ.set 0 (.int .u8 0)).set 1 (.slice none 0 0))) Try.underlying33 rfl (by kernel_rfl)) rfl ?_
  exact ⟨none, 0, 0, rfl, rfl, by omega, by omega, by omega, Rd.nil, hbz⟩

set_option maxRecDepth 20000 in
set_option maxHeartbeats 1600000 in
theorem rask_old (h : RfIs w r A n c cs es) {m : TM} (ht : TbOf m es) (x s : Int) (hc : serB x = true) (hs : serB s = true) {s0 : Int} {k0 : Nat} {b0 : List UInt8} (hm : m x = some (s0, k0, b0)) (hN : s < s0) : Calls Try.prog 25 #[.pointer (some ⟨r, 0, none⟩), .int .i64 x, .int .i64 s] w (RAsk 3 0 0 [] w) := by
  obtain ⟨g, hg⟩ : ∃ g, w.heap.size = g := ⟨_, rfl⟩
  obtain ⟨w0, hw0⟩ : ∃ x, w.alloc (.cells #[.int .u8 0, .slice none 0 0] 33) = x := ⟨_, rfl⟩
  have hZ : Blk w0 g [.int .u8 0, .slice none 0 0] 33 := by rw [← hw0, ← hg]; exact Blk.new w [.int .u8 0, .slice none 0 0] _
  have hb0 : Below w.heap.size w w0 := by rw [← hw0]; exact (Below.refl _ _).alloc (Nat.le_refl _) _
  have h0 := h.below hb0
  have hnc := h.nc
  have hcm := h.cm
  have rl := h.blk.lt
  have zl := hZ.lt
  have Hw0 := hide hw0
  clear hw0
  have x0 := h0.blk.cell (j := 0) rfl
  have z0 := hZ.cell (j := 0) rfl
  have z1 := hZ.cell (j := 1) rfl
  have fz0 := hZ.frozen 0
  have fz1 := hZ.frozen 1
  have Hc := hide hc
  have Hs := hide hs
  clear hc hs
  obtain ⟨j, hj, hlt⟩ := ht.atS hm
  have HF := hide (rfind_at h0 x j _ hj hlt)
  have hjn : j < n := by rw [← h.len]; exact (List.getElem?_eq_some_iff.1 hj).1
  have hl := h0.rows.1
  obtain ⟨a, rfl, hat⟩ := h0.rd.some_of (xs := cs) (by rw [hl, h.len]; omega)
  obtain ⟨D, d, dc, _, y1, y2, y3, hk8, hd, hdc, hdm, hrd, _⟩ := (h.rows.2 j _ hj).cells hat
  simp only at y1 y2 hk8 hd hrd
  have Hd := hide hd
  clear ht hm hat hl hj hlt hd
  have q1 : (s == s0) = false := by rw [beq_eq_false_iff_ne]; omega
  go_enter Try.func25, Try.ntmps25
  go_wp2_with fail
  try rw [Hw0.out]
  go_fit (number6_any x w0)
  rw [Hc.out]
  rintro xx w1 ⟨rfl, rfl⟩
  go_wp2_with fail
  try rw [Hw0.out]
  go_fit (number6_any s w0)
  rw [Hs.out]
  rintro xx w1 ⟨rfl, rfl⟩
  go_wp2_with fail
  go_fit HF.out
  rintro xx w1 ⟨rfl, rfl⟩
  go_wp2
  have hbz := (hb0.setCell (p := ⟨g, 0, none⟩) (leBk (by omega)) (.int .u8 0)).setCell (p := ⟨g, 1, none⟩) (leBk (by omega)) (.slice none 0 0)
  refine bodyPost_ret (results_scs rfl rfl (((hZ.set 0 (.int .u8 0)).set 1 (.slice none 0 0))) Try.underlying33 rfl (by kernel_rfl)) rfl ?_
  exact ⟨none, 0, 0, rfl, rfl, by omega, by omega, by omega, Rd.nil, hbz⟩

set_option maxRecDepth 20000 in
set_option maxHeartbeats 1600000 in
theorem rask_again (h : RfIs w r A n c cs es) {m : TM} (ht : TbOf m es) (x s : Int) (hc : serB x = true) (hs : serB s = true) {k0 : Nat} {b0 : List UInt8} (hm : m x = some (s, k0, b0)) : Calls Try.prog 25 #[.pointer (some ⟨r, 0, none⟩), .int .i64 x, .int .i64 s] w (RAsk 2 0 k0 b0 w) := by
  obtain ⟨g, hg⟩ : ∃ g, w.heap.size = g := ⟨_, rfl⟩
  obtain ⟨w0, hw0⟩ : ∃ x, w.alloc (.cells #[.int .u8 0, .slice none 0 0] 33) = x := ⟨_, rfl⟩
  have hZ : Blk w0 g [.int .u8 0, .slice none 0 0] 33 := by rw [← hw0, ← hg]; exact Blk.new w [.int .u8 0, .slice none 0 0] _
  have hb0 : Below w.heap.size w w0 := by rw [← hw0]; exact (Below.refl _ _).alloc (Nat.le_refl _) _
  have h0 := h.below hb0
  have hnc := h.nc
  have hcm := h.cm
  have rl := h.blk.lt
  have zl := hZ.lt
  have Hw0 := hide hw0
  clear hw0
  have x0 := h0.blk.cell (j := 0) rfl
  have z0 := hZ.cell (j := 0) rfl
  have z1 := hZ.cell (j := 1) rfl
  have fz0 := hZ.frozen 0
  have fz1 := hZ.frozen 1
  have Hc := hide hc
  have Hs := hide hs
  clear hc hs
  obtain ⟨j, hj, hlt⟩ := ht.atS hm
  have HF := hide (rfind_at h0 x j _ hj hlt)
  have hjn : j < n := by rw [← h.len]; exact (List.getElem?_eq_some_iff.1 hj).1
  have hl := h0.rows.1
  obtain ⟨a, rfl, hat⟩ := h0.rd.some_of (xs := cs) (by rw [hl, h.len]; omega)
  obtain ⟨D, d, dc, _, y1, y2, y3, hk8, hd, hdc, hdm, hrd, _⟩ := (h.rows.2 j _ hj).cells hat
  simp only at y1 y2 hk8 hd hrd
  have Hd := hide hd
  clear ht hm hat hl hj hlt hd
  go_enter Try.func25, Try.ntmps25
  go_wp2_with fail
  try rw [Hw0.out]
  go_fit (number6_any x w0)
  rw [Hc.out]
  rintro xx w1 ⟨rfl, rfl⟩
  go_wp2_with fail
  try rw [Hw0.out]
  go_fit (number6_any s w0)
  rw [Hs.out]
  rintro xx w1 ⟨rfl, rfl⟩
  go_wp2_with fail
  go_fit HF.out
  rintro xx w1 ⟨rfl, rfl⟩
  go_wp2_with fail
  go_region
  go_wp2
  have hbz := (hb0.setCell (p := ⟨g, 0, none⟩) (leBk (by omega)) (.int .u8 k0)).setCell (p := ⟨g, 1, none⟩) (leBk (by omega)) (.slice D d dc)
  refine bodyPost_ret (results_scs rfl rfl (((hZ.set 0 (.int .u8 k0)).set 1 (.slice D d dc))) Try.underlying33 rfl (by kernel_rfl)) rfl ?_
  exact ⟨D, d, dc, rfl, Hd.out, hdc, hdm, hk8, (hrd.below hbz).drew, below_drewN hbz 1⟩

/-- What Ask tells, of what a table knows. -/
def askV (m : TM) (S : Nat) (x s : Int) : Int × Int × Nat × List UInt8 :=
  if serB x = true ∧ serB s = true then
    match m x with
    | none => if 64 ≤ S then (4, 0, 0, []) else (1, 0, 0, [])
    | some (s0, k0, b0) => if s0 < s then (1, 0, 0, []) else if s < s0 then (3, 0, 0, []) else (2, 0, k0, b0)
  else (0, 5, 0, [])
theorem askV_bad {m : TM} {S : Nat} {x s : Int} (h : serB x = false ∨ (serB x = true ∧ serB s = false)) : askV m S x s = (0, 5, 0, []) := by
  unfold askV
  rw [if_neg]
  rintro ⟨h1, h2⟩
  rcases h with h | ⟨_, h⟩ <;> simp_all
theorem serB_two {x s : Int} : (serB x = false ∨ (serB x = true ∧ serB s = false)) ∨ (serB x = true ∧ serB s = true) := by
  cases h1 : serB x <;> cases h2 : serB s <;> simp
theorem rask_any (h : RfIs w r A n c cs es) {m : TM} (ht : TbOf m es) (x s : Int) : Calls Try.prog 25 #[.pointer (some ⟨r, 0, none⟩), .int .i64 x, .int .i64 s] w (RAsk (askV m n x s).1 (askV m n x s).2.1 (askV m n x s).2.2.1 (askV m n x s).2.2.2 w) := by
  rcases serB_two (x := x) (s := s) with hb | ⟨hc, hs⟩
  · rw [askV_bad hb]; exact rask_bad h x s hb
  · unfold askV
    rw [if_pos ⟨hc, hs⟩]
    cases hm : m x with
    | none =>
      by_cases hN : 64 ≤ n
      · simp only [if_pos hN]; exact rask_full h ht x s hc hs hm hN
      · simp only [if_neg hN]; exact rask_new0 h ht x s hc hs hm (by omega)
    | some y =>
      obtain ⟨s0, k0, b0⟩ := y
      by_cases h1 : s0 < s
      · simp only [if_pos h1]; exact rask_new1 h ht x s hc hs hm h1
      · by_cases h2 : s < s0
        · simp only [if_neg h1, if_pos h2]; exact rask_old h ht x s hc hs hm h2
        · obtain rfl : s0 = s := by omega
          simp only [if_neg h1]; exact rask_again h ht x s0 hc hs hm
/-- The table's own Ask, likewise. -/
theorem ask_any6 {w : World} {B t bm N : Nat} {D : DataW Value} {m : TM} (h : TabIs w B t bm N D m) (x s : Int) : Calls Try.prog 18 #[.pointer (some ⟨t, 0, none⟩), .int .i64 x, .int .i64 s] w (AskIs B t bm N D m (askV m (Maps.size D) x s).1 (askV m (Maps.size D) x s).2.1 (askV m (Maps.size D) x s).2.2.1 (askV m (Maps.size D) x s).2.2.2 w) := by
  rcases serB_two (x := x) (s := s) with hb | ⟨hc, hs⟩
  · rw [askV_bad hb]; exact ask_bad h x s hb
  · unfold askV
    rw [if_pos ⟨hc, hs⟩]
    cases hm : m x with
    | none =>
      by_cases hN : 64 ≤ Maps.size D
      · simp only [if_pos hN]; exact ask_full h x s hc hs hm hN
      · simp only [if_neg hN]; exact ask_new0 h x s hc hs hm (by omega)
    | some y =>
      obtain ⟨s0, k0, b0⟩ := y
      by_cases h1 : s0 < s
      · simp only [if_pos h1]; exact ask_new1 h x s s0 k0 b0 hc hs hm h1
      · by_cases h2 : s < s0
        · simp only [if_neg h1, if_pos h2]; exact ask_old h x s s0 k0 b0 hc hs hm h2
        · obtain rfl : s0 = s := by omega
          simp only [if_neg h1]; exact ask_again h x s0 k0 b0 hc hs hm
set_option maxHeartbeats 800000 in
/-- Last. -/
theorem rlast_any (h : RfIs w r A n c cs es) {m : TM} (ht : TbOf m es) (x : Int) : Calls Try.prog 13 #[.pointer (some ⟨r, 0, none⟩), .int .i64 x] w fun e w' => e = .returned (.tuple #[.int .i64 ((m x).elim 0 (·.1)), .bool (m x).isSome]) ∧ w = w' := by
  have hnc := h.nc
  have hcm := h.cm
  have x0 := h.blk.cell (j := 0) rfl
  cases hm : m x with
  | none =>
    have HF := hide (rfind_no h x (fun e he => ht.atN hm he))
    clear ht hm
    go_enter Try.func13, Try.ntmps13
    go_wp2_with fail
    go_fit HF.out
    rintro xx w1 ⟨rfl, rfl⟩
    go_wp2
    go_ret2
    exact ⟨rfl, rfl⟩
  | some y =>
    obtain ⟨j, hj, hlt⟩ := ht.atS hm
    have HF := hide (rfind_at h x j _ hj hlt)
    have hjn : j < n := by rw [← h.len]; exact (List.getElem?_eq_some_iff.1 hj).1
    have hl := h.rows.1
    obtain ⟨a, rfl, hat⟩ := h.rd.some_of (xs := cs) (by rw [hl, h.len]; omega)
    obtain ⟨D, d, dc, _, y1, _⟩ := (h.rows.2 j _ hj).cells hat
    simp only at y1
    clear ht hm hat hl hj hlt
    go_enter Try.func13, Try.ntmps13
    go_wp2_with fail
    go_fit HF.out
    rintro xx w1 ⟨rfl, rfl⟩
    go_wp2
    go_ret2
    exact ⟨rfl, rfl⟩
set_option maxHeartbeats 800000 in
theorem last_any {w : World} {B t bm N : Nat} {D : DataW Value} {m : TM} (h : TabIs w B t bm N D m) (x : Int) (h1 : -9223372036854775808 ≤ x) (h2 : x ≤ 9223372036854775807) : Calls Try.prog 12 #[.pointer (some ⟨t, 0, none⟩), .int .i64 x] w fun e w' => e = .returned (.tuple #[.int .i64 ((m x).elim 0 (·.1)), .bool (m x).isSome]) ∧ Below w.heap.size w w' := by
  have x0 := h.blk.cell (j := 0) rfl
  cases hm : m x with
  | none =>
    have hl := h.look_none h1 h2 hm
    clear hm
    go_enter Try.func12, Try.ntmps12
    go_wp2_with fail
    go_fit (made06_any h)
    rintro xx w1 ⟨rfl, rfl⟩
    go_wp2
    go_ret2
    exact ⟨rfl, (Below.refl _ _).alloc (Nat.le_refl _) _⟩
  | some y =>
    obtain ⟨s, k, bs⟩ := y
    obtain ⟨A0, d, dc, hl, _⟩ := h.look_some h1 h2 hm
    clear hm
    go_enter Try.func12, Try.ntmps12
    go_wp2_with fail
    go_fit (made06_any h)
    rintro xx w1 ⟨rfl, rfl⟩
    go_wp2
    go_ret2
    exact ⟨rfl, (Below.refl _ _).alloc (Nat.le_refl _) _⟩
end
end Go.Proofs.Ytplodjccjobjbaa
