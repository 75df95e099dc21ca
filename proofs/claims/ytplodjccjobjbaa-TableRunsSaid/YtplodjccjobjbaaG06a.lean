/- plinthref06: Put (written by gen_g6z.py). -/
import Derived.Test.YtplodjccjobjbaaF06z
namespace Go.Proofs.Ytplodjccjobjbaa
open Go.RowKit Go.Px Go.Maps
set_option linter.unusedVariables false
/-- A row laid among rows, by client: what the loop still makes. -/
def insG (row : RowT) : Bool → List RowT → List RowT
  | b, [] => if b then [] else [row]
  | b, x :: xs => (if !b && decide (row.1 ≤ x.1) then [row] else []) ++ ((if x.1 = row.1 then [] else [x]) ++ insG row (b || decide (row.1 ≤ x.1)) xs)
theorem insG_true (row : RowT) : ∀ (es : List RowT), insG row true es = es.filter fun x => !decide (x.1 = row.1)
  | [] => rfl
  | x :: xs => by
    simp only [insG, insG_true row xs, Bool.not_true, Bool.false_and, Bool.true_or]
    by_cases h : x.1 = row.1 <;> simp [h]
theorem insG_mem (row : RowT) : ∀ (es : List RowT) (e : RowT), e ∈ insG row false es ↔ e = row ∨ (e ∈ es ∧ e.1 ≠ row.1)
  | [], e => by simp [insG]
  | x :: xs, e => by
    have ih := insG_mem row xs e
    by_cases h1 : row.1 ≤ x.1
    · simp only [insG, h1, decide_true, Bool.not_false, Bool.and_self, if_true, Bool.or_true, insG_true]
      by_cases h2 : x.1 = row.1
      · simp [h2]
        constructor
        · rintro (h | ⟨h, h'⟩)
          · exact .inl h
          · exact .inr ⟨.inr h, h'⟩
        · rintro (h | ⟨h | h, h'⟩)
          · exact .inl h
          · subst h; exact absurd h2 h'
          · exact .inr ⟨h, h'⟩
      · simp [h2]
        constructor
        · rintro (h | h | ⟨h, h'⟩)
          · exact .inl h
          · subst h; exact .inr ⟨.inl rfl, h2⟩
          · exact .inr ⟨.inr h, h'⟩
        · rintro (h | ⟨h | h, h'⟩)
          · exact .inl h
          · exact .inr (.inl h)
          · exact .inr (.inr ⟨h, h'⟩)
    · have h2 : x.1 ≠ row.1 := by omega
      simp only [insG, h1, h2, decide_false, Bool.and_false, Bool.or_self, if_false, Bool.false_eq_true]
      simp [ih]
      constructor
      · rintro (h | h | ⟨h, h'⟩)
        · subst h; exact .inr ⟨.inl rfl, h2⟩
        · exact .inl h
        · exact .inr ⟨.inr h, h'⟩
      · rintro (h | ⟨h | h, h'⟩)
        · exact .inr (.inl h)
        · exact .inl h
        · exact .inr (.inr ⟨h, h'⟩)
theorem insG_srt (row : RowT) : ∀ (es : List RowT), es.Pairwise (fun x y => x.1 < y.1) → (insG row false es).Pairwise (fun x y => x.1 < y.1)
  | [], _ => by simp [insG]
  | x :: xs, h => by
    obtain ⟨hx, hs⟩ := List.pairwise_cons.1 h
    by_cases h1 : row.1 ≤ x.1
    · simp only [insG, h1, decide_true, Bool.not_false, Bool.and_self, if_true, Bool.or_true, insG_true]
      have hf : (xs.filter fun y => !decide (y.1 = row.1)).Pairwise (fun x y => x.1 < y.1) := hs.filter _
      by_cases h2 : x.1 = row.1
      · simp only [h2, if_true, List.nil_append, List.cons_append]
        refine List.pairwise_cons.2 ⟨fun e he => ?_, hf⟩
        have := hx e (List.mem_filter.1 he).1
        omega
      · simp only [h2, if_false, List.nil_append, List.cons_append]
        refine List.pairwise_cons.2 ⟨fun e he => ?_, List.pairwise_cons.2 ⟨fun e he => hx e (List.mem_filter.1 he).1, hf⟩⟩
        rcases List.mem_cons.1 he with rfl | he
        · omega
        · have := hx e (List.mem_filter.1 he).1; omega
    · have h2 : x.1 ≠ row.1 := by omega
      simp only [insG, h1, h2, decide_false, Bool.and_false, Bool.or_self, if_false, Bool.false_eq_true, List.nil_append, List.cons_append]
      refine List.pairwise_cons.2 ⟨fun e he => ?_, insG_srt row xs hs⟩
      rcases (insG_mem row xs e).1 he with rfl | ⟨he, _⟩
      · omega
      · exact hx e he
theorem filter_ne_len {c : Int} : ∀ {es : List RowT}, (∀ e ∈ es, e.1 ≠ c) → (es.filter fun x => !decide (x.1 = c)).length = es.length := by
  intro es h
  rw [List.filter_eq_self.2]
  intro e he
  simpa using h e he
theorem insG_len (row : RowT) : ∀ (es : List RowT), es.Pairwise (fun x y => x.1 < y.1) → ((∀ e ∈ es, e.1 ≠ row.1) → (insG row false es).length = es.length + 1) ∧ ((∃ e ∈ es, e.1 = row.1) → (insG row false es).length = es.length)
  | [], _ => by simp [insG]
  | x :: xs, h => by
    obtain ⟨hx, hs⟩ := List.pairwise_cons.1 h
    obtain ⟨i1, i2⟩ := insG_len row xs hs
    by_cases h1 : row.1 ≤ x.1
    · simp only [insG, h1, decide_true, Bool.not_false, Bool.and_self, if_true, Bool.or_true, insG_true]
      have hne : ∀ e ∈ xs, e.1 ≠ row.1 := fun e he => by have := hx e he; omega
      by_cases h2 : x.1 = row.1
      · refine ⟨fun hn => absurd h2 (hn x (by simp)), fun _ => ?_⟩
        simp [h2, filter_ne_len hne]
      · refine ⟨fun hn => by simp [h2, filter_ne_len hne], ?_⟩
        rintro ⟨e, he, hee⟩
        rcases List.mem_cons.1 he with rfl | he
        · exact absurd hee h2
        · exact absurd hee (hne e he)
    · have h2 : x.1 ≠ row.1 := by omega
      simp only [insG, h1, h2, decide_false, Bool.and_false, Bool.or_self, if_false, Bool.false_eq_true, List.nil_append, List.cons_append, List.length_cons]
      refine ⟨fun hn => by rw [i1 (fun e he => hn e (List.mem_cons_of_mem _ he))], ?_⟩
      rintro ⟨e, he, hee⟩
      rcases List.mem_cons.1 he with rfl | he
      · exact absurd hee h2
      · rw [i2 ⟨e, he, hee⟩]
theorem insG_tb {m : TM} {es : List RowT} (h : TbOf m es) (c s : Int) (k : Nat) (bs : List UInt8) : TbOf (tmPut m c s k bs) (insG (c, s, k, bs) false es) := by
  refine ⟨fun e => ?_, insG_srt _ _ h.srt⟩
  rw [insG_mem]
  unfold tmPut
  by_cases hc : e.1 = c
  · rw [if_pos hc]
    constructor
    · rintro (rfl | ⟨_, h'⟩)
      · rfl
      · exact absurd hc h'
    · intro h'
      injection h' with h'
      exact .inl (by obtain ⟨a, b⟩ := e; simp at hc h'; subst hc h'; rfl)
  · rw [if_neg hc, ← h.mem]
    constructor
    · rintro (rfl | ⟨h', _⟩)
      · exact absurd rfl hc
      · exact h'
    · exact fun h' => .inr ⟨h', hc⟩
theorem insG_size {m : TM} {es : List RowT} (h : TbOf m es) (c s : Int) (k : Nat) (bs : List UInt8) : (insG (c, s, k, bs) false es).length = if (m c).isSome then es.length else es.length + 1 := by
  obtain ⟨h1, h2⟩ := insG_len (c, s, k, bs) es h.srt
  cases hm : m c with
  | none => simp; exact h1 fun e he => h.atN hm he
  | some y => simp; exact h2 ⟨(c, y), (h.mem _).2 hm, rfl⟩
/-- What Put tells. -/
def putV (m : TM) (S : Nat) (c s : Int) (k d : Nat) : Int :=
  if (askV m S c s).2.1 = 0 then
    if rsE k d = 0 then
      if (askV m S c s).1 = 4 then 3 else if (askV m S c s).1 = 1 then 0 else 1
    else 60
  else (askV m S c s).2.1
theorem grown_cells {w w' : World} {x : Nat} (h : w.grownBy w' (some x)) {g : Nat} {vs : List Value} {T : TypeId} (hB : Blk w g vs T) (hne : g ≠ x) : Blk w' g vs T := (h.block g hB.lt (fun e => hne (Option.some.inj e))).trans hB

set_option maxRecDepth 20000 in
set_option maxHeartbeats 3200000 in
theorem rput_bad {w : World} {r : Nat} {A : Option Addr} {n c : Nat} {cs : List Value} {es : List RowT} (h : RfIs w r A n c cs es) {m : TM} (ht : TbOf m es) (x s : Int) (k : Nat) (D : Option Addr) (d dc : Nat) (bs : List UInt8) (hk : k < 256) (hd : bs.length = d) (hdc : d ≤ dc) (hdm : dc ≤ 9223372036854775807) (hr : Rd w D (bys bs)) (hE : (askV m n x s).2.1 ≠ 0) : Calls Try.prog 24 #[.pointer (some ⟨r, 0, none⟩), .int .i64 x, .int .i64 s, resv k D d dc] w fun e w' => e = .returned (.int .i64 (askV m n x s).2.1) ∧ Below w.heap.size w w' := by
  obtain ⟨w0, hw0⟩ : ∃ x, w.alloc (.cells #[.int .u8 k, .slice D d dc] 33) = x := ⟨_, rfl⟩
  have hBP : Blk w0 w.heap.size [.int .u8 k, .slice D d dc] 33 := by rw [← hw0]; exact Blk.new w [.int .u8 k, .slice D d dc] _
  have hbw0 : Below w.heap.size w w0 := by rw [← hw0]; exact (Below.refl _ _).alloc (Nat.le_refl _) _
  have Hw0 := hide hw0
  clear hw0
  have h0 := h.below hbw0
  have p0 := hBP.cell (j := 0) rfl
  have p1 := hBP.cell (j := 1) rfl
  have Hd := hide hd
  clear hd
  go_enter Try.func24, Try.ntmps24
  go_wp2_with fail
  rw [Hw0.out]
  go_fit (rask_any h0 ht x s)
  rintro xx w1 ⟨D1, d1, dc1, rfl, hd1, hdc1, hdm1, hk1, hr1, hb1⟩
  have hb01 := hbw0.trans (hb1.mono hbw0.size)
  obtain ⟨E, hEE⟩ : ∃ E, (askV m n x s).2.1 = E := ⟨_, rfl⟩
  rw [hEE] at hE ⊢
  have q : (E != 0) = true := by simpa using hE
  have HEE := hide hEE
  clear hEE hE
  go_wp2
  go_ret
  exact ⟨by rw [HEE.out]; rfl, hb01.trans ((Below.refl _ _).alloc (by have := hb01.size; omega) _)⟩

set_option maxRecDepth 20000 in
set_option maxHeartbeats 3200000 in
theorem rput_badR {w : World} {r : Nat} {A : Option Addr} {n c : Nat} {cs : List Value} {es : List RowT} (h : RfIs w r A n c cs es) {m : TM} (ht : TbOf m es) (x s : Int) (k : Nat) (D : Option Addr) (d dc : Nat) (bs : List UInt8) (hk : k < 256) (hd : bs.length = d) (hdc : d ≤ dc) (hdm : dc ≤ 9223372036854775807) (hr : Rd w D (bys bs)) (hE : (askV m n x s).2.1 = 0) (hR : rsE k d ≠ 0) : Calls Try.prog 24 #[.pointer (some ⟨r, 0, none⟩), .int .i64 x, .int .i64 s, resv k D d dc] w fun e w' => e = .returned (.int .i64 60) ∧ Below w.heap.size w w' := by
  have hV : True := trivial
  obtain ⟨w0, hw0⟩ : ∃ x, w.alloc (.cells #[.int .u8 k, .slice D d dc] 33) = x := ⟨_, rfl⟩
  have hBP : Blk w0 w.heap.size [.int .u8 k, .slice D d dc] 33 := by rw [← hw0]; exact Blk.new w [.int .u8 k, .slice D d dc] _
  have hbw0 : Below w.heap.size w w0 := by rw [← hw0]; exact (Below.refl _ _).alloc (Nat.le_refl _) _
  have Hw0 := hide hw0
  clear hw0
  have h0 := h.below hbw0
  have p0 := hBP.cell (j := 0) rfl
  have p1 := hBP.cell (j := 1) rfl
  have Hd := hide hd
  clear hd
  go_enter Try.func24, Try.ntmps24
  go_wp2_with fail
  rw [Hw0.out]
  go_fit (rask_any h0 ht x s)
  rintro xx w1 ⟨D1, d1, dc1, rfl, hd1, hdc1, hdm1, hk1, hr1, hb1⟩
  have hb01 := hbw0.trans (hb1.mono hbw0.size)
  obtain ⟨V, hVV⟩ : ∃ V, (askV m n x s).1 = V := ⟨_, rfl⟩
  rw [hE]
  first | rw [hVV] at hV ⊢ | rw [hVV]
  obtain ⟨k1, hkk⟩ : ∃ k1, (askV m n x s).2.2.1 = k1 := ⟨_, rfl⟩
  rw [hkk]
  clear hVV hkk hd1 hr1 hk1 hE
  have hbA : Below w1.heap.size w1 (w1.alloc (.cells #[.int .u8 k1, .slice D1 d1 dc1] 33)) := (Below.refl _ _).alloc (Nat.le_refl _) _
  have hb02 := hb01.trans (hbA.mono hb01.size)
  have hP1 := hBP.below hb1
  clear p0 p1
  have p0 := (hP1.alloc (.cells #[.int .u8 k1, .slice D1 d1 dc1] 33)).cell (j := 0) rfl
  have p1 := (hP1.alloc (.cells #[.int .u8 k1, .slice D1 d1 dc1] 33)).cell (j := 1) rfl
  have HV := hide hV
  clear hV
  go_wp2_with fail
  go_fit (rresult_any k D d dc _ hk)
  rintro xx w3 ⟨rfl, hb3⟩
  have hb03 := hb02.trans (hb3.mono hb02.size)
  have q : (rsE k d != 0) = true := by simpa using hR
  obtain ⟨E, hEE⟩ : ∃ E, rsE k d = E := ⟨_, rfl⟩
  rw [hEE] at q ⊢
  go_wp2
  go_ret
  exact ⟨rfl, hb03⟩

set_option maxRecDepth 20000 in
set_option maxHeartbeats 3200000 in
theorem rput_full {w : World} {r : Nat} {A : Option Addr} {n c : Nat} {cs : List Value} {es : List RowT} (h : RfIs w r A n c cs es) {m : TM} (ht : TbOf m es) (x s : Int) (k : Nat) (D : Option Addr) (d dc : Nat) (bs : List UInt8) (hk : k < 256) (hd : bs.length = d) (hdc : d ≤ dc) (hdm : dc ≤ 9223372036854775807) (hr : Rd w D (bys bs)) (hE : (askV m n x s).2.1 = 0) (hR : rsE k d = 0) (hV : (askV m n x s).1 = 4) : Calls Try.prog 24 #[.pointer (some ⟨r, 0, none⟩), .int .i64 x, .int .i64 s, resv k D d dc] w fun e w' => e = .returned (.int .i64 3) ∧ Below w.heap.size w w' := by
  obtain ⟨w0, hw0⟩ : ∃ x, w.alloc (.cells #[.int .u8 k, .slice D d dc] 33) = x := ⟨_, rfl⟩
  have hBP : Blk w0 w.heap.size [.int .u8 k, .slice D d dc] 33 := by rw [← hw0]; exact Blk.new w [.int .u8 k, .slice D d dc] _
  have hbw0 : Below w.heap.size w w0 := by rw [← hw0]; exact (Below.refl _ _).alloc (Nat.le_refl _) _
  have Hw0 := hide hw0
  clear hw0
  have h0 := h.below hbw0
  have p0 := hBP.cell (j := 0) rfl
  have p1 := hBP.cell (j := 1) rfl
  have Hd := hide hd
  clear hd
  go_enter Try.func24, Try.ntmps24
  go_wp2_with fail
  rw [Hw0.out]
  go_fit (rask_any h0 ht x s)
  rintro xx w1 ⟨D1, d1, dc1, rfl, hd1, hdc1, hdm1, hk1, hr1, hb1⟩
  have hb01 := hbw0.trans (hb1.mono hbw0.size)
  obtain ⟨V, hVV⟩ : ∃ V, (askV m n x s).1 = V := ⟨_, rfl⟩
  rw [hE]
  first | rw [hVV] at hV ⊢ | rw [hVV]
  obtain ⟨k1, hkk⟩ : ∃ k1, (askV m n x s).2.2.1 = k1 := ⟨_, rfl⟩
  rw [hkk]
  clear hVV hkk hd1 hr1 hk1 hE
  have hbA : Below w1.heap.size w1 (w1.alloc (.cells #[.int .u8 k1, .slice D1 d1 dc1] 33)) := (Below.refl _ _).alloc (Nat.le_refl _) _
  have hb02 := hb01.trans (hbA.mono hb01.size)
  have hP1 := hBP.below hb1
  clear p0 p1
  have p0 := (hP1.alloc (.cells #[.int .u8 k1, .slice D1 d1 dc1] 33)).cell (j := 0) rfl
  have p1 := (hP1.alloc (.cells #[.int .u8 k1, .slice D1 d1 dc1] 33)).cell (j := 1) rfl
  have HV := hide hV
  clear hV
  go_wp2_with fail
  go_fit (rresult_any k D d dc _ hk)
  rintro xx w3 ⟨rfl, hb3⟩
  have hb03 := hb02.trans (hb3.mono hb02.size)
  rw [HV.out]
  rw [hR]
  go_wp2
  go_ret
  exact ⟨rfl, hb03⟩

set_option maxRecDepth 20000 in
set_option maxHeartbeats 3200000 in
theorem rput_arg {w : World} {r : Nat} {A : Option Addr} {n c : Nat} {cs : List Value} {es : List RowT} (h : RfIs w r A n c cs es) {m : TM} (ht : TbOf m es) (x s : Int) (k : Nat) (D : Option Addr) (d dc : Nat) (bs : List UInt8) (hk : k < 256) (hd : bs.length = d) (hdc : d ≤ dc) (hdm : dc ≤ 9223372036854775807) (hr : Rd w D (bys bs)) (hE : (askV m n x s).2.1 = 0) (hR : rsE k d = 0) (hV : (askV m n x s).1 ≠ 1 ∧ (askV m n x s).1 ≠ 4) : Calls Try.prog 24 #[.pointer (some ⟨r, 0, none⟩), .int .i64 x, .int .i64 s, resv k D d dc] w fun e w' => e = .returned (.int .i64 1) ∧ Below w.heap.size w w' := by
  obtain ⟨w0, hw0⟩ : ∃ x, w.alloc (.cells #[.int .u8 k, .slice D d dc] 33) = x := ⟨_, rfl⟩
  have hBP : Blk w0 w.heap.size [.int .u8 k, .slice D d dc] 33 := by rw [← hw0]; exact Blk.new w [.int .u8 k, .slice D d dc] _
  have hbw0 : Below w.heap.size w w0 := by rw [← hw0]; exact (Below.refl _ _).alloc (Nat.le_refl _) _
  have Hw0 := hide hw0
  clear hw0
  have h0 := h.below hbw0
  have p0 := hBP.cell (j := 0) rfl
  have p1 := hBP.cell (j := 1) rfl
  have Hd := hide hd
  clear hd
  go_enter Try.func24, Try.ntmps24
  go_wp2_with fail
  rw [Hw0.out]
  go_fit (rask_any h0 ht x s)
  rintro xx w1 ⟨D1, d1, dc1, rfl, hd1, hdc1, hdm1, hk1, hr1, hb1⟩
  have hb01 := hbw0.trans (hb1.mono hbw0.size)
  obtain ⟨V, hVV⟩ : ∃ V, (askV m n x s).1 = V := ⟨_, rfl⟩
  rw [hE]
  first | rw [hVV] at hV ⊢ | rw [hVV]
  obtain ⟨k1, hkk⟩ : ∃ k1, (askV m n x s).2.2.1 = k1 := ⟨_, rfl⟩
  rw [hkk]
  clear hVV hkk hd1 hr1 hk1 hE
  have hbA : Below w1.heap.size w1 (w1.alloc (.cells #[.int .u8 k1, .slice D1 d1 dc1] 33)) := (Below.refl _ _).alloc (Nat.le_refl _) _
  have hb02 := hb01.trans (hbA.mono hb01.size)
  have hP1 := hBP.below hb1
  clear p0 p1
  have p0 := (hP1.alloc (.cells #[.int .u8 k1, .slice D1 d1 dc1] 33)).cell (j := 0) rfl
  have p1 := (hP1.alloc (.cells #[.int .u8 k1, .slice D1 d1 dc1] 33)).cell (j := 1) rfl
  have HV := hide hV
  clear hV
  go_wp2_with fail
  go_fit (rresult_any k D d dc _ hk)
  rintro xx w3 ⟨rfl, hb3⟩
  have hb03 := hb02.trans (hb3.mono hb02.size)
  have q1 : (V == 4) = false := by simpa using HV.out.2
  have q2 : (V != 1) = true := by simpa using HV.out.1
  rw [hR]
  go_wp2
  go_ret
  exact ⟨rfl, hb03⟩

theorem grown_set (w : World) (a : Addr) (u : Value) : w.grownBy (w.setCell a u) (some a.block) := ⟨rfl, rfl, rfl, by simp, fun k _ hne => Below.heap_setCell w a u k (fun e => hne (by rw [e]))⟩
theorem blk_cell_inv {w : World} {g : Nat} {vs : List Value} {T : TypeId} (h : Blk w g vs T) {a : Addr} {u : Value} (ha : a.block = g) (hc : w.cell? a = some u) : ∃ j : Nat, (vs : List Value)[j]? = some u := by
  unfold World.cell? at hc
  rw [ha, h] at hc
  simp only at hc
  split at hc
  · cases hc
  · exact ⟨a.off, by simpa using hc⟩
/-- What reads as integers lies apart from a block that holds one slice. -/
theorem rd_sepV {w : World} {r n c : Nat} {A0 : Option Addr} {T : TypeId} (hB : Blk w r [.slice A0 n c] T) {A : Option Addr} {xs : List Value} (h : Rd w A xs) {k : IntKind} {y : Int} (hx : xs[0]? = some (.int k y)) : ∀ a, A = some a → a.block ≠ r := by
  rintro a rfl e
  have := h.at_ hx
  obtain ⟨j, hj⟩ := blk_cell_inv hB (a := a.add 0) (by rw [add_block]; exact e) this
  cases j <;> simp at hj
theorem finR {w : World} {r n c : Nat} {A : Option Addr} {T : TypeId} (hB : Blk w r [.slice A n c] 38) {Q : Nat → Prop} {acc : List RowT} {vs : List Value} (hacc : RwRows w Q vs acc) {A1 : Option Addr} {c1 m : Nat} (hm : acc.length = m) (hr : Rd w A1 vs) (hA1 : ∀ a, A1 = some a → a.block ≠ r) (hc : m ≤ c1) (hcm : c1 ≤ 9223372036854775807) :
    RfIs (w.setCell ⟨r, 0, none⟩ (.slice A1 m c1)) r A1 m c1 vs acc := by
  have hg := grown_set w ⟨r, 0, none⟩ (.slice A1 m c1)
  refine ⟨hB.set 0 _, hm, hc, hcm, hr.grown hg (fun a ha e => hA1 a ha (Option.some.inj e)), hacc.1, fun j e he => ?_⟩
  obtain ⟨D, d, dc, h1, h2, h3, h4, h5, h6, h7, h8, h9, h10⟩ := hacc.2 j e he
  refine ⟨D, d, dc, h1, h2, h3, h4, h5, h6, h7, h8, ?_, fun _ _ _ => trivial⟩
  cases hb : e.2.2.2 with
  | nil => exact Rd.nil
  | cons b bs =>
    rw [hb] at h9
    exact h9.grown hg (fun a ha e' => rd_sepV hB h9 (k := .u8) (y := (b.toNat : Int)) rfl a ha (Option.some.inj e'))
theorem RwRows.loB {w w' : World} {B : Nat} {cs : List Value} {es : List RowT} (h : RwRows w (fun b => b < B) cs es) (hb : Below B w w') : RwRows w' (fun b => b < B) cs es := h.keep (fun A xs hr hq => hr.lo hq hb) (fun _ h => h)
theorem insG_step {row : RowT} {bi : Bool} {es : List RowT} {i : Nat} {e : RowT} (he : es[i]? = some e) : insG row bi (es.drop i) = (if !bi && decide (row.1 ≤ e.1) then [row] else []) ++ ((if e.1 = row.1 then [] else [e]) ++ insG row (bi || decide (row.1 ≤ e.1)) (es.drop (i + 1))) := by
  rw [drop_cons he]; rfl
set_option maxRecDepth 20000 in
set_option maxHeartbeats 3200000 in
theorem rput_ok {w : World} {r : Nat} {A : Option Addr} {n c : Nat} {cs : List Value} {es : List RowT} (h : RfIs w r A n c cs es) {m : TM} (ht : TbOf m es) (x s : Int) (k : Nat) (D : Option Addr) (d dc : Nat) (bs : List UInt8) (hk : k < 256) (hd : bs.length = d) (hdc : d ≤ dc) (hdm : dc ≤ 9223372036854775807) (hr : Rd w D (bys bs)) (hE : (askV m n x s).2.1 = 0) (hR : rsE k d = 0) (hV : (askV m n x s).1 = 1) (hn64 : n ≤ 4096) : Calls Try.prog 24 #[.pointer (some ⟨r, 0, none⟩), .int .i64 x, .int .i64 s, resv k D d dc] w fun e w' => e = .returned (.int .i64 0) ∧ (∃ A' c' cs', RfIs w' r A' (insG (x, s, k, bs) false es).length c' cs' (insG (x, s, k, bs) false es)) ∧ w.grownBy w' (some r) := by
  obtain ⟨w0, hw0⟩ : ∃ x, w.alloc (.cells #[.int .u8 k, .slice D d dc] 33) = x := ⟨_, rfl⟩
  have hBP : Blk w0 w.heap.size [.int .u8 k, .slice D d dc] 33 := by rw [← hw0]; exact Blk.new w [.int .u8 k, .slice D d dc] _
  have hbw0 : Below w.heap.size w w0 := by rw [← hw0]; exact (Below.refl _ _).alloc (Nat.le_refl _) _
  have Hw0 := hide hw0
  clear hw0
  have h0 := h.below hbw0
  have p0 := hBP.cell (j := 0) rfl
  have p1 := hBP.cell (j := 1) rfl
  have Hd := hide hd
  clear hd
  go_enter Try.func24, Try.ntmps24
  go_wp2_with fail
  rw [Hw0.out]
  go_fit (rask_any h0 ht x s)
  rintro xx w1 ⟨D1, d1, dc1, rfl, hd1, hdc1, hdm1, hk1, hr1, hb1⟩
  have hb01 := hbw0.trans (hb1.mono hbw0.size)
  obtain ⟨V, hVV⟩ : ∃ V, (askV m n x s).1 = V := ⟨_, rfl⟩
  rw [hE]
  first | rw [hVV] at hV ⊢ | rw [hVV]
  obtain ⟨k1, hkk⟩ : ∃ k1, (askV m n x s).2.2.1 = k1 := ⟨_, rfl⟩
  rw [hkk]
  clear hVV hkk hd1 hr1 hk1 hE
  have hbA : Below w1.heap.size w1 (w1.alloc (.cells #[.int .u8 k1, .slice D1 d1 dc1] 33)) := (Below.refl _ _).alloc (Nat.le_refl _) _
  have hb02 := hb01.trans (hbA.mono hb01.size)
  have hP1 := hBP.below hb1
  clear p0 p1
  have p0 := (hP1.alloc (.cells #[.int .u8 k1, .slice D1 d1 dc1] 33)).cell (j := 0) rfl
  have p1 := (hP1.alloc (.cells #[.int .u8 k1, .slice D1 d1 dc1] 33)).cell (j := 1) rfl
  have HV := hide hV
  clear hV
  go_wp2_with fail
  go_fit (rresult_any k D d dc _ hk)
  rintro xx w3 ⟨rfl, hb3⟩
  have hb03 := hb02.trans (hb3.mono hb02.size)
  rw [HV.out]
  rw [hR]
  have hP3 := (hP1.alloc (.cells #[.int .u8 k1, .slice D1 d1 dc1] 33)).below hb3
  clear p0 p1
  have p0 := hP3.cell (j := 0) rfl
  have p1 := hP3.cell (j := 1) rfl
  obtain ⟨w4, hw4⟩ : ∃ y, w3.alloc (.cells #[.int .i64 x, .int .i64 s, .int .u8 k, .slice D d dc] 68) = y := ⟨_, rfl⟩
  have hB4 : Blk w4 w3.heap.size [.int .i64 x, .int .i64 s, .int .u8 k, .slice D d dc] 68 := by rw [← hw4]; exact Blk.new w3 [.int .i64 x, .int .i64 s, .int .u8 k, .slice D d dc] _
  have hb34 : Below w3.heap.size w3 w4 := by rw [← hw4]; exact (Below.refl _ _).alloc (Nat.le_refl _) _
  have hb04 := hb03.trans (hb34.mono hb03.size)
  have h4 := h.below hb04
  have hrD := hr.below hb04
  have hqD : bs ≠ [] → ∀ a, D = some a → a.block < w4.heap.size := rd_ltB hrD
  have Hw4 := hide hw4
  have g3 := hB4.lt
  have hl4 := h4.rows.1
  have hlen := h4.len
  clear hw4 HV hR ht hb1 hbA hb02 hb01 hbw0 hb3 hb34 hP1 hP3 hr
  go_wp2_with fail
  rw [Hw4.out]
  go_loopw [13, 14, 15] (fun o b iv wr => ∃ (i : Nat) (bi : Bool) (acc : List RowT) (vs : List Value), i ≤ n ∧ iv = .int .i64 i ∧ b = .bool bi ∧ acc ++ insG (x, s, k, bs) bi (es.drop i) = insG (x, s, k, bs) false es ∧ wr.ownsRow w4.heap.size 68 4 o acc.length vs ∧ RwRows wr (fun b => b < w4.heap.size) vs acc ∧ Below w4.heap.size w4 wr ∧ acc.length ≤ i + 1 ∧ (bi = false → acc.length ≤ i)) (fun _ _ iv _ => n - (intOf iv).toNat)
  case atStart => exact ⟨0, false, [], [], by omega, rfl, rfl, by simp, ⟨by simp, .inl ⟨rfl, rfl⟩⟩, RwRows.nil, Below.refl _ _, by simp, by simp⟩
  case round =>
    obtain ⟨i, bi, acc, vs, hin, rfl, rfl, hI, hown, hacc, hbw, hal, hal2⟩ := hrel
    have HI := hide hI
    have hr' := h4.below hbw
    have x0 := hr'.blk.cell (j := 0) rfl
    have hcm := h4.cm
    have hnc := h4.nc
    clear hI
    by_cases hlt : i < n
    · obtain ⟨e, he⟩ : ∃ e, es[i]? = some e := ⟨_, List.getElem?_eq_getElem (by omega)⟩
      obtain ⟨a, hAa, hat⟩ := hr'.rd.some_of (xs := cs) (by rw [hl4, hlen]; omega)
      obtain ⟨A9, d9, dc9, e0, e1, e2, e3, h98, h9d, h9c, h9m, h9r, _⟩ := h4.rows.2 i e he
      have y0 := rd4_0 hat e0
      have y1 := rd4_S (i := 0) hat e1
      have y2 := rd4_S (i := 1) hat e2
      have y3 := rd4_S (i := 2) hat e3
      have E0 := hide e0
      have E1 := hide e1
      have E2 := hide e2
      have E3 := hide e3
      clear e0 e1 e2 e3
      have hS := fun bi => insG_step (row := (x, s, k, bs)) (bi := bi) he
      obtain ⟨c9, s9, k9, b9⟩ := e
      simp only at y0 y1 y2 h98 h9d h9r hS
      have h9q : b9 ≠ [] → ∀ a, A9 = some a → a.block < w4.heap.size := rd_ltB h9r
      have H9d := hide h9d
      rw [hAa] at x0
      have hAa0 := hide hAa
      clear hat he h9d hAa
      have hZ := hbw.size
      have R' := hB4.below hbw
      have r0 := R'.cell (j := 0) rfl
      have r1 := R'.cell (j := 1) rfl
      have r2 := R'.cell (j := 2) rfl
      have r3 := R'.cell (j := 3) rfl
      have hlo := own_lt hown
      by_cases hin2 : bi = false ∧ x ≤ c9
      · obtain ⟨rfl, hle⟩ := hin2
        have hal3 := hal2 rfl
        clear hal2
        by_cases heq : c9 = x
        · have q : (c9 != x) = false := by simpa using heq
          have HS := hide (hS false)
          rw [show decide (x ≤ c9) = true by simpa using hle, if_pos heq] at HS
          clear hS heq
          obtain ⟨wN1, hwN1⟩ : ∃ y, wr.alloc (.cells #[.int .i64 x, .int .i64 s, .int .u8 k, .slice D d dc] 68) = y := ⟨_, rfl⟩
          have hbN1 : Below wr.heap.size wr wN1 := by rw [← hwN1]; exact (Below.refl _ _).alloc (Nat.le_refl _) _
          have hrN1 : Rd wN1 (some ⟨wr.heap.size, 0, none⟩) [.int .i64 x, .int .i64 s, .int .u8 k, .slice D d dc] := by rw [← hwN1]; exact Rd.newN wr [.int .i64 x, .int .i64 s, .int .u8 k, .slice D d dc] _ (0, 0)
          have HwN1 := hide hwN1
          have hoN1 := own_below hown hbN1
          have szN1 := hbN1.size
          clear hwN1
          go_wp2_with (first | (with_reducible refine stop_append rfl ?_) | (with_reducible refine stop_copy rfl ?_) | (with_reducible refine stop_make rfl ?_))
          rw [HwN1.out]
          refine go_append (v := u13) rfl rfl tRows rfl hoN1 rfl (m := 1) (news := [.int .i64 x, .int .i64 s, .int .u8 k, .slice D d dc]) rfl hrN1 (by intro u hu; simp at hu; rcases hu with rfl | rfl | rfl | rfl <;> rfl) (by omega) (by omega) (by omega) ?_
          intro v5 w5 how5 hgw5 hvw5
          have hsw5 : Below w4.heap.size wr w5 := (hbN1.mono (by omega)).grown hgw5 (by omega) (fun q hq => (own_lt hown q hq).1)
          have hbw5 : Below w4.heap.size wr w5 := Below.trans (b := wr) (Below.refl _ _) hsw5
          have szw5 := hgw5.size
          have haw5 := (hacc.loB hsw5).snoc (c := x) (s := s) (k := k) (A := D) (dc := dc) hk Hd.out hdc hdm (rd_loB hrD (hbw.trans hbw5) hqD) hqD
          have hrw5 := h4.below (hbw.trans hbw5)
          have hat : ∀ (j : Nat) (u : Value), cs[j]? = some u → w5.cell? (a.add j) = some u := fun j u hu => by obtain ⟨a', ha', hc⟩ := hrw5.rd j u hu; rw [hAa0.out] at ha'; injection ha' with ha'; subst ha'; exact hc
          clear x0 y0 y1 y2 y3
          have x0 := hrw5.blk.cell (j := 0) rfl
          rw [hAa0.out] at x0
          have y0 := rd4_0 hat E0.out
          have y1 := rd4_S (i := 0) hat E1.out
          have y2 := rd4_S (i := 1) hat E2.out
          have y3 := rd4_S (i := 2) hat E3.out
          clear hat
          go_wp2
          go_roundw
          case rel => exact ⟨i + 1, true, acc ++ [(x, s, k, bs)], _, by omega, by go_num, rfl, by rw [← HI.out, HS.out]; simp, by simpa using how5, haw5, (hbw.trans hbw5), by (try simp only [List.length_append, List.length_cons, List.length_nil]); omega, by simp⟩
          case measure => simp [intOf]; omega
        · have q : (c9 != x) = true := by simpa using heq
          have HS := hide (hS false)
          rw [show decide (x ≤ c9) = true by simpa using hle, if_neg heq] at HS
          clear hS heq
          obtain ⟨wN1, hwN1⟩ : ∃ y, wr.alloc (.cells #[.int .i64 x, .int .i64 s, .int .u8 k, .slice D d dc] 68) = y := ⟨_, rfl⟩
          have hbN1 : Below wr.heap.size wr wN1 := by rw [← hwN1]; exact (Below.refl _ _).alloc (Nat.le_refl _) _
          have hrN1 : Rd wN1 (some ⟨wr.heap.size, 0, none⟩) [.int .i64 x, .int .i64 s, .int .u8 k, .slice D d dc] := by rw [← hwN1]; exact Rd.newN wr [.int .i64 x, .int .i64 s, .int .u8 k, .slice D d dc] _ (0, 0)
          have HwN1 := hide hwN1
          have hoN1 := own_below hown hbN1
          have szN1 := hbN1.size
          clear hwN1
          go_wp2_with (first | (with_reducible refine stop_append rfl ?_) | (with_reducible refine stop_copy rfl ?_) | (with_reducible refine stop_make rfl ?_))
          rw [HwN1.out]
          refine go_append (v := u13) rfl rfl tRows rfl hoN1 rfl (m := 1) (news := [.int .i64 x, .int .i64 s, .int .u8 k, .slice D d dc]) rfl hrN1 (by intro u hu; simp at hu; rcases hu with rfl | rfl | rfl | rfl <;> rfl) (by omega) (by omega) (by omega) ?_
          intro v5 w5 how5 hgw5 hvw5
          have hsw5 : Below w4.heap.size wr w5 := (hbN1.mono (by omega)).grown hgw5 (by omega) (fun q hq => (own_lt hown q hq).1)
          have hbw5 : Below w4.heap.size wr w5 := Below.trans (b := wr) (Below.refl _ _) hsw5
          have szw5 := hgw5.size
          have haw5 := (hacc.loB hsw5).snoc (c := x) (s := s) (k := k) (A := D) (dc := dc) hk Hd.out hdc hdm (rd_loB hrD (hbw.trans hbw5) hqD) hqD
          have hrw5 := h4.below (hbw.trans hbw5)
          have hat : ∀ (j : Nat) (u : Value), cs[j]? = some u → w5.cell? (a.add j) = some u := fun j u hu => by obtain ⟨a', ha', hc⟩ := hrw5.rd j u hu; rw [hAa0.out] at ha'; injection ha' with ha'; subst ha'; exact hc
          clear x0 y0 y1 y2 y3
          have x0 := hrw5.blk.cell (j := 0) rfl
          rw [hAa0.out] at x0
          have y0 := rd4_0 hat E0.out
          have y1 := rd4_S (i := 0) hat E1.out
          have y2 := rd4_S (i := 1) hat E2.out
          have y3 := rd4_S (i := 2) hat E3.out
          clear hat
          obtain ⟨wN2, hwN2⟩ : ∃ y, w5.alloc (.cells #[.int .i64 c9, .int .i64 s9, .int .u8 k9, .slice A9 d9 dc9] 68) = y := ⟨_, rfl⟩
          have hbN2 : Below w5.heap.size w5 wN2 := by rw [← hwN2]; exact (Below.refl _ _).alloc (Nat.le_refl _) _
          have hrN2 : Rd wN2 (some ⟨w5.heap.size, 0, none⟩) [.int .i64 c9, .int .i64 s9, .int .u8 k9, .slice A9 d9 dc9] := by rw [← hwN2]; exact Rd.newN w5 [.int .i64 c9, .int .i64 s9, .int .u8 k9, .slice A9 d9 dc9] _ (0, 0)
          have HwN2 := hide hwN2
          have hoN2 := own_below how5 hbN2
          have szN2 := hbN2.size
          clear hwN2
          go_wp2_with (first | (with_reducible refine stop_append rfl ?_) | (with_reducible refine stop_copy rfl ?_) | (with_reducible refine stop_make rfl ?_))
          rw [HwN2.out]
          refine go_append (v := v5) rfl rfl tRows rfl hoN2 rfl (m := 1) (news := [.int .i64 c9, .int .i64 s9, .int .u8 k9, .slice A9 d9 dc9]) rfl hrN2 (by intro u hu; simp at hu; rcases hu with rfl | rfl | rfl | rfl <;> rfl) (by omega) (by omega) (by omega) ?_
          intro v6 w6 how6 hgw6 hvw6
          have hsw6 : Below w4.heap.size w5 w6 := (hbN2.mono (by omega)).grown hgw6 (by omega) (fun q hq => (own_lt how5 q hq).1)
          have hbw6 : Below w4.heap.size wr w6 := Below.trans (b := w5) hbw5 hsw6
          have szw6 := hgw6.size
          have haw6 := (haw5.loB hsw6).snoc (c := c9) (s := s9) (k := k9) (A := A9) (dc := dc9) h98 H9d.out h9c h9m (rd_loB h9r (hbw.trans hbw6) h9q) h9q
          go_wp2
          go_roundw
          case rel => exact ⟨i + 1, true, acc ++ [(x, s, k, bs)] ++ [(c9, s9, k9, b9)], _, by omega, by go_num, rfl, by rw [← HI.out, HS.out]; simp, by simpa using how6, haw6, (hbw.trans hbw6), by (try simp only [List.length_append, List.length_cons, List.length_nil]); omega, by simp⟩
          case measure => simp [intOf]; omega
      · have hq1 : (bi = false → decide (x ≤ c9) = false) := fun hb => by simpa using fun hl => hin2 ⟨hb, hl⟩
        have HS := hide (hS bi)
        have hcon : (!bi && decide (x ≤ c9)) = false := by cases bi <;> simp_all
        have hor : (bi || decide (x ≤ c9)) = bi := by cases bi <;> simp_all
        rw [show ((!bi && decide ((x, s, k, bs).1 ≤ (c9, s9, k9, b9).1)) = false) from hcon, show ((bi || decide ((x, s, k, bs).1 ≤ (c9, s9, k9, b9).1)) = bi) from hor] at HS
        have hbi : bi = true ∨ (bi = false ∧ ¬ x ≤ c9) := by
          cases bi
          · exact .inr ⟨rfl, fun hl => hin2 ⟨rfl, hl⟩⟩
          · exact .inl rfl
        clear hS hq1 hcon hor hin2
        by_cases heq : c9 = x
        · have q : (c9 != x) = false := by simpa using heq
          rcases hbi with rfl | ⟨rfl, hno⟩
          · rw [if_pos heq] at HS
            clear heq
            go_wp2
            go_roundw
            case rel => exact ⟨i + 1, true, acc, _, by omega, by go_num, rfl, by rw [← HI.out, HS.out]; simp, by simpa using hown, hacc, hbw, by (try simp only [List.length_append, List.length_cons, List.length_nil]); omega, by simp⟩
            case measure => simp [intOf]; omega
          · exact absurd (by omega) hno
        · have q : (c9 != x) = true := by simpa using heq
          rw [if_neg heq] at HS
          clear heq
          rcases hbi with rfl | ⟨rfl, hno⟩
          · obtain ⟨wN1, hwN1⟩ : ∃ y, wr.alloc (.cells #[.int .i64 c9, .int .i64 s9, .int .u8 k9, .slice A9 d9 dc9] 68) = y := ⟨_, rfl⟩
            have hbN1 : Below wr.heap.size wr wN1 := by rw [← hwN1]; exact (Below.refl _ _).alloc (Nat.le_refl _) _
            have hrN1 : Rd wN1 (some ⟨wr.heap.size, 0, none⟩) [.int .i64 c9, .int .i64 s9, .int .u8 k9, .slice A9 d9 dc9] := by rw [← hwN1]; exact Rd.newN wr [.int .i64 c9, .int .i64 s9, .int .u8 k9, .slice A9 d9 dc9] _ (0, 0)
            have HwN1 := hide hwN1
            have hoN1 := own_below hown hbN1
            have szN1 := hbN1.size
            clear hwN1
            go_wp2_with (first | (with_reducible refine stop_append rfl ?_) | (with_reducible refine stop_copy rfl ?_) | (with_reducible refine stop_make rfl ?_))
            rw [HwN1.out]
            refine go_append (v := u13) rfl rfl tRows rfl hoN1 rfl (m := 1) (news := [.int .i64 c9, .int .i64 s9, .int .u8 k9, .slice A9 d9 dc9]) rfl hrN1 (by intro u hu; simp at hu; rcases hu with rfl | rfl | rfl | rfl <;> rfl) (by omega) (by omega) (by omega) ?_
            intro v5 w5 how5 hgw5 hvw5
            have hsw5 : Below w4.heap.size wr w5 := (hbN1.mono (by omega)).grown hgw5 (by omega) (fun q hq => (own_lt hown q hq).1)
            have hbw5 : Below w4.heap.size wr w5 := Below.trans (b := wr) (Below.refl _ _) hsw5
            have szw5 := hgw5.size
            have haw5 := (hacc.loB hsw5).snoc (c := c9) (s := s9) (k := k9) (A := A9) (dc := dc9) h98 H9d.out h9c h9m (rd_loB h9r (hbw.trans hbw5) h9q) h9q
            go_wp2
            go_roundw
            case rel => exact ⟨i + 1, true, acc ++ [(c9, s9, k9, b9)], _, by omega, by go_num, rfl, by rw [← HI.out, HS.out]; simp, by simpa using how5, haw5, (hbw.trans hbw5), by (try simp only [List.length_append, List.length_cons, List.length_nil]); omega, by simp⟩
            case measure => simp [intOf]; omega
          · have q3 := hal2 rfl
            obtain ⟨wN1, hwN1⟩ : ∃ y, wr.alloc (.cells #[.int .i64 c9, .int .i64 s9, .int .u8 k9, .slice A9 d9 dc9] 68) = y := ⟨_, rfl⟩
            have hbN1 : Below wr.heap.size wr wN1 := by rw [← hwN1]; exact (Below.refl _ _).alloc (Nat.le_refl _) _
            have hrN1 : Rd wN1 (some ⟨wr.heap.size, 0, none⟩) [.int .i64 c9, .int .i64 s9, .int .u8 k9, .slice A9 d9 dc9] := by rw [← hwN1]; exact Rd.newN wr [.int .i64 c9, .int .i64 s9, .int .u8 k9, .slice A9 d9 dc9] _ (0, 0)
            have HwN1 := hide hwN1
            have hoN1 := own_below hown hbN1
            have szN1 := hbN1.size
            clear hwN1
            go_wp2_with (first | (with_reducible refine stop_append rfl ?_) | (with_reducible refine stop_copy rfl ?_) | (with_reducible refine stop_make rfl ?_))
            rw [HwN1.out]
            refine go_append (v := u13) rfl rfl tRows rfl hoN1 rfl (m := 1) (news := [.int .i64 c9, .int .i64 s9, .int .u8 k9, .slice A9 d9 dc9]) rfl hrN1 (by intro u hu; simp at hu; rcases hu with rfl | rfl | rfl | rfl <;> rfl) (by omega) (by omega) (by omega) ?_
            intro v5 w5 how5 hgw5 hvw5
            have hsw5 : Below w4.heap.size wr w5 := (hbN1.mono (by omega)).grown hgw5 (by omega) (fun q hq => (own_lt hown q hq).1)
            have hbw5 : Below w4.heap.size wr w5 := Below.trans (b := wr) (Below.refl _ _) hsw5
            have szw5 := hgw5.size
            have haw5 := (hacc.loB hsw5).snoc (c := c9) (s := s9) (k := k9) (A := A9) (dc := dc9) h98 H9d.out h9c h9m (rd_loB h9r (hbw.trans hbw5) h9q) h9q
            go_wp2
            go_roundw
            case rel => exact ⟨i + 1, false, acc ++ [(c9, s9, k9, b9)], _, by omega, by go_num, rfl, by rw [← HI.out, HS.out]; simp, by simpa using how5, haw5, (hbw.trans hbw5), by (try simp only [List.length_append, List.length_cons, List.length_nil]); omega, (fun _ => by simp only [List.length_append, List.length_cons, List.length_nil]; omega)⟩
            case measure => simp [intOf]; omega
    · obtain rfl : i = n := by omega
      have R' := hB4.below hbw
      have hZ := hbw.size
      have rl := h4.blk.lt
      have fr := hr'.blk.frozen 0
      rw [List.drop_eq_nil_of_le (by omega)] at HI
      cases bi with
      | true =>
        have hF : insG (x, s, k, bs) false es = acc := HI.out.symm.trans (by simp [insG])
        obtain ⟨A1, c1, hv1, hl1, hc1, hcm1, hr1, ha1⟩ := own_out hown
        have hbf := hb04.trans ((hbw.trans (Below.refl _ _)).mono (hb04.size))
        have hszf := hbf.size
        obtain ⟨M, hM⟩ : ∃ M, acc.length = M := ⟨_, rfl⟩
        have hmm : M = acc.length := hM.symm
        have hMc : M ≤ c1 := by rw [hmm]; simpa using hc1
        have hfin := finR (T := 0) (h4.below (hbw.trans (Below.refl _ _))).blk hacc hM hr1 (fun a ha e => by have := (ha1 a ha).1; omega) hMc (by unfold maxLen at hcm1; omega)
        have hvM : (.slice A1 (acc.length) c1 : Value) = .slice A1 M c1 := by rw [hM]
        have HF := hide hF
        have Hfin := hide hfin
        have HM := hide hM
        have Hv1 := hide hv1
        clear hF hv1 hfin hM hmm hvM hl1 hr1
        have hvv := Hv1.out
        have hg := grown_chain (grown_of_below hbf (some r)) (grown_set wr ⟨r, 0, none⟩ (.slice A1 M c1)) (.inl rfl)
        have Hg := hide hg
        clear hg
        obtain rfl : u13 = .slice A1 M c1 := by first | (rw [hvv, HM.out]) | (rw [hvv, ← HM.out]; simp)
        clear hvv
        go_wp2
        go_ret
        exact ⟨rfl, ⟨A1, c1, by rw [HF.out, HM.out]; exact ⟨_, Hfin.out⟩⟩, Hg.out⟩
      | false =>
        have q3 := hal2 rfl
        have r0 := R'.cell (j := 0) rfl
        have r1 := R'.cell (j := 1) rfl
        have r2 := R'.cell (j := 2) rfl
        have r3 := R'.cell (j := 3) rfl
        obtain ⟨wN1, hwN1⟩ : ∃ y, wr.alloc (.cells #[.int .i64 x, .int .i64 s, .int .u8 k, .slice D d dc] 68) = y := ⟨_, rfl⟩
        have hbN1 : Below wr.heap.size wr wN1 := by rw [← hwN1]; exact (Below.refl _ _).alloc (Nat.le_refl _) _
        have hrN1 : Rd wN1 (some ⟨wr.heap.size, 0, none⟩) [.int .i64 x, .int .i64 s, .int .u8 k, .slice D d dc] := by rw [← hwN1]; exact Rd.newN wr [.int .i64 x, .int .i64 s, .int .u8 k, .slice D d dc] _ (0, 0)
        have HwN1 := hide hwN1
        have hoN1 := own_below hown hbN1
        have szN1 := hbN1.size
        clear hwN1
        go_wp2_with (first | (with_reducible refine stop_append rfl ?_) | (with_reducible refine stop_copy rfl ?_) | (with_reducible refine stop_make rfl ?_))
        rw [HwN1.out]
        refine go_append (v := u13) rfl rfl tRows rfl hoN1 rfl (m := 1) (news := [.int .i64 x, .int .i64 s, .int .u8 k, .slice D d dc]) rfl hrN1 (by intro u hu; simp at hu; rcases hu with rfl | rfl | rfl | rfl <;> rfl) (by omega) (by omega) (by omega) ?_
        intro v5 w5 how5 hgw5 hvw5
        have hsw5 : Below w4.heap.size wr w5 := (hbN1.mono (by omega)).grown hgw5 (by omega) (fun q hq => (own_lt hown q hq).1)
        have hbw5 : Below w4.heap.size wr w5 := Below.trans (b := wr) (Below.refl _ _) hsw5
        have szw5 := hgw5.size
        have haw5 := (hacc.loB hsw5).snoc (c := x) (s := s) (k := k) (A := D) (dc := dc) hk Hd.out hdc hdm (rd_loB hrD (hbw.trans hbw5) hqD) hqD
        have hrw5 := h4.below (hbw.trans hbw5)
        clear x0 fr
        have x0 := hrw5.blk.cell (j := 0) rfl
        have fr := hrw5.blk.frozen 0
        have hF : insG (x, s, k, bs) false es = (acc ++ [(x, s, k, bs)]) := HI.out.symm.trans (by simp [insG])
        obtain ⟨A1, c1, hv1, hl1, hc1, hcm1, hr1, ha1⟩ := own_out how5
        have hbf := hb04.trans ((hbw.trans hbw5).mono (hb04.size))
        have hszf := hbf.size
        obtain ⟨M, hM⟩ : ∃ M, (acc ++ [(x, s, k, bs)]).length = M := ⟨_, rfl⟩
        have hmm : M = (acc ++ [(x, s, k, bs)]).length := hM.symm
        have hMc : M ≤ c1 := by rw [hmm]; simpa using hc1
        have hfin := finR (T := 0) (h4.below (hbw.trans hbw5)).blk haw5 hM hr1 (fun a ha e => by have := (ha1 a ha).1; omega) hMc (by unfold maxLen at hcm1; omega)
        have hvM : (.slice A1 ((acc ++ [(x, s, k, bs)]).length) c1 : Value) = .slice A1 M c1 := by rw [hM]
        have HF := hide hF
        have Hfin := hide hfin
        have HM := hide hM
        have Hv1 := hide hv1
        clear hF hv1 hfin hM hmm hvM hl1 hr1
        have hvv := Hv1.out
        have hg := grown_chain (grown_of_below hbf (some r)) (grown_set w5 ⟨r, 0, none⟩ (.slice A1 M c1)) (.inl rfl)
        have Hg := hide hg
        clear hg
        obtain rfl : v5 = .slice A1 M c1 := by first | (rw [hvv, HM.out]) | (rw [hvv, ← HM.out]; simp)
        clear hvv
        go_wp2
        go_ret
        exact ⟨rfl, ⟨A1, c1, by rw [HF.out, HM.out]; exact ⟨_, Hfin.out⟩⟩, Hg.out⟩

end Go.Proofs.Ytplodjccjobjbaa
