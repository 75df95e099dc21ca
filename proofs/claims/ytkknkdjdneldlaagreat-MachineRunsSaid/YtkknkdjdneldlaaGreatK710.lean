/- Texts joined (shake.py). -/
import Derived.Test.YtkknkdjdneldlaaGreatK76
namespace Go.Proofs.YtkknkdjdneldlaaGreat
set_option maxRecDepth 20000
open Go.RowKit Go.Px Go.Maps
set_option linter.unusedVariables false
/-- A row laid among rows, by client: what the loop still makes. -/
def insG (row : RowT) : Bool → List RowT → List RowT
  | b, [] => if b then [] else [row]
  | b, x :: xs => (if !b && decide (row.1 ≤ x.1) then [row] else []) ++ ((if x.1 = row.1 then [] else [x]) ++ insG row (b || decide (row.1 ≤ x.1)) xs)
theorem insG_true (row : RowT) : ∀ (es : List RowT), insG row true es = es.filter fun x => !decide (x.1 = row.1)
  | [] => rfl
  | x :: xs => by
    simp only [insG, insG_true row xs, Bool.not_true, Bool.false_and, Bool.true_or]
    by_cases h : x.1 = row.1 <;> simp [h]
theorem insG_mem (row : RowT) : ∀ (es : List RowT) (e : RowT), e ∈ insG row false es ↔ e = row ∨ (e ∈ es ∧ e.1 ≠ row.1)
  | [], e => by simp [insG]
  | x :: xs, e => by
    have ih := insG_mem row xs e
    by_cases h1 : row.1 ≤ x.1
    · simp only [insG, h1, decide_true, Bool.not_false, Bool.and_self, if_true, Bool.or_true, insG_true]
      by_cases h2 : x.1 = row.1
      · simp [h2]
        constructor
        · rintro (h | ⟨h, h'⟩)
          · exact .inl h
          · exact .inr ⟨.inr h, h'⟩
        · rintro (h | ⟨h | h, h'⟩)
          · exact .inl h
          · subst h; exact absurd h2 h'
          · exact .inr ⟨h, h'⟩
      · simp [h2]
        constructor
        · rintro (h | h | ⟨h, h'⟩)
          · exact .inl h
          · subst h; exact .inr ⟨.inl rfl, h2⟩
          · exact .inr ⟨.inr h, h'⟩
        · rintro (h | ⟨h | h, h'⟩)
          · exact .inl h
          · exact .inr (.inl h)
          · exact .inr (.inr ⟨h, h'⟩)
    · have h2 : x.1 ≠ row.1 := by omega
      simp only [insG, h1, h2, decide_false, Bool.and_false, Bool.or_self, if_false, Bool.false_eq_true]
      simp [ih]
      constructor
      · rintro (h | h | ⟨h, h'⟩)
        · subst h; exact .inr ⟨.inl rfl, h2⟩
        · exact .inl h
        · exact .inr ⟨.inr h, h'⟩
      · rintro (h | ⟨h | h, h'⟩)
        · exact .inr (.inl h)
        · exact .inl h
        · exact .inr (.inr ⟨h, h'⟩)
theorem insG_srt (row : RowT) : ∀ (es : List RowT), es.Pairwise (fun x y => x.1 < y.1) → (insG row false es).Pairwise (fun x y => x.1 < y.1)
  | [], _ => by simp [insG]
  | x :: xs, h => by
    obtain ⟨hx, hs⟩ := List.pairwise_cons.1 h
    by_cases h1 : row.1 ≤ x.1
    · simp only [insG, h1, decide_true, Bool.not_false, Bool.and_self, if_true, Bool.or_true, insG_true]
      have hf : (xs.filter fun y => !decide (y.1 = row.1)).Pairwise (fun x y => x.1 < y.1) := hs.filter _
      by_cases h2 : x.1 = row.1
      · simp only [h2, if_true, List.nil_append, List.cons_append]
        refine List.pairwise_cons.2 ⟨fun e he => ?_, hf⟩
        have := hx e (List.mem_filter.1 he).1
        omega
      · simp only [h2, if_false, List.nil_append, List.cons_append]
        refine List.pairwise_cons.2 ⟨fun e he => ?_, List.pairwise_cons.2 ⟨fun e he => hx e (List.mem_filter.1 he).1, hf⟩⟩
        rcases List.mem_cons.1 he with rfl | he
        · omega
        · have := hx e (List.mem_filter.1 he).1; omega
    · have h2 : x.1 ≠ row.1 := by omega
      simp only [insG, h1, h2, decide_false, Bool.and_false, Bool.or_self, if_false, Bool.false_eq_true, List.nil_append, List.cons_append]
      refine List.pairwise_cons.2 ⟨fun e he => ?_, insG_srt row xs hs⟩
      rcases (insG_mem row xs e).1 he with rfl | ⟨he, _⟩
      · omega
      · exact hx e he
theorem filter_ne_len {c : Int} : ∀ {es : List RowT}, (∀ e ∈ es, e.1 ≠ c) → (es.filter fun x => !decide (x.1 = c)).length = es.length := by
  intro es h
  rw [List.filter_eq_self.2]
  intro e he
  simpa using h e he
theorem insG_len (row : RowT) : ∀ (es : List RowT), es.Pairwise (fun x y => x.1 < y.1) → ((∀ e ∈ es, e.1 ≠ row.1) → (insG row false es).length = es.length + 1) ∧ ((∃ e ∈ es, e.1 = row.1) → (insG row false es).length = es.length)
  | [], _ => by simp [insG]
  | x :: xs, h => by
    obtain ⟨hx, hs⟩ := List.pairwise_cons.1 h
    obtain ⟨i1, i2⟩ := insG_len row xs hs
    by_cases h1 : row.1 ≤ x.1
    · simp only [insG, h1, decide_true, Bool.not_false, Bool.and_self, if_true, Bool.or_true, insG_true]
      have hne : ∀ e ∈ xs, e.1 ≠ row.1 := fun e he => by have := hx e he; omega
      by_cases h2 : x.1 = row.1
      · refine ⟨fun hn => absurd h2 (hn x (by simp)), fun _ => ?_⟩
        simp [h2, filter_ne_len hne]
      · refine ⟨fun hn => by simp [h2, filter_ne_len hne], ?_⟩
        rintro ⟨e, he, hee⟩
        rcases List.mem_cons.1 he with rfl | he
        · exact absurd hee h2
        · exact absurd hee (hne e he)
    · have h2 : x.1 ≠ row.1 := by omega
      simp only [insG, h1, h2, decide_false, Bool.and_false, Bool.or_self, if_false, Bool.false_eq_true, List.nil_append, List.cons_append, List.length_cons]
      refine ⟨fun hn => by rw [i1 (fun e he => hn e (List.mem_cons_of_mem _ he))], ?_⟩
      rintro ⟨e, he, hee⟩
      rcases List.mem_cons.1 he with rfl | he
      · exact absurd hee h2
      · rw [i2 ⟨e, he, hee⟩]
theorem insG_tb {m : TM} {es : List RowT} (h : TbOf m es) (c s : Int) (k : Nat) (bs : List UInt8) : TbOf (tmPut m c s k bs) (insG (c, s, k, bs) false es) := by
  refine ⟨fun e => ?_, insG_srt _ _ h.srt⟩
  rw [insG_mem]
  unfold tmPut
  by_cases hc : e.1 = c
  · rw [if_pos hc]
    constructor
    · rintro (rfl | ⟨_, h'⟩)
      · rfl
      · exact absurd hc h'
    · intro h'
      injection h' with h'
      exact .inl (by obtain ⟨a, b⟩ := e; simp at hc h'; subst hc h'; rfl)
  · rw [if_neg hc, ← h.mem]
    constructor
    · rintro (rfl | ⟨h', _⟩)
      · exact absurd rfl hc
      · exact h'
    · exact fun h' => .inr ⟨h', hc⟩
theorem insG_size {m : TM} {es : List RowT} (h : TbOf m es) (c s : Int) (k : Nat) (bs : List UInt8) : (insG (c, s, k, bs) false es).length = if (m c).isSome then es.length else es.length + 1 := by
  obtain ⟨h1, h2⟩ := insG_len (c, s, k, bs) es h.srt
  cases hm : m c with
  | none => simp; exact h1 fun e he => h.atN hm he
  | some y => simp; exact h2 ⟨(c, y), (h.mem _).2 hm, rfl⟩
/-- What Put tells. -/
def putV (m : TM) (S : Nat) (c s : Int) (k d : Nat) : Int :=
  if (askV m S c s).2.1 = 0 then
    if rsE k d = 0 then
      if (askV m S c s).1 = 4 then 3 else if (askV m S c s).1 = 1 then 0 else 1
    else 60
  else (askV m S c s).2.1
set_option maxRecDepth 20000 in
set_option maxHeartbeats 3200000 in
theorem rput_bad {w : World} {r : Nat} {A : Option Addr} {n c : Nat} {cs : List Value} {es : List RowT} (h : RfIs w r A n c cs es) {m : TM} (ht : TbOf m es) (x s : Int) (k : Nat) (D : Option Addr) (d dc : Nat) (bs : List UInt8) (hk : k < 256) (hd : bs.length = d) (hdc : d ≤ dc) (hdm : dc ≤ 9223372036854775807) (hr : Rd w D (bys bs)) (hE : (askV m n x s).2.1 ≠ 0) : Calls Tryz.prog 48 #[.pointer (some ⟨r, 0, none⟩), .int .i64 x, .int .i64 s, resv k D d dc] w fun e w' => e = .returned (.int .i64 (askV m n x s).2.1) ∧ Below w.heap.size w w' := by
  obtain ⟨w0, hw0⟩ : ∃ x, w.alloc (.cells #[.int .u8 k, .slice D d dc] 40) = x := ⟨_, rfl⟩
  have hBP : Blk w0 w.heap.size [.int .u8 k, .slice D d dc] 40 := by rw [← hw0]; exact Blk.new w [.int .u8 k, .slice D d dc] _
  have hbw0 : Below w.heap.size w w0 := by rw [← hw0]; exact (Below.refl _ _).alloc (Nat.le_refl _) _
  have Hw0 := hide hw0
  clear hw0
  have h0 := h.below hbw0
  have p0 := hBP.cell (j := 0) rfl
  have p1 := hBP.cell (j := 1) rfl
  have Hd := hide hd
  clear hd
  go_enter Tryz.func48, Tryz.ntmps48
  go_wp2_with fail
  rw [Hw0.out]
  go_fit (rask_any h0 ht x s)
  rintro xx w1 ⟨D1, d1, dc1, rfl, hd1, hdc1, hdm1, hk1, hr1, hb1⟩
  have hb01 := hbw0.trans (hb1.mono hbw0.size)
  obtain ⟨E, hEE⟩ : ∃ E, (askV m n x s).2.1 = E := ⟨_, rfl⟩
  rw [hEE] at hE ⊢
  have q : (E != 0) = true := by simpa using hE
  have HEE := hide hEE
  clear hEE hE
  go_wp2
  go_ret
  exact ⟨by rw [HEE.out]; rfl, hb01.trans ((Below.refl _ _).alloc (by have := hb01.size; omega) _)⟩

set_option maxRecDepth 20000 in
set_option maxHeartbeats 3200000 in
theorem rput_badR {w : World} {r : Nat} {A : Option Addr} {n c : Nat} {cs : List Value} {es : List RowT} (h : RfIs w r A n c cs es) {m : TM} (ht : TbOf m es) (x s : Int) (k : Nat) (D : Option Addr) (d dc : Nat) (bs : List UInt8) (hk : k < 256) (hd : bs.length = d) (hdc : d ≤ dc) (hdm : dc ≤ 9223372036854775807) (hr : Rd w D (bys bs)) (hE : (askV m n x s).2.1 = 0) (hR : rsE k d ≠ 0) : Calls Tryz.prog 48 #[.pointer (some ⟨r, 0, none⟩), .int .i64 x, .int .i64 s, resv k D d dc] w fun e w' => e = .returned (.int .i64 60) ∧ Below w.heap.size w w' := by
  have hV : True := trivial
  obtain ⟨w0, hw0⟩ : ∃ x, w.alloc (.cells #[.int .u8 k, .slice D d dc] 40) = x := ⟨_, rfl⟩
  have hBP : Blk w0 w.heap.size [.int .u8 k, .slice D d dc] 40 := by rw [← hw0]; exact Blk.new w [.int .u8 k, .slice D d dc] _
  have hbw0 : Below w.heap.size w w0 := by rw [← hw0]; exact (Below.refl _ _).alloc (Nat.le_refl _) _
  have Hw0 := hide hw0
  clear hw0
  have h0 := h.below hbw0
  have p0 := hBP.cell (j := 0) rfl
  have p1 := hBP.cell (j := 1) rfl
  have Hd := hide hd
  clear hd
  go_enter Tryz.func48, Tryz.ntmps48
  go_wp2_with fail
  rw [Hw0.out]
  go_fit (rask_any h0 ht x s)
  rintro xx w1 ⟨D1, d1, dc1, rfl, hd1, hdc1, hdm1, hk1, hr1, hb1⟩
  have hb01 := hbw0.trans (hb1.mono hbw0.size)
  obtain ⟨V, hVV⟩ : ∃ V, (askV m n x s).1 = V := ⟨_, rfl⟩
  rw [hE]
  first | rw [hVV] at hV ⊢ | rw [hVV]
  obtain ⟨k1, hkk⟩ : ∃ k1, (askV m n x s).2.2.1 = k1 := ⟨_, rfl⟩
  rw [hkk]
  clear hVV hkk hd1 hr1 hk1 hE
  have hbA : Below w1.heap.size w1 (w1.alloc (.cells #[.int .u8 k1, .slice D1 d1 dc1] 40)) := (Below.refl _ _).alloc (Nat.le_refl _) _
  have hb02 := hb01.trans (hbA.mono hb01.size)
  have hP1 := hBP.below hb1
  clear p0 p1
  have p0 := (hP1.alloc (.cells #[.int .u8 k1, .slice D1 d1 dc1] 40)).cell (j := 0) rfl
  have p1 := (hP1.alloc (.cells #[.int .u8 k1, .slice D1 d1 dc1] 40)).cell (j := 1) rfl
  have HV := hide hV
  clear hV
  go_wp2_with fail
  go_fit (rresult_any k D d dc _ hk)
  rintro xx w3 ⟨rfl, hb3⟩
  have hb03 := hb02.trans (hb3.mono hb02.size)
  have q : (rsE k d != 0) = true := by simpa using hR
  obtain ⟨E, hEE⟩ : ∃ E, rsE k d = E := ⟨_, rfl⟩
  rw [hEE] at q ⊢
  go_wp2
  go_ret
  exact ⟨rfl, hb03⟩

set_option maxRecDepth 20000 in
set_option maxHeartbeats 3200000 in
theorem rput_full {w : World} {r : Nat} {A : Option Addr} {n c : Nat} {cs : List Value} {es : List RowT} (h : RfIs w r A n c cs es) {m : TM} (ht : TbOf m es) (x s : Int) (k : Nat) (D : Option Addr) (d dc : Nat) (bs : List UInt8) (hk : k < 256) (hd : bs.length = d) (hdc : d ≤ dc) (hdm : dc ≤ 9223372036854775807) (hr : Rd w D (bys bs)) (hE : (askV m n x s).2.1 = 0) (hR : rsE k d = 0) (hV : (askV m n x s).1 = 4) : Calls Tryz.prog 48 #[.pointer (some ⟨r, 0, none⟩), .int .i64 x, .int .i64 s, resv k D d dc] w fun e w' => e = .returned (.int .i64 3) ∧ Below w.heap.size w w' := by
  obtain ⟨w0, hw0⟩ : ∃ x, w.alloc (.cells #[.int .u8 k, .slice D d dc] 40) = x := ⟨_, rfl⟩
  have hBP : Blk w0 w.heap.size [.int .u8 k, .slice D d dc] 40 := by rw [← hw0]; exact Blk.new w [.int .u8 k, .slice D d dc] _
  have hbw0 : Below w.heap.size w w0 := by rw [← hw0]; exact (Below.refl _ _).alloc (Nat.le_refl _) _
  have Hw0 := hide hw0
  clear hw0
  have h0 := h.below hbw0
  have p0 := hBP.cell (j := 0) rfl
  have p1 := hBP.cell (j := 1) rfl
  have Hd := hide hd
  clear hd
  go_enter Tryz.func48, Tryz.ntmps48
  go_wp2_with fail
  rw [Hw0.out]
  go_fit (rask_any h0 ht x s)
  rintro xx w1 ⟨D1, d1, dc1, rfl, hd1, hdc1, hdm1, hk1, hr1, hb1⟩
  have hb01 := hbw0.trans (hb1.mono hbw0.size)
  obtain ⟨V, hVV⟩ : ∃ V, (askV m n x s).1 = V := ⟨_, rfl⟩
  rw [hE]
  first | rw [hVV] at hV ⊢ | rw [hVV]
  obtain ⟨k1, hkk⟩ : ∃ k1, (askV m n x s).2.2.1 = k1 := ⟨_, rfl⟩
  rw [hkk]
  clear hVV hkk hd1 hr1 hk1 hE
  have hbA : Below w1.heap.size w1 (w1.alloc (.cells #[.int .u8 k1, .slice D1 d1 dc1] 40)) := (Below.refl _ _).alloc (Nat.le_refl _) _
  have hb02 := hb01.trans (hbA.mono hb01.size)
  have hP1 := hBP.below hb1
  clear p0 p1
  have p0 := (hP1.alloc (.cells #[.int .u8 k1, .slice D1 d1 dc1] 40)).cell (j := 0) rfl
  have p1 := (hP1.alloc (.cells #[.int .u8 k1, .slice D1 d1 dc1] 40)).cell (j := 1) rfl
  have HV := hide hV
  clear hV
  go_wp2_with fail
  go_fit (rresult_any k D d dc _ hk)
  rintro xx w3 ⟨rfl, hb3⟩
  have hb03 := hb02.trans (hb3.mono hb02.size)
  rw [HV.out]
  rw [hR]
  go_wp2
  go_ret
  exact ⟨rfl, hb03⟩

set_option maxRecDepth 20000 in
set_option maxHeartbeats 3200000 in
theorem rput_arg {w : World} {r : Nat} {A : Option Addr} {n c : Nat} {cs : List Value} {es : List RowT} (h : RfIs w r A n c cs es) {m : TM} (ht : TbOf m es) (x s : Int) (k : Nat) (D : Option Addr) (d dc : Nat) (bs : List UInt8) (hk : k < 256) (hd : bs.length = d) (hdc : d ≤ dc) (hdm : dc ≤ 9223372036854775807) (hr : Rd w D (bys bs)) (hE : (askV m n x s).2.1 = 0) (hR : rsE k d = 0) (hV : (askV m n x s).1 ≠ 1 ∧ (askV m n x s).1 ≠ 4) : Calls Tryz.prog 48 #[.pointer (some ⟨r, 0, none⟩), .int .i64 x, .int .i64 s, resv k D d dc] w fun e w' => e = .returned (.int .i64 1) ∧ Below w.heap.size w w' := by
  obtain ⟨w0, hw0⟩ : ∃ x, w.alloc (.cells #[.int .u8 k, .slice D d dc] 40) = x := ⟨_, rfl⟩
  have hBP : Blk w0 w.heap.size [.int .u8 k, .slice D d dc] 40 := by rw [← hw0]; exact Blk.new w [.int .u8 k, .slice D d dc] _
  have hbw0 : Below w.heap.size w w0 := by rw [← hw0]; exact (Below.refl _ _).alloc (Nat.le_refl _) _
  have Hw0 := hide hw0
  clear hw0
  have h0 := h.below hbw0
  have p0 := hBP.cell (j := 0) rfl
  have p1 := hBP.cell (j := 1) rfl
  have Hd := hide hd
  clear hd
  go_enter Tryz.func48, Tryz.ntmps48
  go_wp2_with fail
  rw [Hw0.out]
  go_fit (rask_any h0 ht x s)
  rintro xx w1 ⟨D1, d1, dc1, rfl, hd1, hdc1, hdm1, hk1, hr1, hb1⟩
  have hb01 := hbw0.trans (hb1.mono hbw0.size)
  obtain ⟨V, hVV⟩ : ∃ V, (askV m n x s).1 = V := ⟨_, rfl⟩
  rw [hE]
  first | rw [hVV] at hV ⊢ | rw [hVV]
  obtain ⟨k1, hkk⟩ : ∃ k1, (askV m n x s).2.2.1 = k1 := ⟨_, rfl⟩
  rw [hkk]
  clear hVV hkk hd1 hr1 hk1 hE
  have hbA : Below w1.heap.size w1 (w1.alloc (.cells #[.int .u8 k1, .slice D1 d1 dc1] 40)) := (Below.refl _ _).alloc (Nat.le_refl _) _
  have hb02 := hb01.trans (hbA.mono hb01.size)
  have hP1 := hBP.below hb1
  clear p0 p1
  have p0 := (hP1.alloc (.cells #[.int .u8 k1, .slice D1 d1 dc1] 40)).cell (j := 0) rfl
  have p1 := (hP1.alloc (.cells #[.int .u8 k1, .slice D1 d1 dc1] 40)).cell (j := 1) rfl
  have HV := hide hV
  clear hV
  go_wp2_with fail
  go_fit (rresult_any k D d dc _ hk)
  rintro xx w3 ⟨rfl, hb3⟩
  have hb03 := hb02.trans (hb3.mono hb02.size)
  have q1 : (V == 4) = false := by simpa using HV.out.2
  have q2 : (V != 1) = true := by simpa using HV.out.1
  rw [hR]
  go_wp2
  go_ret
  exact ⟨rfl, hb03⟩

theorem grown_set (w : World) (a : Addr) (u : Value) : w.grownBy (w.setCell a u) (some a.block) := ⟨rfl, rfl, rfl, by simp, fun k _ hne => Below.heap_setCell w a u k (fun e => hne (by rw [e]))⟩
theorem blk_cell_inv {w : World} {g : Nat} {vs : List Value} {T : TypeId} (h : Blk w g vs T) {a : Addr} {u : Value} (ha : a.block = g) (hc : w.cell? a = some u) : ∃ j : Nat, (vs : List Value)[j]? = some u := by
  unfold World.cell? at hc
  rw [ha, h] at hc
  simp only at hc
  split at hc
  · cases hc
  · exact ⟨a.off, by simpa using hc⟩
/-- What reads as integers lies apart from a block that holds one slice. -/
theorem rd_sepV {w : World} {r n c : Nat} {A0 : Option Addr} {T : TypeId} (hB : Blk w r [.slice A0 n c] T) {A : Option Addr} {xs : List Value} (h : Rd w A xs) {k : IntKind} {y : Int} (hx : xs[0]? = some (.int k y)) : ∀ a, A = some a → a.block ≠ r := by
  rintro a rfl e
  have := h.at_ hx
  obtain ⟨j, hj⟩ := blk_cell_inv hB (a := a.add 0) (by rw [add_block]; exact e) this
  cases j <;> simp at hj
theorem finR {w : World} {r n c : Nat} {A : Option Addr} {T : TypeId} (hB : Blk w r [.slice A n c] 98) {Q : Nat → Prop} {acc : List RowT} {vs : List Value} (hacc : RwRows w Q vs acc) {A1 : Option Addr} {c1 m : Nat} (hm : acc.length = m) (hr : Rd w A1 vs) (hA1 : ∀ a, A1 = some a → a.block ≠ r) (hc : m ≤ c1) (hcm : c1 ≤ 9223372036854775807) :
    RfIs (w.setCell ⟨r, 0, none⟩ (.slice A1 m c1)) r A1 m c1 vs acc := by
  have hg := grown_set w ⟨r, 0, none⟩ (.slice A1 m c1)
  refine ⟨hB.set 0 _, hm, hc, hcm, hr.grown hg (fun a ha e => hA1 a ha (Option.some.inj e)), hacc.1, fun j e he => ?_⟩
  obtain ⟨D, d, dc, h1, h2, h3, h4, h5, h6, h7, h8, h9, h10⟩ := hacc.2 j e he
  refine ⟨D, d, dc, h1, h2, h3, h4, h5, h6, h7, h8, ?_, fun _ _ _ => trivial⟩
  cases hb : e.2.2.2 with
  | nil => exact Rd.nil
  | cons b bs =>
    rw [hb] at h9
    exact h9.grown hg (fun a ha e' => rd_sepV hB h9 (k := .u8) (y := (b.toNat : Int)) rfl a ha (Option.some.inj e'))
theorem insG_step {row : RowT} {bi : Bool} {es : List RowT} {i : Nat} {e : RowT} (he : es[i]? = some e) : insG row bi (es.drop i) = (if !bi && decide (row.1 ≤ e.1) then [row] else []) ++ ((if e.1 = row.1 then [] else [e]) ++ insG row (bi || decide (row.1 ≤ e.1)) (es.drop (i + 1))) := by
  rw [drop_cons he]; rfl
end Go.Proofs.YtkknkdjdneldlaaGreat
namespace Go.Proofs.YtkknkdjdneldlaaGreat
set_option maxRecDepth 20000
open Go.RowKit Go.Px Go.Maps
set_option linter.unusedVariables false
section
variable {w w' : World} {B t bm N : Nat} {D : DataW Value} {m : TM} {r : Nat} {A : Option Addr} {n c : Nat} {cs : List Value} {es : List RowT}
/-! ### what a store into the map, or into the document's table, leaves -/
theorem TabIs.upto {w : World} {B t bm N N' : Nat} {D : DataW Value} {m : TM} (h : TabIs w B t bm N D m) (hN : N ≤ N') : TabIs w B t bm N' D m :=
  { blk := h.blk, own := h.own.mono hN, at_ := h.at_, ne := h.ne, hB := h.hB }
/-! ### what Put makes -/
theorem askV_none {m : TM} {S : Nat} {x s : Int} (h : (askV m S x s).2.1 = 0) : serB x = true ∧ serB s = true := by
  rcases serB_two (x := x) (s := s) with hb | hb
  · rw [askV_bad hb] at h; cases h
  · exact hb
theorem askV_new {m : TM} {S : Nat} {x s : Int} (h : (askV m S x s).1 = 1) : m x = none → S < 64 := by
  intro hm
  unfold askV at h
  split at h
  · rw [hm] at h
    by_cases hS : 64 ≤ S
    · rw [if_pos hS] at h; cases h
    · omega
  · cases h
theorem putV_zero {m : TM} {S : Nat} {x s : Int} {k d : Nat} (h : putV m S x s k d = 0) : (askV m S x s).2.1 = 0 ∧ rsE k d = 0 ∧ (askV m S x s).1 = 1 := by
  unfold putV at h
  by_cases h1 : (askV m S x s).2.1 = 0
  · rw [if_pos h1] at h
    by_cases h2 : rsE k d = 0
    · rw [if_pos h2] at h
      by_cases h3 : (askV m S x s).1 = 4
      · rw [if_pos h3] at h; cases h
      · rw [if_neg h3] at h
        by_cases h4 : (askV m S x s).1 = 1
        · exact ⟨h1, h2, h4⟩
        · rw [if_neg h4] at h; cases h
    · rw [if_neg h2] at h; cases h
  · rw [if_neg h1] at h; exact absurd h h1
def putM (m : TM) (S : Nat) (x s : Int) (k d : Nat) (bs : List UInt8) : TM := if putV m S x s k d = 0 then tmPut m x s k bs else m
def putS (m : TM) (S : Nat) (x s : Int) (k d : Nat) : Nat := if putV m S x s k d = 0 then szNew m x S else S
/-- What Put of the table leaves. -/
def PutT (B t bm N : Nat) (m' : TM) (S' : Nat) (w w' : World) : Prop := (∃ N' D', TabIs w' B t bm N' D' m' ∧ N' ≤ N + 1 ∧ Maps.size D' = S') ∧ w.grownBy w' (some bm) ∧ w.heap.size ≤ w'.heap.size
theorem PutT.same (h : TabIs w B t bm N D m) (hb : Below w.heap.size w w') : PutT B t bm N m (Maps.size D) w w' := ⟨⟨N, D, h.below hb, by omega, rfl⟩, grown_of_below hb _, hb.size⟩
/-- What Put of the document's leaves. -/
def PutR (r : Nat) (m' : TM) (S' : Nat) (w w' : World) : Prop := (∃ A' c' cs' es', RfIs w' r A' S' c' cs' es' ∧ TbOf m' es') ∧ w.grownBy w' (some r)
theorem PutR.same (h : RfIs w r A n c cs es) (ht : TbOf m es) (hb : Below w.heap.size w w') : PutR r m n w w' := ⟨⟨A, c, cs, es, h.below hb, ht⟩, grown_of_below hb _⟩
end
/-! ### the document's Load, begin -/
theorem rows_one {w : World} {Q : Nat → Prop} {cs : List Value} {es : List RowT} (h : RwRows w Q cs es) : ∀ u ∈ cs, u.oneCell' = true := by
  intro u hu
  obtain ⟨j, hj, rfl⟩ := List.mem_iff_getElem.1 hu
  have hl := h.1
  have hq : j / 4 < es.length := by omega
  obtain ⟨A, d, dc, h1, h2, h3, h4, _⟩ := h.2 (j / 4) _ (List.getElem?_eq_getElem hq)
  have hj' : cs[j]? = some cs[j] := List.getElem?_eq_getElem hj
  have h4' : j % 4 = 0 ∨ j % 4 = 1 ∨ j % 4 = 2 ∨ j % 4 = 3 := by omega
  rcases h4' with e | e | e | e
  · rw [show 4 * (j / 4) = j by omega, hj'] at h1; injection h1 with h1; rw [h1]; rfl
  · rw [show 4 * (j / 4) + 1 = j by omega, hj'] at h2; injection h2 with h2; rw [h2]; rfl
  · rw [show 4 * (j / 4) + 2 = j by omega, hj'] at h3; injection h3 with h3; rw [h3]; rfl
  · rw [show 4 * (j / 4) + 3 = j by omega, hj'] at h4; injection h4 with h4; rw [h4]; rfl
end Go.Proofs.YtkknkdjdneldlaaGreat
