/- Texts joined (shake.py). -/
import Derived.Deep.RegionHeldLaw
import Derived.Test.YtkknkdjdneldlaaGreatK61
import Derived.Test.YtkknkdjdneldlaaGreatK64
import Derived.Test.YtkknkdjdneldlaaGreatK66
import Derived.Test.YtkknkdjdneldlaaGreatK67
import Derived.Test.YtkknkdjdneldlaaGreatK68
import Derived.Test.YtkknkdjdneldlaaGreatK617
namespace Go.Proofs.YtkknkdjdneldlaaGreat
set_option maxRecDepth 20000
open Go.RowKit Go.Px Go.Maps
set_option linter.unusedVariables false
section
variable {w w' : World} {B t bm N : Nat} {D : DataW Value} {m : TM}
/-- What Put of the table leaves, with where its data lie. -/
def PutT7 (B t bm N : Nat) (D : DataW Value) (m m' : TM) (S' : Nat) (w w' : World) : Prop := (∃ N' D', TabIs w' B t bm N' D' m' ∧ N' ≤ N + 1 ∧ Maps.size D' = S' ∧ ∀ P : Nat → Prop, DataAt w D m P → (∀ b, w.heap.size ≤ b → P b) → DataAt w' D' m' P) ∧ w.grownBy w' (some bm) ∧ w.heap.size ≤ w'.heap.size
theorem PutT7.same (h : TabIs w B t bm N D m) (hb : Below w.heap.size w w') : PutT7 B t bm N D m m (Maps.size D) w w' := ⟨⟨N, D, h.below hb, by omega, rfl, fun P h1 _ => fun c s k bs A d dc h3 h4 h5 a ha => h1 c s k bs A d dc h3 h4 h5 a ha⟩, grown_of_below hb _, hb.size⟩
theorem put_any7 (h : TabIs w B t bm N D m) (x s : Int) (k : Nat) (A : Option Addr) (d dc : Nat) (bs : List UInt8) (hk : k < 256) (hd : bs.length = d) (hdc : d ≤ dc) (hdm : dc ≤ 9223372036854775807) (hr : Rd w A (bys bs)) (hn : N < 1099511627776) :
    Calls Tryz.prog 45 #[.pointer (some ⟨t, 0, none⟩), .int .i64 x, .int .i64 s, resv k A d dc] w fun e w' => e = .returned (.int .i64 (putV m (Maps.size D) x s k d)) ∧ PutT7 B t bm N D m (putM m (Maps.size D) x s k d bs) (putS m (Maps.size D) x s k d) w w' := by
  have hask := fun W (hW : TabIs W B t bm N D m) => ask_any6 hW x s
  unfold putM putS putV
  by_cases h1 : (askV m (Maps.size D) x s).2.1 = 0
  · simp only [if_pos h1]
    rw [h1] at hask
    by_cases h2 : rsE k d = 0
    · simp only [if_pos h2]
      by_cases h3 : (askV m (Maps.size D) x s).1 = 4
      · simp only [if_pos h3]
        rw [h3] at hask
        exact (put_full h x s 4 _ _ hask k A d dc bs hk hd hdc hdm hr h2 rfl).mono fun e w' ⟨he, hb⟩ => ⟨he, PutT7.same h hb⟩
      · simp only [if_neg h3]
        by_cases h4 : (askV m (Maps.size D) x s).1 = 1
        · simp only [if_pos h4]
          rw [h4] at hask
          obtain ⟨hc, hs⟩ := askV_none h1
          obtain ⟨c1, c2⟩ := serB_out hc
          refine (put_ok2 h x s _ _ hask k A d dc bs hk hd hdc hdm hr h2 (rsE_zero h2) (by omega) (by omega) hn).mono fun e w' ⟨he, ⟨A4, c4, hT, hA4⟩, hg, hz, _⟩ => ⟨he, ⟨N + 1, _, hT, by omega, ?_, fun P hP hf => ?_⟩, hg, hz⟩
          · rw [h.size_put]; rfl
          · exact DataAt.put (w' := w') h hP (fun a ha => hf _ (hA4 a ha))
        · simp only [if_neg h4]
          exact (put_arg h x s _ _ _ hask k A d dc bs hk hd hdc hdm hr h2 h3 h4).mono fun e w' ⟨he, hb⟩ => ⟨he, PutT7.same h hb⟩
    · simp only [if_neg h2]
      exact (put_badR h x s _ _ _ hask k A d dc bs hk hd hdc hdm hr h2).mono fun e w' ⟨he, hb⟩ => ⟨he, PutT7.same h hb⟩
  · simp only [if_neg h1]
    exact (put_err h x s _ _ _ _ hask k A d dc bs hk hd hdc hdm hr h1).mono fun e w' ⟨he, hb⟩ => ⟨he, PutT7.same h hb⟩
end
/-- Rows with one more. -/
def putR (rows : List RowD) (c s : Int) (k : Nat) (bs : List UInt8) : List RowD := if putV (tmOf rows) rows.length c s k bs.length = 0 then insG (c, s, k, bs) false rows else rows
theorem putR_tm {rows : List RowD} (hr : rowsB rows = true) (c s : Int) (k : Nat) (bs : List UInt8) : putM (tmOf rows) rows.length c s k bs.length bs = tmOf (putR rows c s k bs) ∧ putS (tmOf rows) rows.length c s k bs.length = (putR rows c s k bs).length := by
  have ht : TbOf (tmOf rows) rows := ⟨tmOf_mem (rowsB_out hr).2.2, (rowsB_out hr).2.2⟩
  unfold putM putS putR
  by_cases h : putV (tmOf rows) rows.length c s k bs.length = 0
  · rw [if_pos h, if_pos h, if_pos h]
    exact ⟨tmOf_eq (insG_tb ht c s k bs).mem, by unfold szNew; rw [insG_size ht]⟩
  · rw [if_neg h, if_neg h, if_neg h]
    exact ⟨rfl, rfl⟩
theorem putR_ok {rows : List RowD} (hr : rowsB rows = true) (c s : Int) (k : Nat) (bs : List UInt8) : rowsB (putR rows c s k bs) = true := by
  have ht : TbOf (tmOf rows) rows := ⟨tmOf_mem (rowsB_out hr).2.2, (rowsB_out hr).2.2⟩
  unfold putR
  split
  · rename_i h
    obtain ⟨h1, h2, h3⟩ := putV_zero h
    obtain ⟨hc, hs⟩ := askV_none h1
    obtain ⟨r1, r2, r3⟩ := rowsB_out hr
    have hsz := insG_size ht c s k bs
    have h64 : (insG (c, s, k, bs) false rows).length ≤ 64 := by
      rw [hsz]
      split
      · exact r1
      · rename_i hm
        have := askV_new h3 (by cases hmx : tmOf rows c <;> simp_all)
        omega
    have hall : ∀ e ∈ insG (c, s, k, bs) false rows, serB e.1 = true ∧ serB e.2.1 = true ∧ rsE e.2.2.1 e.2.2.2.length = 0 := by
      intro e he
      rcases (insG_mem _ rows e).1 he with rfl | ⟨he, _⟩
      · exact ⟨hc, hs, h2⟩
      · exact r2 e he
    unfold rowsB
    rw [decide_eq_true h64, Bool.true_and]
    refine okL_of _ _ (fun e he => ?_) (insG_srt _ _ r3)
    obtain ⟨q1, q2, q3⟩ := hall e he
    exact ⟨by have := serB_out q1; omega, q1, q2, q3⟩
  · exact hr
/-- What Apply makes, and tells. -/
def MA.apply (a : MA) (e : EntryD) : MA × Int × Nat × List UInt8 :=
  if entryB e = true then
    if e.2.1 = a.num + 1 then
      if (askV (tmOf a.rows) a.rows.length e.2.2.2.1 e.2.2.2.2.1).1 = 1 then
        ({ ({ a with num := e.2.1 } : MA).done e |>.1 with rows := putR a.rows e.2.2.2.1 e.2.2.2.2.1 (({ a with num := e.2.1 } : MA).done e).2.1 (({ a with num := e.2.1 } : MA).done e).2.2 }, 0, (({ a with num := e.2.1 } : MA).done e).2.1, (({ a with num := e.2.1 } : MA).done e).2.2)
      else ({ a with num := e.2.1 }, 0, (askV (tmOf a.rows) a.rows.length e.2.2.2.1 e.2.2.2.2.1).2.2.1, (askV (tmOf a.rows) a.rows.length e.2.2.2.1 e.2.2.2.2.1).2.2.2)
    else (a, 70, 0, [])
  else (a, 71, 0, [])
theorem done_rows (a : MA) (e : EntryD) : (a.done e).1.rows = a.rows := by
  unfold MA.done
  split
  · rfl
  · split <;> rfl
def ApplyM (L : Nat) (Y : Nat → Prop) (f : MFp) (N : Nat) (r : MA × Int × Nat × List UInt8) (w : World) (e : Ending) (w' : World) : Prop :=
  ∃ A c, e = .returned (.tuple #[resv r.2.2.1 A r.2.2.2.length c, .int .i64 r.2.1]) ∧ r.2.2.2.length ≤ c ∧ c ≤ 9223372036854775807 ∧ Rd w' A (bys r.2.2.2) ∧ (∀ a, A = some a → w.heap.size ≤ a.block) ∧ MX w' L Y f r.1 (N + 1) ∧ Fr f.W w w'
section
variable {Y : Nat → Prop} {w : World} {L : Nat} {f : MFp} {a : MA} {N NN B : Nat} {D : DataW Value} {G : Option Addr} {gn gc : Nat}
theorem MIs.up {N' : Nat} (h : MIs w L Y f a N NN B D G gn gc) (hN : N ≤ N') : MIs w L Y f a N' NN B D G gn gc := { h with tab := h.tab.upto hN }
theorem MX.up {N' : Nat} (h : MX w L Y f a N) (hN : N ≤ N') : MX w L Y f a N' := by
  obtain ⟨NN, B, D, G, gn, gc, h⟩ := h
  exact ⟨NN, B, D, G, gn, gc, h.up hN⟩
theorem MIs.renum (h : MIs w L Y f a N NN B D G gn gc) (n : Int) : MIs (w.setCell ⟨f.mb, 4, none⟩ (.int .i64 n)) L Y f { a with num := n } N NN B D G gn gc := by
  have Fm : Fr (fun b => b = f.mb) w (w.setCell ⟨f.mb, 4, none⟩ (.int .i64 n)) := Fr.setg w f.mb 4 _
  obtain ⟨b1, b2, b3, b4⟩ := h.hiB
  obtain ⟨n1, n2⟩ := h.ne
  exact { blk := h.blk.set 4 (.int .i64 n), vol := h.vol.fr Fm (by omega) (by omega) (by omega), tab := h.tab.fr Fm (by omega) (by omega) (h.dA.mono fun b hb => hb.1), sz := h.sz, gr := h.gr.fr Fm (fun _ a' ha => (h.gA a' ha).2.1), gl := h.gl, gc_ := h.gc_, ok := h.ok, lo := h.lo, hiB := h.hiB, ne := h.ne, gA := h.gA, dA := h.dA, yA := h.yA }
theorem MIs.put7 {w' : World} {c s : Int} {k : Nat} {bs : List UInt8} (h : MIs w L Y f a N NN B D G gn gc) (hr : rowsB a.rows = true) (hY : ∀ b, Y b → b < w.heap.size) (hp : PutT7 B f.t f.bm N D (tmOf a.rows) (putM (tmOf a.rows) a.rows.length c s k bs.length bs) (putS (tmOf a.rows) a.rows.length c s k bs.length) w w') :
    MX w' L Y f { a with rows := putR a.rows c s k bs } (N + 1) := by
  obtain ⟨⟨N', D', hT, hN', hS', hdat⟩, hg, hz⟩ := hp
  obtain ⟨e1, e2⟩ := putR_tm hr c s k bs
  rw [e1] at hT hdat
  rw [e2] at hS'
  have F : Fr (fun b => b = f.bm) w w' := Fr.of_grown hg (fun k hk => (Option.some.inj hk).symm)
  obtain ⟨b1, b2, b3, b4⟩ := h.hiB
  obtain ⟨n1, n2⟩ := h.ne
  obtain ⟨c1, c2⟩ := h.tab.hB
  have lm := h.blk.lt
  refine ⟨NN, B, D', G, gn, gc, ?_⟩
  exact { blk := h.blk.fr F n2, vol := h.vol.fr F (by omega) (by omega) (by omega), tab := hT.upto hN', sz := hS', gr := h.gr.fr F (fun _ a' ha => (h.gA a' ha).2.2.1), gl := h.gl, gc_ := h.gc_, ok := h.ok, lo := h.lo, hiB := h.hiB, ne := h.ne, gA := h.gA
          dA := hdat _ h.dA (fun b hb => ⟨by omega, fun hy => by have := hY b hy; omega⟩), yA := h.yA }
theorem MIs.fr' {X : Nat → Prop} {w' : World} (h : MIs w L Y f a N NN B D G gn gc) (hf : Fr X w w') (hX : ∀ b, X b → Y b) : MIs w' L Y f a N NN B D G gn gc := h.fr hf (fun b hb _ => hX b hb)

set_option maxRecDepth 20000 in
set_option maxHeartbeats 6400000 in
theorem apply7_bad {Q : Nat → Prop} {e : EntryD} {cs : List Value} (h : MIs w L Y f a N NN B D G gn gc) (hok : a.Ok) (he : tyEntry.Is w Q e cs) (hx : entryB e = false) : Calls Tryz.prog 10 #[.pointer (some ⟨f.mb, 0, none⟩), .agg cs.toArray] w (ApplyM L Y f N (a.apply e) w) := by
  have he' := he
  obtain ⟨eKind, eNum, eView, eClient, eSerial, eOpKind, eOpAt, eOpN, eOpData, eOpDataA, eOpDatan, eOpDatac, eOpOld, eOpOldA, eOpOldn, eOpOldc, eGroupEpoch, eGroupMembers, eGroupMembersA, eGroupMembersn, eGroupMembersc, eGroupMembersv, rfl, rfl, hu_eKind, h1_eNum, h2_eNum, h1_eView, h2_eView, h1_eClient, h2_eClient, h1_eSerial, h2_eSerial, hu_eOpKind, h1_eOpAt, h2_eOpAt, h1_eOpN, h2_eOpN, hl_eOpData, hc_eOpData, hm_eOpData, hr_eOpData, hq_eOpData, hl_eOpOld, hc_eOpOld, hm_eOpOld, hr_eOpOld, hq_eOpOld, h1_eGroupEpoch, h2_eGroupEpoch, hl_eGroupMembers, hc_eGroupMembers, hm_eGroupMembers, hr_eGroupMembers, hq_eGroupMembers, he_eGroupMembers⟩ := Entry_out he'
  obtain ⟨g, hg⟩ : ∃ g, w.heap.size = g := ⟨_, rfl⟩
  obtain ⟨w0, hw0⟩ : ∃ x, (w.alloc (.cells #[.int .u8 eKind, .int .i64 eNum, .int .i64 eView, .int .i64 eClient, .int .i64 eSerial, .int .u8 eOpKind, .int .i64 eOpAt, .int .i64 eOpN, .slice eOpDataA eOpDatan eOpDatac, .slice eOpOldA eOpOldn eOpOldc, .int .i64 eGroupEpoch, .slice eGroupMembersA eGroupMembersn eGroupMembersc] 49)).alloc (.cells #[.int .u8 0, .slice none 0 0] 40) = x := ⟨_, rfl⟩
  have hE : Blk w0 g [.int .u8 eKind, .int .i64 eNum, .int .i64 eView, .int .i64 eClient, .int .i64 eSerial, .int .u8 eOpKind, .int .i64 eOpAt, .int .i64 eOpN, .slice eOpDataA eOpDatan eOpDatac, .slice eOpOldA eOpOldn eOpOldc, .int .i64 eGroupEpoch, .slice eGroupMembersA eGroupMembersn eGroupMembersc] 49 := by rw [← hw0, ← hg]; exact (Blk.new w [.int .u8 eKind, .int .i64 eNum, .int .i64 eView, .int .i64 eClient, .int .i64 eSerial, .int .u8 eOpKind, .int .i64 eOpAt, .int .i64 eOpN, .slice eOpDataA eOpDatan eOpDatac, .slice eOpOldA eOpOldn eOpOldc, .int .i64 eGroupEpoch, .slice eGroupMembersA eGroupMembersn eGroupMembersc] _).alloc _
  have hZ : Blk w0 (g + 1) [.int .u8 0, .slice none 0 0] 40 := by
    rw [← hw0, ← hg]
    have := Blk.new (w.alloc (.cells #[.int .u8 eKind, .int .i64 eNum, .int .i64 eView, .int .i64 eClient, .int .i64 eSerial, .int .u8 eOpKind, .int .i64 eOpAt, .int .i64 eOpN, .slice eOpDataA eOpDatan eOpDatac, .slice eOpOldA eOpOldn eOpOldc, .int .i64 eGroupEpoch, .slice eGroupMembersA eGroupMembersn eGroupMembersc] 49)) [.int .u8 0, .slice none 0 0] 40
    rwa [World.size_alloc] at this
  have hb0 : Below w.heap.size w w0 := by rw [← hw0]; exact ((Below.refl _ _).alloc (Nat.le_refl _) _).alloc (by simp) _
  have Hw0 := hide hw0
  clear hw0
  have h0 := h.below hb0
  have zl := hZ.lt
  have hlt := h.lts
  have l1 := hlt f.mb (.inl rfl)
  have y0 := Blk.cell hE (j := 0) rfl; have y1 := Blk.cell hE (j := 1) rfl; have y2 := Blk.cell hE (j := 2) rfl; have y3 := Blk.cell hE (j := 3) rfl; have y4 := Blk.cell hE (j := 4) rfl; have y5 := Blk.cell hE (j := 5) rfl; have y6 := Blk.cell hE (j := 6) rfl; have y7 := Blk.cell hE (j := 7) rfl; have y8 := Blk.cell hE (j := 8) rfl; have y9 := Blk.cell hE (j := 9) rfl; have y10 := Blk.cell hE (j := 10) rfl; have y11 := Blk.cell hE (j := 11) rfl
  have s0 := hb0.size
  have HX := hide hx
  have HA := hide (show a.apply (eKind, eNum, eView, eClient, eSerial, (eOpKind, eOpAt, eOpN, eOpData, eOpOld), (eGroupEpoch, eGroupMembers)) = (a, 71, 0, []) by unfold MA.apply; rw [if_neg (by rw [hx]; decide)])
  clear hx
  go_enter Tryz.func10, Tryz.ntmps10
  go_wp2_with fail
  rw [Hw0.out]
  go_fit (made7_any h0)
  rintro xx w1 ⟨rfl, rfl⟩
  go_wp2_with fail
  go_fit (mEntry_any (he.below hb0))
  rw [enE_no HX.out]
  rintro xx w1 ⟨rfl, hb1⟩
  have hZ1 := hZ.below hb1
  have z0 := hZ1.cell (j := 0) rfl
  have z1 := hZ1.cell (j := 1) rfl
  have q0 := hZ1.frozen 0
  have q1 := hZ1.frozen 1
  have s1 := hb1.size
  have hZ3 := (hZ1.set 0 (.int .u8 0)).set 1 (.slice none 0 0)
  have Fz : Fr (fun b => b = g + 1) w1 ((w1.setCell ⟨g + 1, 0, none⟩ (.int .u8 0)).setCell ⟨g + 1, 1, none⟩ (.slice none 0 0)) := (Fr.setg _ (g + 1) 0 _).trans (Fr.setg _ (g + 1) 1 _)
  have F3 := (Fr.of_below (X := f.W) (hb0.trans (hb1.mono hb0.size))).trans' Fz (fun b hb => .inr (by omega))
  have hM := ((((h.avoid (Z := fun b => w.heap.size ≤ b) (fun b hb => hb)).below hb0).below hb1).fr Fz (fun b hb _ => .inr (by show w.heap.size ≤ b; omega))).free (Y' := Y) (fun b hb => .inl hb)
  have HM := hide hM
  have HF := hide F3
  clear hM F3 Fz
  go_wp2
  refine bodyPost_ret (results_cell2 rfl rfl hZ3 Tryz.underlying40 rfl (by kernel_rfl)) rfl ?_
  rw [HA.out]
  exact ⟨none, 0, rfl, by simp, by omega, Rd.nil, (fun a' ha => by cases ha), ⟨NN, B, D, G, gn, gc, HM.out.up (by omega)⟩, HF.out⟩

set_option maxRecDepth 20000 in
set_option maxHeartbeats 6400000 in
theorem apply7_order {Q : Nat → Prop} {e : EntryD} {cs : List Value} (h : MIs w L Y f a N NN B D G gn gc) (hok : a.Ok) (he : tyEntry.Is w Q e cs) (hx : entryB e = true) (hn : e.2.1 ≠ a.num + 1) : Calls Tryz.prog 10 #[.pointer (some ⟨f.mb, 0, none⟩), .agg cs.toArray] w (ApplyM L Y f N (a.apply e) w) := by
  have he' := he
  have hnum := numB_out hok.num
  obtain ⟨eKind, eNum, eView, eClient, eSerial, eOpKind, eOpAt, eOpN, eOpData, eOpDataA, eOpDatan, eOpDatac, eOpOld, eOpOldA, eOpOldn, eOpOldc, eGroupEpoch, eGroupMembers, eGroupMembersA, eGroupMembersn, eGroupMembersc, eGroupMembersv, rfl, rfl, hu_eKind, h1_eNum, h2_eNum, h1_eView, h2_eView, h1_eClient, h2_eClient, h1_eSerial, h2_eSerial, hu_eOpKind, h1_eOpAt, h2_eOpAt, h1_eOpN, h2_eOpN, hl_eOpData, hc_eOpData, hm_eOpData, hr_eOpData, hq_eOpData, hl_eOpOld, hc_eOpOld, hm_eOpOld, hr_eOpOld, hq_eOpOld, h1_eGroupEpoch, h2_eGroupEpoch, hl_eGroupMembers, hc_eGroupMembers, hm_eGroupMembers, hr_eGroupMembers, hq_eGroupMembers, he_eGroupMembers⟩ := Entry_out he'
  obtain ⟨g, hg⟩ : ∃ g, w.heap.size = g := ⟨_, rfl⟩
  obtain ⟨w0, hw0⟩ : ∃ x, (w.alloc (.cells #[.int .u8 eKind, .int .i64 eNum, .int .i64 eView, .int .i64 eClient, .int .i64 eSerial, .int .u8 eOpKind, .int .i64 eOpAt, .int .i64 eOpN, .slice eOpDataA eOpDatan eOpDatac, .slice eOpOldA eOpOldn eOpOldc, .int .i64 eGroupEpoch, .slice eGroupMembersA eGroupMembersn eGroupMembersc] 49)).alloc (.cells #[.int .u8 0, .slice none 0 0] 40) = x := ⟨_, rfl⟩
  have hE : Blk w0 g [.int .u8 eKind, .int .i64 eNum, .int .i64 eView, .int .i64 eClient, .int .i64 eSerial, .int .u8 eOpKind, .int .i64 eOpAt, .int .i64 eOpN, .slice eOpDataA eOpDatan eOpDatac, .slice eOpOldA eOpOldn eOpOldc, .int .i64 eGroupEpoch, .slice eGroupMembersA eGroupMembersn eGroupMembersc] 49 := by rw [← hw0, ← hg]; exact (Blk.new w [.int .u8 eKind, .int .i64 eNum, .int .i64 eView, .int .i64 eClient, .int .i64 eSerial, .int .u8 eOpKind, .int .i64 eOpAt, .int .i64 eOpN, .slice eOpDataA eOpDatan eOpDatac, .slice eOpOldA eOpOldn eOpOldc, .int .i64 eGroupEpoch, .slice eGroupMembersA eGroupMembersn eGroupMembersc] _).alloc _
  have hZ : Blk w0 (g + 1) [.int .u8 0, .slice none 0 0] 40 := by
    rw [← hw0, ← hg]
    have := Blk.new (w.alloc (.cells #[.int .u8 eKind, .int .i64 eNum, .int .i64 eView, .int .i64 eClient, .int .i64 eSerial, .int .u8 eOpKind, .int .i64 eOpAt, .int .i64 eOpN, .slice eOpDataA eOpDatan eOpDatac, .slice eOpOldA eOpOldn eOpOldc, .int .i64 eGroupEpoch, .slice eGroupMembersA eGroupMembersn eGroupMembersc] 49)) [.int .u8 0, .slice none 0 0] 40
    rwa [World.size_alloc] at this
  have hb0 : Below w.heap.size w w0 := by rw [← hw0]; exact ((Below.refl _ _).alloc (Nat.le_refl _) _).alloc (by simp) _
  have Hw0 := hide hw0
  clear hw0
  have h0 := h.below hb0
  have zl := hZ.lt
  have hlt := h.lts
  have l1 := hlt f.mb (.inl rfl)
  have y0 := Blk.cell hE (j := 0) rfl; have y1 := Blk.cell hE (j := 1) rfl; have y2 := Blk.cell hE (j := 2) rfl; have y3 := Blk.cell hE (j := 3) rfl; have y4 := Blk.cell hE (j := 4) rfl; have y5 := Blk.cell hE (j := 5) rfl; have y6 := Blk.cell hE (j := 6) rfl; have y7 := Blk.cell hE (j := 7) rfl; have y8 := Blk.cell hE (j := 8) rfl; have y9 := Blk.cell hE (j := 9) rfl; have y10 := Blk.cell hE (j := 10) rfl; have y11 := Blk.cell hE (j := 11) rfl
  have s0 := hb0.size
  have HX := hide hx
  have HA := hide (show a.apply (eKind, eNum, eView, eClient, eSerial, (eOpKind, eOpAt, eOpN, eOpData, eOpOld), (eGroupEpoch, eGroupMembers)) = (a, 70, 0, []) by unfold MA.apply; rw [if_pos hx, if_neg hn])
  have q : (eNum != a.num + 1) = true := by simpa using hn
  clear hx hn
  go_enter Tryz.func10, Tryz.ntmps10
  go_wp2_with fail
  rw [Hw0.out]
  go_fit (made7_any h0)
  rintro xx w1 ⟨rfl, rfl⟩
  go_wp2_with fail
  go_fit (mEntry_any (he.below hb0))
  rw [enE_ok HX.out]
  rintro xx w1 ⟨rfl, hb1⟩
  have hZ1 := hZ.below hb1
  have h1 := h0.below hb1
  clear y0 y1 y2 y3 y4 y5 y6 y7 y8 y9 y10 y11
  have y1 := (hE.below hb1).cell (j := 1) rfl
  have x4 := h1.blk.cell (j := 4) rfl
  have z0 := hZ1.cell (j := 0) rfl
  have z1 := hZ1.cell (j := 1) rfl
  have q0 := hZ1.frozen 0
  have q1 := hZ1.frozen 1
  have s1 := hb1.size
  go_wp2_with fail
  go_region
  all_goals
    have hZ3 := (hZ1.set 0 (.int .u8 0)).set 1 (.slice none 0 0)
    have Fz := (((Fr.setg w1 (g + 1) 0 (.int .u8 0)).trans (Fr.setg _ (g + 1) 1 (.slice none 0 0)))).drew
    have F3 := (Fr.of_below (X := f.W) (hb0.trans (hb1.mono hb0.size))).trans' Fz (fun b hb => .inr (by omega))
    have hM := ((((h.avoid (Z := fun b => w.heap.size ≤ b) (fun b hb => hb)).below hb0).below hb1).fr Fz (fun b hb _ => .inr (by show w.heap.size ≤ b; omega))).free (Y' := Y) (fun b hb => .inl hb)
    have HM := hide hM
    have HF := hide F3
    clear hM F3 Fz
    go_wp2
    refine bodyPost_ret (results_cell2 rfl rfl hZ3 Tryz.underlying40 rfl (by kernel_rfl)) rfl ?_
    rw [HA.out]
    exact ⟨none, 0, rfl, by simp, by omega, Rd.nil, (fun a' ha => by cases ha), ⟨NN, B, D, G, gn, gc, HM.out.up (by omega)⟩, HF.out⟩

set_option maxRecDepth 20000 in
set_option maxHeartbeats 6400000 in
theorem apply7_old {Q : Nat → Prop} {e : EntryD} {cs : List Value} (h : MIs w L Y f a N NN B D G gn gc) (hok : a.Ok) (he : tyEntry.Is w Q e cs) (hx : entryB e = true) (hn : e.2.1 = a.num + 1) (hv : (askV (tmOf a.rows) a.rows.length e.2.2.2.1 e.2.2.2.2.1).1 ≠ 1) : Calls Tryz.prog 10 #[.pointer (some ⟨f.mb, 0, none⟩), .agg cs.toArray] w (ApplyM L Y f N (a.apply e) w) := by
  have he' := he
  have hnum := numB_out hok.num
  obtain ⟨eKind, eNum, eView, eClient, eSerial, eOpKind, eOpAt, eOpN, eOpData, eOpDataA, eOpDatan, eOpDatac, eOpOld, eOpOldA, eOpOldn, eOpOldc, eGroupEpoch, eGroupMembers, eGroupMembersA, eGroupMembersn, eGroupMembersc, eGroupMembersv, rfl, rfl, hu_eKind, h1_eNum, h2_eNum, h1_eView, h2_eView, h1_eClient, h2_eClient, h1_eSerial, h2_eSerial, hu_eOpKind, h1_eOpAt, h2_eOpAt, h1_eOpN, h2_eOpN, hl_eOpData, hc_eOpData, hm_eOpData, hr_eOpData, hq_eOpData, hl_eOpOld, hc_eOpOld, hm_eOpOld, hr_eOpOld, hq_eOpOld, h1_eGroupEpoch, h2_eGroupEpoch, hl_eGroupMembers, hc_eGroupMembers, hm_eGroupMembers, hr_eGroupMembers, hq_eGroupMembers, he_eGroupMembers⟩ := Entry_out he'
  obtain ⟨g, hg⟩ : ∃ g, w.heap.size = g := ⟨_, rfl⟩
  obtain ⟨w0, hw0⟩ : ∃ x, (w.alloc (.cells #[.int .u8 eKind, .int .i64 eNum, .int .i64 eView, .int .i64 eClient, .int .i64 eSerial, .int .u8 eOpKind, .int .i64 eOpAt, .int .i64 eOpN, .slice eOpDataA eOpDatan eOpDatac, .slice eOpOldA eOpOldn eOpOldc, .int .i64 eGroupEpoch, .slice eGroupMembersA eGroupMembersn eGroupMembersc] 49)).alloc (.cells #[.int .u8 0, .slice none 0 0] 40) = x := ⟨_, rfl⟩
  have hE : Blk w0 g [.int .u8 eKind, .int .i64 eNum, .int .i64 eView, .int .i64 eClient, .int .i64 eSerial, .int .u8 eOpKind, .int .i64 eOpAt, .int .i64 eOpN, .slice eOpDataA eOpDatan eOpDatac, .slice eOpOldA eOpOldn eOpOldc, .int .i64 eGroupEpoch, .slice eGroupMembersA eGroupMembersn eGroupMembersc] 49 := by rw [← hw0, ← hg]; exact (Blk.new w [.int .u8 eKind, .int .i64 eNum, .int .i64 eView, .int .i64 eClient, .int .i64 eSerial, .int .u8 eOpKind, .int .i64 eOpAt, .int .i64 eOpN, .slice eOpDataA eOpDatan eOpDatac, .slice eOpOldA eOpOldn eOpOldc, .int .i64 eGroupEpoch, .slice eGroupMembersA eGroupMembersn eGroupMembersc] _).alloc _
  have hZ : Blk w0 (g + 1) [.int .u8 0, .slice none 0 0] 40 := by
    rw [← hw0, ← hg]
    have := Blk.new (w.alloc (.cells #[.int .u8 eKind, .int .i64 eNum, .int .i64 eView, .int .i64 eClient, .int .i64 eSerial, .int .u8 eOpKind, .int .i64 eOpAt, .int .i64 eOpN, .slice eOpDataA eOpDatan eOpDatac, .slice eOpOldA eOpOldn eOpOldc, .int .i64 eGroupEpoch, .slice eGroupMembersA eGroupMembersn eGroupMembersc] 49)) [.int .u8 0, .slice none 0 0] 40
    rwa [World.size_alloc] at this
  have hb0 : Below w.heap.size w w0 := by rw [← hw0]; exact ((Below.refl _ _).alloc (Nat.le_refl _) _).alloc (by simp) _
  have Hw0 := hide hw0
  clear hw0
  have h0 := h.below hb0
  have zl := hZ.lt
  have hlt := h.lts
  have l1 := hlt f.mb (.inl rfl)
  have y0 := Blk.cell hE (j := 0) rfl; have y1 := Blk.cell hE (j := 1) rfl; have y2 := Blk.cell hE (j := 2) rfl; have y3 := Blk.cell hE (j := 3) rfl; have y4 := Blk.cell hE (j := 4) rfl; have y5 := Blk.cell hE (j := 5) rfl; have y6 := Blk.cell hE (j := 6) rfl; have y7 := Blk.cell hE (j := 7) rfl; have y8 := Blk.cell hE (j := 8) rfl; have y9 := Blk.cell hE (j := 9) rfl; have y10 := Blk.cell hE (j := 10) rfl; have y11 := Blk.cell hE (j := 11) rfl
  have s0 := hb0.size
  have HX := hide hx
  have HN := hide hn
  have q : (eNum != a.num + 1) = false := by simpa using hn
  have lv : f.v < B ∧ f.r < B ∧ f.s < B ∧ B ≤ f.mb := h.hiB
  have hok1 : rowsB a.rows = true := hok.rows
  clear hx hn
  go_enter Tryz.func10, Tryz.ntmps10
  go_wp2_with fail
  rw [Hw0.out]
  go_fit (made7_any h0)
  rintro xx w1 ⟨rfl, rfl⟩
  go_wp2_with fail
  go_fit (mEntry_any (he.below hb0))
  rw [enE_ok HX.out]
  rintro xx w1 ⟨rfl, hb1⟩
  have h1 := h0.below hb1
  have hE1 := hE.below hb1
  have hZ1 := hZ.below hb1
  clear y0 y1 y2 y3 y4 y5 y6 y7 y8 y9 y10 y11
  have y1 := hE1.cell (j := 1) rfl
  have x4 := h1.blk.cell (j := 4) rfl
  have s1 := hb1.size
  go_wp2_with fail
  go_region
  all_goals
    have xf4 := h1.blk.frozen 4
    have hM2 := ((((h.avoid (Z := fun b => w.heap.size ≤ b ∧ b < w.heap.size + 2) (fun b hb => hb.1)).below hb0).below hb1).below (Below.refl _ _).drew).renum eNum
    obtain ⟨w2, hw2⟩ : ∃ y, w1.drew.setCell ⟨f.mb, 4, none⟩ (.int .i64 eNum) = y := ⟨_, rfl⟩
    have F2 : Fr (fun b => b = f.mb) w1 w2 := by rw [← hw2]; exact ((Fr.refl _ w1).drew).trans (Fr.setg _ f.mb 4 _)
    rw [hw2] at hM2
    have hE2 := hE1.fr F2 (by omega)
    have hZ2 := hZ1.fr F2 (by omega)
    have s2 := F2.size
    have HM2 := hide hM2
    have Hw2 := hide hw2
    have hw2' : (w1.setCell ⟨f.mb, 4, none⟩ (.int .i64 eNum)).drew = w2 := hw2
    have Hw2' := hide hw2'
    have xm := hM2.blk.cell (j := 1) rfl
    have y3 := hE2.cell (j := 3) rfl
    have y4 := hE2.cell (j := 4) rfl
    have PT := ask_any6 hM2.tab eClient eSerial
    have hsz := hM2.sz
    simp only at hsz PT
    rw [hsz] at PT
    have KC := hide (show ∀ X, Below w2.heap.size w2 X → (X.cell? ⟨f.mb, 1, none⟩ = some (.pointer (some ⟨f.t, 0, none⟩)) ∧ X.cell? ⟨g, 3, none⟩ = some (.int .i64 eClient) ∧ X.cell? ⟨g, 4, none⟩ = some (.int .i64 eSerial)) from fun X hX => ⟨(hM2.blk.below hX).cell (j := 1) rfl, (hE2.below hX).cell (j := 3) rfl, (hE2.below hX).cell (j := 4) rfl⟩)
    have PT' := fun X (hX : Below w2.heap.size w2 X) => ask_any6 (hM2.tab.below hX) eClient eSerial
    simp only [hsz] at PT'
    have PT2 := hide PT'
    have S0 := KC.out w2.drew (Below.refl _ _).drew
    clear hw2 hw2' hM2 PT hsz PT'
    go_wp2_with fail
    first | rw [Hw2.out] | rw [Hw2'.out]
    clear y1 x4 xf4
    generalize hV : askV (tmOf a.rows) a.rows.length eClient eSerial = V at PT2
    have HV := hide hV
    clear hV
    obtain ⟨V1, V2, V3, V4⟩ := V
    simp only at PT2
    have s5 : Below w2.heap.size w2 (w2.alloc (.cells #[.int .u8 0, .slice none 0 0] 40)) := (Below.refl _ _).alloc (Nat.le_refl _) _
    have hb8 : Below w2.heap.size w2 (w2.alloc (.cells #[.int .u8 0, .slice none 0 0] 40)).drew := s5.drew
    have B8 : Blk (w2.alloc (.cells #[.int .u8 0, .slice none 0 0] 40)).drew w2.heap.size [.int .u8 0, .slice none 0 0] 40 := Blk.new w2 [.int .u8 0, .slice none 0 0] _
    have S5 := KC.out _ hb8
    have l1' : f.mb < w2.heap.size := by omega
    have l2' : g < w2.heap.size := by omega
    have KS := hide (show ∀ (X : World) (v0 v1 : Value), (X.cell? ⟨f.mb, 1, none⟩ = some (.pointer (some ⟨f.t, 0, none⟩)) ∧ X.cell? ⟨g, 3, none⟩ = some (.int .i64 eClient) ∧ X.cell? ⟨g, 4, none⟩ = some (.int .i64 eSerial)) → (((X.setCell ⟨w2.heap.size, 0, none⟩ v0).setCell ⟨w2.heap.size, 1, none⟩ v1).cell? ⟨f.mb, 1, none⟩ = some (.pointer (some ⟨f.t, 0, none⟩)) ∧ ((X.setCell ⟨w2.heap.size, 0, none⟩ v0).setCell ⟨w2.heap.size, 1, none⟩ v1).cell? ⟨g, 3, none⟩ = some (.int .i64 eClient) ∧ ((X.setCell ⟨w2.heap.size, 0, none⟩ v0).setCell ⟨w2.heap.size, 1, none⟩ v1).cell? ⟨g, 4, none⟩ = some (.int .i64 eSerial)) from fun X v0 v1 hS => ⟨cell_far2 _ _ hS.1 (by show f.mb ≠ w2.heap.size; omega), cell_far2 _ _ hS.2.1 (by show g ≠ w2.heap.size; omega), cell_far2 _ _ hS.2.2 (by show g ≠ w2.heap.size; omega)⟩)
    have S5o := fun (X : World) (hX : Below w2.heap.size w2 X) (o : Obj) => KC.out (X.alloc o) (hX.alloc hX.size o)
    have HS5 := hide S5o
    clear S5o
    go_region_held_law (fun X => X.cell? ⟨f.mb, 1, none⟩ = some (.pointer (some ⟨f.t, 0, none⟩)) ∧ X.cell? ⟨g, 3, none⟩ = some (.int .i64 eClient) ∧ X.cell? ⟨g, 4, none⟩ = some (.int .i64 eSerial)) (first | with_reducible assumption | exact S5 | exact HS5.out _ (by with_reducible assumption) _ | exact KS.out _ _ _ (by with_reducible assumption)) (first
      | (go_at_call 43; refine (PT2.out w2.drew (Below.refl _ _).drew).mono ?_; rintro xx w3 ⟨A1, dc1, rfl, hask⟩; have hb3 : Below w2.heap.size w2 w3 := ⟨hask.2.2.2.2.2.2.os, hask.2.2.2.2.2.2.tape, hask.2.2.2.2.2.2.output, hask.2.2.2.2.2.2.size, hask.2.2.2.2.2.2.block⟩; have Hask := hide hask; clear hask; have tkA : True := trivial; have S3 := KC.out _ hb3)
      | (go_at_call 43; refine (PT2.out _ hb8).mono ?_; rintro xx w3 ⟨A1, dc1, rfl, hask⟩; have hb3 : Below w2.heap.size w2 w3 := hb8.trans (hask.2.2.2.2.2.2.mono hb8.size); have hB83 := B8.below hask.2.2.2.2.2.2; have Hask := hide hask; clear hask; have tkB : True := trivial; have S3 := KC.out _ hb3; have r0 := hB83.cell (j := 0) rfl; have r1 := hB83.cell (j := 1) rfl; have q0 := hB83.frozen 0; have q1 := hB83.frozen 1))
    all_goals
      obtain ⟨a1, a2, a3, a4, a5, a6, a7⟩ := Hask.out
      (try simp only at a1 a2 a3 a4 a5)
      have hs8 := hb8.size
      have s3 := hb3.size
      have e8 : (w2.alloc (.cells #[.int .u8 0, .slice none 0 0] 40)).drew.heap.size = w2.heap.size + 1 := World.size_alloc _ _
      first
      | (clear tkA
         have a5' : ∀ a', A1 = some a' → w2.heap.size ≤ a'.block := a5
         have hbA : Below w3.heap.size w3 (w3.alloc (.cells #[.int .u8 V3, .slice A1 V4.length dc1] 40)) := (Below.refl _ _).alloc (Nat.le_refl _) _
         have hB8 := Blk.new w3 [.int .u8 V3, .slice A1 V4.length dc1] 40
         have hA4 := a4.below hbA
         have hb4 := hb3.trans (hbA.mono s3)
         obtain ⟨w4, hw4⟩ : ∃ y, w3.alloc (.cells #[.int .u8 V3, .slice A1 V4.length dc1] 40) = y := ⟨_, rfl⟩
         rw [hw4] at hB8 hA4 hb4 ⊢
         obtain ⟨g8, hg8⟩ : ∃ y, w3.heap.size = y := ⟨_, rfl⟩
         rw [hg8] at hB8 ⊢
         have h8lo : w2.heap.size ≤ g8 := by omega
         clear hg8 hw4 hbA)
      | (clear tkB
         have a5' : ∀ a', A1 = some a' → w2.heap.size ≤ a'.block := fun a' ha => by have := a5 a' ha; omega
         have F8 : Fr (fun b => b = w2.heap.size) w3 ((w3.setCell ⟨w2.heap.size, 0, none⟩ (.int .u8 V3)).setCell ⟨w2.heap.size, 1, none⟩ (.slice A1 V4.length dc1)) := (Fr.setg _ w2.heap.size 0 _).trans (Fr.setg _ w2.heap.size 1 _)
         have hB8 := (hB83.set 0 (.int .u8 V3)).set 1 (.slice A1 V4.length dc1)
         have hA4 := a4.fr F8 (fun _ a' ha => by have := a5 a' ha; omega)
         have hb4 : Below w2.heap.size w2 ((w3.setCell ⟨w2.heap.size, 0, none⟩ (.int .u8 V3)).setCell ⟨w2.heap.size, 1, none⟩ (.slice A1 V4.length dc1)) := F8.below hb3 (by omega) (fun k hk => by omega)
         obtain ⟨w4, hw4⟩ : ∃ y, ((w3.setCell ⟨w2.heap.size, 0, none⟩ (.int .u8 V3)).setCell ⟨w2.heap.size, 1, none⟩ (.slice A1 V4.length dc1)) = y := ⟨_, rfl⟩
         rw [hw4] at hB8 hA4 hb4 ⊢
         clear r0 r1 q0 q1 F8 hw4
         obtain ⟨g8, hg8⟩ : ∃ y, w2.heap.size = y := ⟨_, rfl⟩
         have hB8' : Blk w4 g8 [.int .u8 V3, .slice A1 V4.length dc1] 40 := by rw [← hg8]; exact hB8
         clear hB8
         have hB8 := hB8'
         clear hB8'
         rw [hg8]
         have h8lo : w2.heap.size ≤ g8 := by omega
         clear hg8)
      have hM4 := HM2.out.below hb4
      have hE4 := hE2.below hb4
      have hZ4 := hZ2.below hb4
      have s4 := hb4.size
      have F4 : Fr f.W w w4 := (((Fr.of_below (X := f.W) (hb0.trans (hb1.mono hb0.size))).trans' F2 (fun b hb => .inl (.inl hb))).trans (Fr.of_below hb4))
      have r0 := hB8.cell (j := 0) rfl
      have r1 := hB8.cell (j := 1) rfl
      have HV' := HV.out
      simp only [HV'] at hv
      have qv : (V1 == 1) = false := by simpa using hv
      have HA := hide (show a.apply (eKind, eNum, eView, eClient, eSerial, (eOpKind, eOpAt, eOpN, eOpData, eOpOld), (eGroupEpoch, eGroupMembers)) = ({ a with num := eNum }, 0, V3, V4) by unfold MA.apply; rw [if_pos HX.out, if_pos HN.out]; simp only [HV', if_neg hv])
      clear HV' hv
      have z0 := hZ4.cell (j := 0) rfl
      have z1 := hZ4.cell (j := 1) rfl
      have q0 := hZ4.frozen 0
      have q1 := hZ4.frozen 1
      have hZ5 := (hZ4.set 0 (.int .u8 V3)).set 1 (.slice A1 V4.length dc1)
      have Fz : Fr (fun b => b = g + 1) w4 ((w4.setCell ⟨g + 1, 0, none⟩ (.int .u8 V3)).setCell ⟨g + 1, 1, none⟩ (.slice A1 V4.length dc1)) := (Fr.setg _ (g + 1) 0 _).trans (Fr.setg _ (g + 1) 1 _)
      have F5 := F4.trans' Fz (fun b hb => .inr (by omega))
      have hM5 := (hM4.fr Fz (fun b hb _ => .inr (by omega))).free (Y' := Y) (fun b hb => .inl hb)
      have hA5 := hA4.fr Fz (fun _ a' ha => by have := a5' a' ha; omega)
      have HM5 := hide hM5
      have HF5 := hide F5
      have HA5 := hide hA5
      have HZ5 := hide hZ5
      clear hM5 F5 hA5 Fz hZ5 hM4 hA4 hB8 F4 hZ4 hE4
      go_wp2
      refine bodyPost_ret (results_cell2 rfl rfl HZ5.out Tryz.underlying40 rfl (by kernel_rfl)) rfl ?_
      rw [HA.out]
      exact ⟨A1, dc1, rfl, a1, a2, HA5.out, (fun a' ha => by have := a5' a' ha; omega), ⟨NN, B, D, G, gn, gc, HM5.out.up (by omega)⟩, HF5.out⟩

theorem kindB_two {e : EntryD} (h : kindB e = true) : e.1 = 1 ∨ (e.1 = 2 ∧ grpOk e.2.2.2.2.2.2.1 e.2.2.2.2.2.2.2 = true) := by
  unfold kindB at h
  split at h
  · exact .inl (by assumption)
  · split at h
    · rename_i h2
      simp only [Bool.and_eq_true] at h
      exact .inr ⟨h2, h.1⟩
    · cases h
theorem entryB_kind {e : EntryD} (h : entryB e = true) : kindB e = true ∧ serB e.2.1 = true := by
  unfold entryB at h
  simp only [Bool.and_eq_true] at h
  exact ⟨h.2.2.2.2, h.1⟩
theorem done7_any {Q : Nat → Prop} {e : EntryD} {cs : List Value} (h : MIs w L Y f a N NN B D G gn gc) (he : tyEntry.Is w Q e cs) (hQ : ∀ b, Q b → ¬ f.W b) (hk : kindB e = true) (hY : ∀ b, Y b → b < w.heap.size) :
    Calls Tryz.prog 44 #[.pointer (some ⟨f.mb, 0, none⟩), .agg cs.toArray] w (DoneM L Y f N (a.done e) w) := by
  rcases kindB_two hk with h1 | ⟨h1, h2⟩
  · exact done7_op h he hQ h1 hY
  · by_cases h3 : e.2.2.2.2.2.2.1 = a.ep + 1
    · exact done7_yes h he h1 h3 h2 hY
    · exact done7_no h he h1 h3 hY
theorem ftC_le (b z : Int) (k : Nat) (p n : Int) (d o : Nat) : ftC b z k p n d o ≤ 3 := by
  unfold ftC
  repeat' split
  all_goals decide
theorem doKE_lt (b z : Nat) (bs : List UInt8) (last : Int) (k : Nat) (p n : Int) (ds os : List UInt8) (num : Int) : doKE b z bs last k p n ds os num < 256 := by
  unfold doKE doK
  split
  · split
    · split <;> decide
    · have := ftC_le b z k p n ds.length os.length
      omega
  · decide
theorem done_lt (a : MA) (e : EntryD) : (a.done e).2.1 < 256 := by
  unfold MA.done
  split
  · exact doKE_lt _ _ _ _ _ _ _ _ _ _
  · split
    · show (1 : Nat) < 256; decide
    · show (2 : Nat) < 256; decide

set_option maxRecDepth 20000 in
set_option maxHeartbeats 6400000 in
theorem apply7_new {Q : Nat → Prop} {e : EntryD} {cs : List Value} (h : MIs w L Y f a N NN B D G gn gc) (hok : a.Ok) (he : tyEntry.Is w Q e cs) (hQ : ∀ b, Q b → ¬ f.W b) (hY : ∀ b, Y b → b < w.heap.size) (hN : N < 1000000000000) (hx : entryB e = true) (hn : e.2.1 = a.num + 1) (hv : (askV (tmOf a.rows) a.rows.length e.2.2.2.1 e.2.2.2.2.1).1 = 1) : Calls Tryz.prog 10 #[.pointer (some ⟨f.mb, 0, none⟩), .agg cs.toArray] w (ApplyM L Y f N (a.apply e) w) := by
  have he' := he
  have hnum := numB_out hok.num
  obtain ⟨eKind, eNum, eView, eClient, eSerial, eOpKind, eOpAt, eOpN, eOpData, eOpDataA, eOpDatan, eOpDatac, eOpOld, eOpOldA, eOpOldn, eOpOldc, eGroupEpoch, eGroupMembers, eGroupMembersA, eGroupMembersn, eGroupMembersc, eGroupMembersv, rfl, rfl, hu_eKind, h1_eNum, h2_eNum, h1_eView, h2_eView, h1_eClient, h2_eClient, h1_eSerial, h2_eSerial, hu_eOpKind, h1_eOpAt, h2_eOpAt, h1_eOpN, h2_eOpN, hl_eOpData, hc_eOpData, hm_eOpData, hr_eOpData, hq_eOpData, hl_eOpOld, hc_eOpOld, hm_eOpOld, hr_eOpOld, hq_eOpOld, h1_eGroupEpoch, h2_eGroupEpoch, hl_eGroupMembers, hc_eGroupMembers, hm_eGroupMembers, hr_eGroupMembers, hq_eGroupMembers, he_eGroupMembers⟩ := Entry_out he'
  obtain ⟨g, hg⟩ : ∃ g, w.heap.size = g := ⟨_, rfl⟩
  obtain ⟨w0, hw0⟩ : ∃ x, (w.alloc (.cells #[.int .u8 eKind, .int .i64 eNum, .int .i64 eView, .int .i64 eClient, .int .i64 eSerial, .int .u8 eOpKind, .int .i64 eOpAt, .int .i64 eOpN, .slice eOpDataA eOpDatan eOpDatac, .slice eOpOldA eOpOldn eOpOldc, .int .i64 eGroupEpoch, .slice eGroupMembersA eGroupMembersn eGroupMembersc] 49)).alloc (.cells #[.int .u8 0, .slice none 0 0] 40) = x := ⟨_, rfl⟩
  have hE : Blk w0 g [.int .u8 eKind, .int .i64 eNum, .int .i64 eView, .int .i64 eClient, .int .i64 eSerial, .int .u8 eOpKind, .int .i64 eOpAt, .int .i64 eOpN, .slice eOpDataA eOpDatan eOpDatac, .slice eOpOldA eOpOldn eOpOldc, .int .i64 eGroupEpoch, .slice eGroupMembersA eGroupMembersn eGroupMembersc] 49 := by rw [← hw0, ← hg]; exact (Blk.new w [.int .u8 eKind, .int .i64 eNum, .int .i64 eView, .int .i64 eClient, .int .i64 eSerial, .int .u8 eOpKind, .int .i64 eOpAt, .int .i64 eOpN, .slice eOpDataA eOpDatan eOpDatac, .slice eOpOldA eOpOldn eOpOldc, .int .i64 eGroupEpoch, .slice eGroupMembersA eGroupMembersn eGroupMembersc] _).alloc _
  have hZ : Blk w0 (g + 1) [.int .u8 0, .slice none 0 0] 40 := by
    rw [← hw0, ← hg]
    have := Blk.new (w.alloc (.cells #[.int .u8 eKind, .int .i64 eNum, .int .i64 eView, .int .i64 eClient, .int .i64 eSerial, .int .u8 eOpKind, .int .i64 eOpAt, .int .i64 eOpN, .slice eOpDataA eOpDatan eOpDatac, .slice eOpOldA eOpOldn eOpOldc, .int .i64 eGroupEpoch, .slice eGroupMembersA eGroupMembersn eGroupMembersc] 49)) [.int .u8 0, .slice none 0 0] 40
    rwa [World.size_alloc] at this
  have hb0 : Below w.heap.size w w0 := by rw [← hw0]; exact ((Below.refl _ _).alloc (Nat.le_refl _) _).alloc (by simp) _
  have Hw0 := hide hw0
  clear hw0
  have h0 := h.below hb0
  have zl := hZ.lt
  have hlt := h.lts
  have l1 := hlt f.mb (.inl rfl)
  have y0 := Blk.cell hE (j := 0) rfl; have y1 := Blk.cell hE (j := 1) rfl; have y2 := Blk.cell hE (j := 2) rfl; have y3 := Blk.cell hE (j := 3) rfl; have y4 := Blk.cell hE (j := 4) rfl; have y5 := Blk.cell hE (j := 5) rfl; have y6 := Blk.cell hE (j := 6) rfl; have y7 := Blk.cell hE (j := 7) rfl; have y8 := Blk.cell hE (j := 8) rfl; have y9 := Blk.cell hE (j := 9) rfl; have y10 := Blk.cell hE (j := 10) rfl; have y11 := Blk.cell hE (j := 11) rfl
  have s0 := hb0.size
  have HX := hide hx
  have HN := hide hn
  have q : (eNum != a.num + 1) = false := by simpa using hn
  have lv : f.v < B ∧ f.r < B ∧ f.s < B ∧ B ≤ f.mb := h.hiB
  have hok1 : rowsB a.rows = true := hok.rows
  clear hx hn
  go_enter Tryz.func10, Tryz.ntmps10
  go_wp2_with fail
  rw [Hw0.out]
  go_fit (made7_any h0)
  rintro xx w1 ⟨rfl, rfl⟩
  go_wp2_with fail
  go_fit (mEntry_any (he.below hb0))
  rw [enE_ok HX.out]
  rintro xx w1 ⟨rfl, hb1⟩
  have h1 := h0.below hb1
  have hE1 := hE.below hb1
  have hZ1 := hZ.below hb1
  clear y0 y1 y2 y3 y4 y5 y6 y7 y8 y9 y10 y11
  have y1 := hE1.cell (j := 1) rfl
  have x4 := h1.blk.cell (j := 4) rfl
  have s1 := hb1.size
  go_wp2_with fail
  go_region
  all_goals
    have xf4 := h1.blk.frozen 4
    have hM2 := ((((h.avoid (Z := fun b => w.heap.size ≤ b ∧ b < w.heap.size + 2) (fun b hb => hb.1)).below hb0).below hb1).below (Below.refl _ _).drew).renum eNum
    obtain ⟨w2, hw2⟩ : ∃ y, w1.drew.setCell ⟨f.mb, 4, none⟩ (.int .i64 eNum) = y := ⟨_, rfl⟩
    have F2 : Fr (fun b => b = f.mb) w1 w2 := by rw [← hw2]; exact ((Fr.refl _ w1).drew).trans (Fr.setg _ f.mb 4 _)
    rw [hw2] at hM2
    have hE2 := hE1.fr F2 (by omega)
    have hZ2 := hZ1.fr F2 (by omega)
    have s2 := F2.size
    have HM2 := hide hM2
    have Hw2 := hide hw2
    have hw2' : (w1.setCell ⟨f.mb, 4, none⟩ (.int .i64 eNum)).drew = w2 := hw2
    have Hw2' := hide hw2'
    have xm := hM2.blk.cell (j := 1) rfl
    have y3 := hE2.cell (j := 3) rfl
    have y4 := hE2.cell (j := 4) rfl
    have PT := ask_any6 hM2.tab eClient eSerial
    have hsz := hM2.sz
    simp only at hsz PT
    rw [hsz] at PT
    have KC := hide (show ∀ X, Below w2.heap.size w2 X → (X.cell? ⟨f.mb, 1, none⟩ = some (.pointer (some ⟨f.t, 0, none⟩)) ∧ X.cell? ⟨g, 3, none⟩ = some (.int .i64 eClient) ∧ X.cell? ⟨g, 4, none⟩ = some (.int .i64 eSerial)) from fun X hX => ⟨(hM2.blk.below hX).cell (j := 1) rfl, (hE2.below hX).cell (j := 3) rfl, (hE2.below hX).cell (j := 4) rfl⟩)
    have PT' := fun X (hX : Below w2.heap.size w2 X) => ask_any6 (hM2.tab.below hX) eClient eSerial
    simp only [hsz] at PT'
    have PT2 := hide PT'
    have S0 := KC.out w2.drew (Below.refl _ _).drew
    clear hw2 hw2' hM2 PT hsz PT'
    go_wp2_with fail
    first | rw [Hw2.out] | rw [Hw2'.out]
    clear y1 x4 xf4
    generalize hV : askV (tmOf a.rows) a.rows.length eClient eSerial = V at PT2
    have HV := hide hV
    clear hV
    obtain ⟨V1, V2, V3, V4⟩ := V
    simp only at PT2
    have s5 : Below w2.heap.size w2 (w2.alloc (.cells #[.int .u8 0, .slice none 0 0] 40)) := (Below.refl _ _).alloc (Nat.le_refl _) _
    have hb8 : Below w2.heap.size w2 (w2.alloc (.cells #[.int .u8 0, .slice none 0 0] 40)).drew := s5.drew
    have B8 : Blk (w2.alloc (.cells #[.int .u8 0, .slice none 0 0] 40)).drew w2.heap.size [.int .u8 0, .slice none 0 0] 40 := Blk.new w2 [.int .u8 0, .slice none 0 0] _
    have S5 := KC.out _ hb8
    have l1' : f.mb < w2.heap.size := by omega
    have l2' : g < w2.heap.size := by omega
    have KS := hide (show ∀ (X : World) (v0 v1 : Value), (X.cell? ⟨f.mb, 1, none⟩ = some (.pointer (some ⟨f.t, 0, none⟩)) ∧ X.cell? ⟨g, 3, none⟩ = some (.int .i64 eClient) ∧ X.cell? ⟨g, 4, none⟩ = some (.int .i64 eSerial)) → (((X.setCell ⟨w2.heap.size, 0, none⟩ v0).setCell ⟨w2.heap.size, 1, none⟩ v1).cell? ⟨f.mb, 1, none⟩ = some (.pointer (some ⟨f.t, 0, none⟩)) ∧ ((X.setCell ⟨w2.heap.size, 0, none⟩ v0).setCell ⟨w2.heap.size, 1, none⟩ v1).cell? ⟨g, 3, none⟩ = some (.int .i64 eClient) ∧ ((X.setCell ⟨w2.heap.size, 0, none⟩ v0).setCell ⟨w2.heap.size, 1, none⟩ v1).cell? ⟨g, 4, none⟩ = some (.int .i64 eSerial)) from fun X v0 v1 hS => ⟨cell_far2 _ _ hS.1 (by show f.mb ≠ w2.heap.size; omega), cell_far2 _ _ hS.2.1 (by show g ≠ w2.heap.size; omega), cell_far2 _ _ hS.2.2 (by show g ≠ w2.heap.size; omega)⟩)
    have S5o := fun (X : World) (hX : Below w2.heap.size w2 X) (o : Obj) => KC.out (X.alloc o) (hX.alloc hX.size o)
    have HS5 := hide S5o
    clear S5o
    go_region_held_law (fun X => X.cell? ⟨f.mb, 1, none⟩ = some (.pointer (some ⟨f.t, 0, none⟩)) ∧ X.cell? ⟨g, 3, none⟩ = some (.int .i64 eClient) ∧ X.cell? ⟨g, 4, none⟩ = some (.int .i64 eSerial)) (first | with_reducible assumption | exact S5 | exact HS5.out _ (by with_reducible assumption) _ | exact KS.out _ _ _ (by with_reducible assumption)) (first
      | (go_at_call 43; refine (PT2.out w2.drew (Below.refl _ _).drew).mono ?_; rintro xx w3 ⟨A1, dc1, rfl, hask⟩; have hb3 : Below w2.heap.size w2 w3 := ⟨hask.2.2.2.2.2.2.os, hask.2.2.2.2.2.2.tape, hask.2.2.2.2.2.2.output, hask.2.2.2.2.2.2.size, hask.2.2.2.2.2.2.block⟩; have Hask := hide hask; clear hask; have tkA : True := trivial; have S3 := KC.out _ hb3)
      | (go_at_call 43; refine (PT2.out _ hb8).mono ?_; rintro xx w3 ⟨A1, dc1, rfl, hask⟩; have hb3 : Below w2.heap.size w2 w3 := hb8.trans (hask.2.2.2.2.2.2.mono hb8.size); have hB83 := B8.below hask.2.2.2.2.2.2; have Hask := hide hask; clear hask; have tkB : True := trivial; have S3 := KC.out _ hb3; have r0 := hB83.cell (j := 0) rfl; have r1 := hB83.cell (j := 1) rfl; have q0 := hB83.frozen 0; have q1 := hB83.frozen 1))
    all_goals
      obtain ⟨a1, a2, a3, a4, a5, a6, a7⟩ := Hask.out
      (try simp only at a1 a2 a3 a4 a5)
      have hs8 := hb8.size
      have s3 := hb3.size
      have e8 : (w2.alloc (.cells #[.int .u8 0, .slice none 0 0] 40)).drew.heap.size = w2.heap.size + 1 := World.size_alloc _ _
      first
      | (clear tkA
         have a5' : ∀ a', A1 = some a' → w2.heap.size ≤ a'.block := a5
         have hbA : Below w3.heap.size w3 (w3.alloc (.cells #[.int .u8 V3, .slice A1 V4.length dc1] 40)) := (Below.refl _ _).alloc (Nat.le_refl _) _
         have hB8 := Blk.new w3 [.int .u8 V3, .slice A1 V4.length dc1] 40
         have hA4 := a4.below hbA
         have hb4 := hb3.trans (hbA.mono s3)
         obtain ⟨w4, hw4⟩ : ∃ y, w3.alloc (.cells #[.int .u8 V3, .slice A1 V4.length dc1] 40) = y := ⟨_, rfl⟩
         rw [hw4] at hB8 hA4 hb4 ⊢
         obtain ⟨g8, hg8⟩ : ∃ y, w3.heap.size = y := ⟨_, rfl⟩
         rw [hg8] at hB8 ⊢
         have h8lo : w2.heap.size ≤ g8 := by omega
         clear hg8 hw4 hbA)
      | (clear tkB
         have a5' : ∀ a', A1 = some a' → w2.heap.size ≤ a'.block := fun a' ha => by have := a5 a' ha; omega
         have F8 : Fr (fun b => b = w2.heap.size) w3 ((w3.setCell ⟨w2.heap.size, 0, none⟩ (.int .u8 V3)).setCell ⟨w2.heap.size, 1, none⟩ (.slice A1 V4.length dc1)) := (Fr.setg _ w2.heap.size 0 _).trans (Fr.setg _ w2.heap.size 1 _)
         have hB8 := (hB83.set 0 (.int .u8 V3)).set 1 (.slice A1 V4.length dc1)
         have hA4 := a4.fr F8 (fun _ a' ha => by have := a5 a' ha; omega)
         have hb4 : Below w2.heap.size w2 ((w3.setCell ⟨w2.heap.size, 0, none⟩ (.int .u8 V3)).setCell ⟨w2.heap.size, 1, none⟩ (.slice A1 V4.length dc1)) := F8.below hb3 (by omega) (fun k hk => by omega)
         obtain ⟨w4, hw4⟩ : ∃ y, ((w3.setCell ⟨w2.heap.size, 0, none⟩ (.int .u8 V3)).setCell ⟨w2.heap.size, 1, none⟩ (.slice A1 V4.length dc1)) = y := ⟨_, rfl⟩
         rw [hw4] at hB8 hA4 hb4 ⊢
         clear r0 r1 q0 q1 F8 hw4
         obtain ⟨g8, hg8⟩ : ∃ y, w2.heap.size = y := ⟨_, rfl⟩
         have hB8' : Blk w4 g8 [.int .u8 V3, .slice A1 V4.length dc1] 40 := by rw [← hg8]; exact hB8
         clear hB8
         have hB8 := hB8'
         clear hB8'
         rw [hg8]
         have h8lo : w2.heap.size ≤ g8 := by omega
         clear hg8)
      have hM4 := HM2.out.below hb4
      have hE4 := hE2.below hb4
      have hZ4 := hZ2.below hb4
      have s4 := hb4.size
      have F4 : Fr f.W w w4 := (((Fr.of_below (X := f.W) (hb0.trans (hb1.mono hb0.size))).trans' F2 (fun b hb => .inl (.inl hb))).trans (Fr.of_below hb4))
      have r0 := hB8.cell (j := 0) rfl
      have r1 := hB8.cell (j := 1) rfl
      have HV' := HV.out
      simp only [HV'] at hv
      subst hv
      have hkd := (entryB_kind HX.out).1
      have hHA : a.apply (eKind, eNum, eView, eClient, eSerial, (eOpKind, eOpAt, eOpN, eOpData, eOpOld), (eGroupEpoch, eGroupMembers)) = ({ (({ a with num := eNum } : MA).done (eKind, eNum, eView, eClient, eSerial, (eOpKind, eOpAt, eOpN, eOpData, eOpOld), (eGroupEpoch, eGroupMembers))).1 with rows := putR a.rows eClient eSerial (({ a with num := eNum } : MA).done (eKind, eNum, eView, eClient, eSerial, (eOpKind, eOpAt, eOpN, eOpData, eOpOld), (eGroupEpoch, eGroupMembers))).2.1 (({ a with num := eNum } : MA).done (eKind, eNum, eView, eClient, eSerial, (eOpKind, eOpAt, eOpN, eOpData, eOpOld), (eGroupEpoch, eGroupMembers))).2.2 }, 0, (({ a with num := eNum } : MA).done (eKind, eNum, eView, eClient, eSerial, (eOpKind, eOpAt, eOpN, eOpData, eOpOld), (eGroupEpoch, eGroupMembers))).2.1, (({ a with num := eNum } : MA).done (eKind, eNum, eView, eClient, eSerial, (eOpKind, eOpAt, eOpN, eOpData, eOpOld), (eGroupEpoch, eGroupMembers))).2.2) := by
        unfold MA.apply
        rw [if_pos HX.out, if_pos HN.out]
        simp only [HV', if_true]
      have HA := hide hHA
      clear HV' hHA
      have hM4' := (HM2.out.avoid (Z := fun b => b = g8) (fun b hb => by omega)).below hb4
      have he4 := he.fr F4 hQ
      have s8 := hB8.lt
      have DC := done7_any hM4' he4 hQ hkd (fun b hb => by rcases hb with (hy | hz) | rfl; have := hY b hy; omega; omega; omega)
      have hK5 := done_lt ({ a with num := eNum } : MA) (eKind, eNum, eView, eClient, eSerial, (eOpKind, eOpAt, eOpN, eOpData, eOpOld), (eGroupEpoch, eGroupMembers))
      have hrw := done_rows ({ a with num := eNum } : MA) (eKind, eNum, eView, eClient, eSerial, (eOpKind, eOpAt, eOpN, eOpData, eOpOld), (eGroupEpoch, eGroupMembers))
      generalize ({ a with num := eNum } : MA).done (eKind, eNum, eView, eClient, eSerial, (eOpKind, eOpAt, eOpN, eOpData, eOpOld), (eGroupEpoch, eGroupMembers)) = R at DC HA hK5 hrw
      obtain ⟨a5, K5, D5⟩ := R
      simp only at hK5 hrw
      have HDC := hide DC
      clear DC
      have y0 := Blk.cell hE4 (j := 0) rfl; have y1 := Blk.cell hE4 (j := 1) rfl; have y2 := Blk.cell hE4 (j := 2) rfl; have y3 := Blk.cell hE4 (j := 3) rfl; have y4 := Blk.cell hE4 (j := 4) rfl; have y5 := Blk.cell hE4 (j := 5) rfl; have y6 := Blk.cell hE4 (j := 6) rfl; have y7 := Blk.cell hE4 (j := 7) rfl; have y8 := Blk.cell hE4 (j := 8) rfl; have y9 := Blk.cell hE4 (j := 9) rfl; have y10 := Blk.cell hE4 (j := 10) rfl; have y11 := Blk.cell hE4 (j := 11) rfl
      go_wp2_with fail
      go_fit HDC.out
      rintro xx w5 ⟨A5, c5, rfl, d1, d2, d3, d4, ⟨NN5, B5, DD5, G5, gn5, gc5, hM5⟩, F5⟩
      simp only at d1 d3 ⊢
      have s5 := F5.size
      have hnW : ∀ b, w.heap.size ≤ b → ¬ f.W b := fun b h1 h2 => by have := hlt b h2; omega
      have hE5 := hE4.fr F5 (hnW g (by omega))
      have hZ5 := hZ4.fr F5 (hnW (g + 1) (by omega))
      have hB85 := hB8.fr F5 (hnW g8 (by omega))
      clear r0 r1 y0 y1 y2 y3 y4 y5 y6 y7 y8 y9 y10 y11
      have r0 := hB85.cell (j := 0) rfl
      have r1 := hB85.cell (j := 1) rfl
      have q0 := hB85.frozen 0
      have q1 := hB85.frozen 1
      obtain ⟨w6, hw6⟩ : ∃ y, ((w5.setCell ⟨g8, 0, none⟩ (.int .u8 K5)).setCell ⟨g8, 1, none⟩ (.slice A5 D5.length c5)) = y := ⟨_, rfl⟩
      have F6 : Fr (fun b => b = g8) w5 w6 := by rw [← hw6]; exact (Fr.setg _ g8 0 _).trans (Fr.setg _ g8 1 _)
      have hB86 : Blk w6 g8 [.int .u8 K5, .slice A5 D5.length c5] 40 := by rw [← hw6]; exact (hB85.set 0 (.int .u8 K5)).set 1 (.slice A5 D5.length c5)
      have hM6 := hM5.fr' F6 (fun b hb => .inr hb)
      have hE6 := hE5.fr F6 (by omega)
      have hZ6 := hZ5.fr F6 (by omega)
      have hD6 := d3.fr F6 (fun _ a' ha => by have := d4 a' ha; omega)
      have s6 := F6.size
      have Hw6 := hide hw6
      have xm6 := hM6.blk.cell (j := 1) rfl
      have y3 := hE6.cell (j := 3) rfl
      have y4 := hE6.cell (j := 4) rfl
      have hsz6 := hM6.sz
      rw [hrw] at hsz6
      have hP := put_any7 (hM6.tab.below (Below.refl _ _).drew) eClient eSerial K5 A5 D5.length c5 D5 hK5 rfl d1 d2 hD6.drew (by omega)
      rw [hsz6, hrw] at hP
      have HP := hide hP
      have KC6 := hide (show ∀ X, Fr (fun b => b = f.bm) w6 X → (X.cell? ⟨f.mb, 1, none⟩ = some (.pointer (some ⟨f.t, 0, none⟩)) ∧ X.cell? ⟨g, 3, none⟩ = some (.int .i64 eClient) ∧ X.cell? ⟨g, 4, none⟩ = some (.int .i64 eSerial) ∧ X.cell? ⟨g8, 0, none⟩ = some (.int .u8 K5) ∧ X.cell? ⟨g8, 1, none⟩ = some (.slice A5 D5.length c5)) from fun X hX => ⟨(hM6.blk.fr hX hM6.ne.2).cell (j := 1) rfl, (hE6.fr hX (fun e => hnW g (by omega) (by rw [e]; exact .inr (.inr (.inr (.inr rfl)))))).cell (j := 3) rfl, (hE6.fr hX (fun e => hnW g (by omega) (by rw [e]; exact .inr (.inr (.inr (.inr rfl)))))).cell (j := 4) rfl, (hB86.fr hX (fun e => hnW g8 (by omega) (by rw [e]; exact .inr (.inr (.inr (.inr rfl)))))).cell (j := 0) rfl, (hB86.fr hX (fun e => hnW g8 (by omega) (by rw [e]; exact .inr (.inr (.inr (.inr rfl)))))).cell (j := 1) rfl⟩)
      have S60 := KC6.out w6.drew (Fr.refl _ _).drew
      clear hw6 hP hsz6 xm6 y3 y4 S3
      go_wp2_with fail
      rw [Hw6.out]
      clear r0 r1 q0 q1
      go_region_held_law (fun X => X.cell? ⟨f.mb, 1, none⟩ = some (.pointer (some ⟨f.t, 0, none⟩)) ∧ X.cell? ⟨g, 3, none⟩ = some (.int .i64 eClient) ∧ X.cell? ⟨g, 4, none⟩ = some (.int .i64 eSerial) ∧ X.cell? ⟨g8, 0, none⟩ = some (.int .u8 K5) ∧ X.cell? ⟨g8, 1, none⟩ = some (.slice A5 D5.length c5)) (first | with_reducible assumption) (first
        | (go_at_call 45; refine HP.out.mono ?_; rintro xx w7 ⟨rfl, hpt⟩; have F7 : Fr (fun b => b = f.bm) w6 w7 := (Fr.refl _ w6).drew.trans (Fr.of_grown hpt.2.1 (fun k hk => (Option.some.inj hk).symm)); have Hpt := hide hpt; clear hpt; have S7 := KC6.out _ F7))
      all_goals
        have hM7 := (hM6.below (Below.refl _ _).drew).put7 (by rw [hrw]; exact hok1) (fun b hb => by have e : w6.drew.heap.size = w6.heap.size := rfl; rcases hb with (hy | hz) | rfl; have := hY b hy; omega; omega; omega) (by rw [hrw]; exact Hpt.out)
        have hnB : ∀ b, w.heap.size ≤ b → ¬ b = f.bm := fun b h1 h2 => hnW b h1 (.inr (.inr (.inr (.inr h2))))
        have hZ7 := hZ6.fr F7 (hnB _ (by omega))
        have hD7 := hD6.fr F7 (fun _ a' ha => hnB _ (by have := d4 a' ha; omega))
        have r0 := (hB86.fr F7 (hnB _ (by omega))).cell (j := 0) rfl
        have r1 := (hB86.fr F7 (hnB _ (by omega))).cell (j := 1) rfl
        have z0 := hZ7.cell (j := 0) rfl
        have z1 := hZ7.cell (j := 1) rfl
        have q0 := hZ7.frozen 0
        have q1 := hZ7.frozen 1
        have s7 := F7.size
        have hZ8 := (hZ7.set 0 (.int .u8 K5)).set 1 (.slice A5 D5.length c5)
        have Fz : Fr (fun b => b = g + 1) w7 ((w7.setCell ⟨g + 1, 0, none⟩ (.int .u8 K5)).setCell ⟨g + 1, 1, none⟩ (.slice A5 D5.length c5)) := (Fr.setg _ (g + 1) 0 _).trans (Fr.setg _ (g + 1) 1 _)
        have F8 := (((F4.trans F5).trans' F6 (fun b hb => .inr (by omega))).trans' F7 (fun b hb => .inl (.inr (.inr (.inr (.inr hb)))))).trans' Fz (fun b hb => .inr (by omega))
        obtain ⟨NN7, B7, DD7, G7, gn7, gc7, hM7⟩ := hM7
        have hM8 := (hM7.fr' Fz (fun b hb => .inl (.inr (by omega)))).free (Y' := Y) (fun b hb => .inl (.inl hb))
        have hD8 := hD7.fr Fz (fun _ a' ha => by have := d4 a' ha; omega)
        have HM8 := hide hM8
        have HF8 := hide F8
        have HD8 := hide hD8
        have HZ8 := hide hZ8
        have Hrw := hide hrw
        clear hM8 F8 hD8 hZ8 hM7 Fz S7 S60 hrw hM6 hM5 hZ7 hZ6 hZ5 hD7 hD6 d3 hM4' he4
        go_wp2
        refine bodyPost_ret (results_cell2 rfl rfl HZ8.out Tryz.underlying40 rfl (by kernel_rfl)) rfl ?_
        rw [HA.out]
        refine ⟨A5, c5, rfl, d1, d2, HD8.out, (fun a' ha => by have := d4 a' ha; omega), ⟨NN7, B7, DD7, G7, gn7, gc7, ?_⟩, HF8.out⟩
        have := HM8.out
        rw [Hrw.out] at this
        exact this

end
end Go.Proofs.YtkknkdjdneldlaaGreat
namespace Go.Proofs.YtkknkdjdneldlaaGreat
set_option maxRecDepth 20000
open Go.RowKit Go.Px Go.Maps
set_option linter.unusedVariables false
theorem stampL_mem {vs : List Int} {i : Nat} {num : Int} : ∀ {k : Nat} {v : Int}, v ∈ stampL vs i num k → v ∈ vs ∨ v = num
  | 0, v, h => .inl h
  | k + 1, v, h => by
    rcases List.mem_or_eq_of_mem_set h with h | h
    · exact stampL_mem h
    · exact .inr h
theorem doVE_mem {b z : Nat} {bs : List UInt8} {vs : List Int} {last : Int} {k : Nat} {p n : Int} {ds os : List UInt8} {num v : Int} (h : v ∈ doVE b z bs vs last k p n ds os num) : v ∈ vs ∨ v = num := by
  unfold doVE at h
  split at h
  · unfold doV at h
    split at h
    · exact stampL_mem h
    · exact .inl h
  · exact .inl h
theorem serB_num {n : Int} (h : serB n = true) : numB n = true := by
  have := serB_out h
  exact decide_eq_true ⟨by omega, by omega⟩
theorem done_vs {a : MA} {e : EntryD} {v : Int} (h : v ∈ (a.done e).1.vs) : v ∈ a.vs ∨ v = e.2.1 := by
  unfold MA.done at h
  split at h
  · exact doVE_mem h
  · split at h <;> exact .inl h
theorem done_num (a : MA) (e : EntryD) : (a.done e).1.num = a.num := by
  unfold MA.done
  split
  · rfl
  · split <;> rfl
theorem ok_apply {a : MA} (h : a.Ok) (e : EntryD) : (a.apply e).1.Ok := by
  unfold MA.apply
  by_cases h1 : entryB e = true
  · rw [if_pos h1]
    by_cases h2 : e.2.1 = a.num + 1
    · rw [if_pos h2]
      have hn := serB_num (entryB_kind h1).2
      have hb := numB_out hn
      by_cases h3 : (askV (tmOf a.rows) a.rows.length e.2.2.2.1 e.2.2.2.2.1).1 = 1
      · rw [if_pos h3]
        refine ⟨?_, putR_ok h.rows _ _ _ _, fun v hv => ?_⟩
        · show numB ((({ a with num := e.2.1 } : MA).done e).1.num) = true
          rw [done_num]; exact hn
        · have hv' : v ∈ (({ a with num := e.2.1 } : MA).done e).1.vs := hv
          show 0 ≤ v ∧ v ≤ (({ a with num := e.2.1 } : MA).done e).1.num
          rw [done_num]
          show 0 ≤ v ∧ v ≤ e.2.1
          rcases done_vs hv' with hv' | hv'
          · have := h.vs v hv'; omega
          · omega
      · rw [if_neg h3]
        exact ⟨hn, h.rows, fun v hv => by have := h.vs v hv; show 0 ≤ v ∧ v ≤ e.2.1; omega⟩
    · rw [if_neg h2]; exact h
  · rw [if_neg h1]; exact h
section
variable {Y : Nat → Prop} {w : World} {L : Nat} {f : MFp} {a : MA} {N : Nat}
theorem apply7_any {Q : Nat → Prop} {e : EntryD} {cs : List Value} (h : MX w L Y f a N) (hok : a.Ok) (he : tyEntry.Is w Q e cs) (hQ : ∀ b, Q b → ¬ f.W b) (hY : ∀ b, Y b → b < w.heap.size) (hN : N < 1000000000000) :
    Calls Tryz.prog 10 #[.pointer (some ⟨f.mb, 0, none⟩), .agg cs.toArray] w (ApplyM L Y f N (a.apply e) w) := by
  obtain ⟨NN, B, D, G, gn, gc, h⟩ := h
  cases h1 : entryB e with
  | false => exact apply7_bad h hok he h1
  | true =>
    by_cases h2 : e.2.1 = a.num + 1
    · by_cases h3 : (askV (tmOf a.rows) a.rows.length e.2.2.2.1 e.2.2.2.2.1).1 = 1
      · exact apply7_new h hok he hQ hY hN h1 h2 h3
      · exact apply7_old h hok he h1 h2 h3
    · exact apply7_order h hok he h1 h2
theorem MX.low (h : MX w L Y f a N) : ∀ k, f.W k → L ≤ k := by
  obtain ⟨NN, B, D, G, gn, gc, h⟩ := h
  exact h.low
theorem MX.lts (h : MX w L Y f a N) : ∀ k, f.W k → k < w.heap.size := by
  obtain ⟨NN, B, D, G, gn, gc, h⟩ := h
  exact h.lts
theorem MX.fr {X : Nat → Prop} {w' : World} (h : MX w L Y f a N) (hf : Fr X w w') (hX : ∀ b, X b → b < w.heap.size → Y b) : MX w' L Y f a N := by
  obtain ⟨NN, B, D, G, gn, gc, h⟩ := h
  exact ⟨NN, B, D, G, gn, gc, h.fr hf hX⟩
theorem MX.avoid {Z : Nat → Prop} (h : MX w L Y f a N) (hZ : ∀ b, Z b → w.heap.size ≤ b) : MX w L (fun b => Y b ∨ Z b) f a N := by
  obtain ⟨NN, B, D, G, gn, gc, h⟩ := h
  exact ⟨NN, B, D, G, gn, gc, h.avoid hZ⟩
theorem MX.free {Y' : Nat → Prop} (h : MX w L Y f a N) (hY : ∀ b, Y' b → Y b) : MX w L Y' f a N := by
  obtain ⟨NN, B, D, G, gn, gc, h⟩ := h
  exact ⟨NN, B, D, G, gn, gc, h.free hY⟩
end
end Go.Proofs.YtkknkdjdneldlaaGreat
namespace Go.Proofs.YtkknkdjdneldlaaGreat
set_option maxRecDepth 20000
open Go.RowKit Go.Px Go.Maps
set_option linter.unusedVariables false
/-- The blocks that the document's machine writes. -/
structure RFp where
  rb : Nat
  rv : Nat
  gb : Nat
  gv : Nat
  rt : Nat
def RFp.W (f : RFp) (k : Nat) : Prop := k = f.rb ∨ k = f.rv ∨ k = f.gb ∨ k = f.gv ∨ k = f.rt
/-- The document's machine in memory: nothing of it lies in Y; its volume's lies from lo on. -/
structure RMIs (w : World) (lo : Nat) (Y : Nat → Prop) (f : RFp) (a : MA) (NN cb cv n c : Nat) (rows sv cs : List Value) (A G : Option Addr) (gn gc : Nat) : Prop where
  blk : Blk w f.rb [.int .i64 a.num, .pointer (some ⟨f.rv, 0, none⟩), .pointer (some ⟨f.rt, 0, none⟩), .int .i64 a.ep, .slice G gn gc] 56
  vol : RVolIs w lo f.rv f.gb f.gv cb cv a.b a.z NN rows sv a.bs a.vs a.last
  tab : RfIs w f.rt A n c cs a.rows
  rq : RwRows w (fun b => ¬ Y b ∧ ¬ f.W b) cs a.rows
  aq : a.rows ≠ [] → ∀ x, A = some x → ¬ Y x.block ∧ ¬ f.W x.block
  gr : Rd w G (ints a.ms)
  gl : a.ms.length = gn
  gc_ : gn ≤ gc ∧ gc ≤ 9223372036854775807
  ok : grpOk a.ep a.ms = true
  gq : ∀ x, G = some x → ¬ Y x.block ∧ ¬ f.W x.block
  vq : ∀ i A c, i < a.b → rows[i]? = some (.slice A a.z c) → ∀ x, A = some x → ¬ Y x.block
  yA : ¬ Y f.rb ∧ ¬ Y f.rv ∧ ¬ Y f.gb ∧ ¬ Y f.gv ∧ ¬ Y f.rt
  lo2 : lo ≤ f.rb ∧ lo ≤ f.rt
  ne : f.rb ≠ f.rv ∧ f.rb ≠ f.gb ∧ f.rb ≠ f.gv ∧ f.rb ≠ f.rt ∧ f.rt ≠ f.rv ∧ f.rt ≠ f.gb ∧ f.rt ≠ f.gv
/-- .. somehow. -/
def RMX (w : World) (lo : Nat) (Y : Nat → Prop) (f : RFp) (a : MA) : Prop := ∃ NN cb cv n c rows sv cs A G gn gc, RMIs w lo Y f a NN cb cv n c rows sv cs A G gn gc
section
variable {X Y : Nat → Prop} {w w' : World} {lo : Nat} {f : RFp} {a : MA} {NN cb cv n c : Nat} {rows sv cs : List Value} {A G : Option Addr} {gn gc : Nat}
theorem RVolIs.frQ {rv gb gv b z N : Nat} {bs : List UInt8} {vs : List Int} {last : Int} (h : RVolIs w lo rv gb gv cb cv b z N rows sv bs vs last) (hq : ∀ i A c, i < b → rows[i]? = some (.slice A z c) → ∀ x, A = some x → ¬ Y x.block) (h1 : ¬ Y rv) (h2 : ¬ Y gb) (h3 : ¬ Y gv) (hf : Fr X w w') (hx : ∀ b, X b → b < w.heap.size → Y b) : RVolIs w' lo rv gb gv cb cv b z N rows sv bs vs last := by
  exact { h with
    blk := h.blk.fr hf (fun hX => h1 (hx _ hX h.blk.lt))
    row := h.row.fr hf (fun hX => h2 (hx _ hX h.row.lt))
    ver := h.ver.fr hf (fun hX => h3 (hx _ hX h.ver.lt))
    cells := fun i hi => by
      obtain ⟨A, c, q1, q2, q3, q4, q5⟩ := h.cells i hi
      exact ⟨A, c, q1, q2, q3, q4.fr hf (fun hne a ha hX => hq i A c hi q1 a ha (hx _ hX (rd_block q4 hne a ha))), q5⟩ }
theorem RVolIs.page_ne {rv gb gv b z N : Nat} {bs : List UInt8} {vs : List Int} {last : Int} (h : RVolIs w lo rv gb gv cb cv b z N rows sv bs vs last) {i : Nat} (hi : i < b) : bys (segB bs i 1 z) ≠ [] := by
  intro e
  have h1 := segB_length (p := i) (n := 1) h.lb h.hN (by omega)
  have h2 := congrArg List.length e
  rw [bys_length, h1] at h2
  have := h.hz.1
  simp at h2
  omega
theorem RfIs.fr {Q : Nat → Prop} {r : Nat} {es : List RowT} (h : RfIs w r A n c cs es) (hq : RwRows w Q cs es) (hA : es ≠ [] → ∀ x, A = some x → Q x.block) (hf : Fr X w w') (h1 : ¬ X r) (hx : ∀ b, X b → b < w.heap.size → ¬ Q b) : RfIs w' r A n c cs es ∧ RwRows w' Q cs es := by
  have hq' : RwRows w' Q cs es := by
    refine ⟨hq.1, fun j e he => ?_⟩
    obtain ⟨D, d, dc, q1, q2, q3, q4, q5, q6, q7, q8, q9, q10⟩ := hq.2 j e he
    refine ⟨D, d, dc, q1, q2, q3, q4, q5, q6, q7, q8, q9.fr hf (fun hne a ha hX => ?_), q10⟩
    exact hx _ hX (rd_block q9 hne a ha) (q10 (fun e0 => hne (by rw [e0]; rfl)) a ha)
  refine ⟨⟨h.blk.fr hf h1, h.len, h.nc, h.cm, h.rd.fr hf (fun hne a ha hX => ?_), hq'.keep (fun _ _ h _ => h) (fun _ _ => trivial)⟩, hq'⟩
  refine hx _ hX (rd_block h.rd hne a ha) (hA (fun e0 => hne ?_) a ha)
  have := hq.1
  rw [e0] at this
  exact List.eq_nil_of_length_eq_zero (by simpa using this)
theorem RMIs.fr (h : RMIs w lo Y f a NN cb cv n c rows sv cs A G gn gc) (hf : Fr X w w') (hX : ∀ b, X b → b < w.heap.size → Y b) : RMIs w' lo Y f a NN cb cv n c rows sv cs A G gn gc := by
  obtain ⟨y1, y2, y3, y4, y5⟩ := h.yA
  obtain ⟨t1, t2⟩ := h.tab.fr h.rq h.aq hf (fun hx => y5 (hX _ hx h.tab.blk.lt)) (fun b h1 h2 h3 => h3.1 (hX b h1 h2))
  exact { h with
    blk := h.blk.fr hf (fun hx => y1 (hX _ hx h.blk.lt))
    vol := h.vol.frQ h.vq y2 y3 y4 hf hX
    tab := t1
    rq := t2
    gr := h.gr.fr hf (fun hne x hx hX' => (h.gq x hx).1 (hX _ hX' (rd_block h.gr hne x hx))) }
theorem RwRows.imp {Q Q' : Nat → Prop} {es : List RowT} (h : RwRows w Q cs es) (hQ : ∀ b, b < w.heap.size → Q b → Q' b) : RwRows w Q' cs es := by
  refine ⟨h.1, fun j e he => ?_⟩
  obtain ⟨D, d, dc, q1, q2, q3, q4, q5, q6, q7, q8, q9, q10⟩ := h.2 j e he
  exact ⟨D, d, dc, q1, q2, q3, q4, q5, q6, q7, q8, q9, fun hne a ha => hQ _ (rd_block q9 (fun e0 => hne (List.map_eq_nil_iff.1 e0)) a ha) (q10 hne a ha)⟩
theorem RMIs.ms_ne (h : RMIs w lo Y f a NN cb cv n c rows sv cs A G gn gc) : ints a.ms ≠ [] := fun e => by
  have h1 : a.ms.length = 0 := by simpa [ints] using congrArg List.length e
  have := grp_len h.ok
  omega
theorem RMIs.cs_ne (h : RMIs w lo Y f a NN cb cv n c rows sv cs A G gn gc) (hne : a.rows ≠ []) : cs ≠ [] := fun e => hne (by
  have := h.rq.1
  rw [e] at this
  simp only [List.length_nil] at this
  exact List.eq_nil_of_length_eq_zero (by omega))
theorem RMIs.avoid {Z : Nat → Prop} (h : RMIs w lo Y f a NN cb cv n c rows sv cs A G gn gc) (hZ : ∀ b, Z b → w.heap.size ≤ b) : RMIs w lo (fun b => Y b ∨ Z b) f a NN cb cv n c rows sv cs A G gn gc := by
  obtain ⟨y1, y2, y3, y4, y5⟩ := h.yA
  have no : ∀ b, b < w.heap.size → ¬ Y b → ¬ (Y b ∨ Z b) := fun b h1 h2 h3 => by
    rcases h3 with h3 | h3
    · exact h2 h3
    · have := hZ b h3; omega
  exact { h with
    vq := fun i A c hi hr x hx => by
      obtain ⟨A', c', q1, q2, q3, q4, q5⟩ := h.vol.cells i hi
      rw [hr] at q1
      injection q1 with q1
      injection q1 with e1
      subst e1
      exact no _ (rd_block q4 (h.vol.page_ne hi) x hx) (h.vq i A c hi hr x hx)
    rq := h.rq.imp fun b hb hq => ⟨no b hb hq.1, hq.2⟩
    aq := fun hne x hx => ⟨no _ (rd_block h.tab.rd (h.cs_ne hne) x hx) (h.aq hne x hx).1, (h.aq hne x hx).2⟩
    gq := fun x hx => ⟨no _ (rd_block h.gr h.ms_ne x hx) (h.gq x hx).1, (h.gq x hx).2⟩
    yA := ⟨no _ h.blk.lt y1, no _ h.vol.blk.lt y2, no _ h.vol.row.lt y3, no _ h.vol.ver.lt y4, no _ h.tab.blk.lt y5⟩ }
theorem RMIs.free {Y' : Nat → Prop} (h : RMIs w lo Y f a NN cb cv n c rows sv cs A G gn gc) (hY : ∀ b, Y' b → Y b) : RMIs w lo Y' f a NN cb cv n c rows sv cs A G gn gc := by
  obtain ⟨y1, y2, y3, y4, y5⟩ := h.yA
  exact { h with
    vq := fun i A c hi hr x hx hy => h.vq i A c hi hr x hx (hY _ hy)
    rq := h.rq.imp fun b _ hq => ⟨fun hy => hq.1 (hY _ hy), hq.2⟩
    aq := fun hne x hx => ⟨fun hy => (h.aq hne x hx).1 (hY _ hy), (h.aq hne x hx).2⟩
    gq := fun x hx => ⟨fun hy => (h.gq x hx).1 (hY _ hy), (h.gq x hx).2⟩
    yA := ⟨fun hy => y1 (hY _ hy), fun hy => y2 (hY _ hy), fun hy => y3 (hY _ hy), fun hy => y4 (hY _ hy), fun hy => y5 (hY _ hy)⟩ }
theorem RMIs.below (h : RMIs w lo Y f a NN cb cv n c rows sv cs A G gn gc) (hb : Below w.heap.size w w') : RMIs w' lo Y f a NN cb cv n c rows sv cs A G gn gc :=
  h.fr (X := fun _ => False) (Fr.of_below hb) (fun b h => h.elim)
theorem RMX.fr (h : RMX w lo Y f a) (hf : Fr X w w') (hX : ∀ b, X b → b < w.heap.size → Y b) : RMX w' lo Y f a := by
  obtain ⟨NN, cb, cv, n, c, rows, sv, cs, A, G, gn, gc, h⟩ := h
  exact ⟨NN, cb, cv, n, c, rows, sv, cs, A, G, gn, gc, h.fr hf hX⟩
theorem RMX.below (h : RMX w lo Y f a) (hb : Below w.heap.size w w') : RMX w' lo Y f a :=
  h.fr (X := fun _ => False) (Fr.of_below hb) (fun b h => h.elim)
theorem RMX.avoid {Z : Nat → Prop} (h : RMX w lo Y f a) (hZ : ∀ b, Z b → w.heap.size ≤ b) : RMX w lo (fun b => Y b ∨ Z b) f a := by
  obtain ⟨NN, cb, cv, n, c, rows, sv, cs, A, G, gn, gc, h⟩ := h
  exact ⟨NN, cb, cv, n, c, rows, sv, cs, A, G, gn, gc, h.avoid hZ⟩
theorem RMX.free {Y' : Nat → Prop} (h : RMX w lo Y f a) (hY : ∀ b, Y' b → Y b) : RMX w lo Y' f a := by
  obtain ⟨NN, cb, cv, n, c, rows, sv, cs, A, G, gn, gc, h⟩ := h
  exact ⟨NN, cb, cv, n, c, rows, sv, cs, A, G, gn, gc, h.free hY⟩
theorem RMX.low (h : RMX w lo Y f a) : ∀ k, f.W k → lo ≤ k := by
  obtain ⟨NN, cb, cv, n, c, rows, sv, cs, A, G, gn, gc, h⟩ := h
  obtain ⟨l1, l2, l3⟩ := h.vol.hlo
  obtain ⟨l4, l5⟩ := h.lo2
  rintro k (rfl | rfl | rfl | rfl | rfl) <;> assumption
theorem RMX.lts (h : RMX w lo Y f a) : ∀ k, f.W k → k < w.heap.size := by
  obtain ⟨NN, cb, cv, n, c, rows, sv, cs, A, G, gn, gc, h⟩ := h
  rintro k (rfl | rfl | rfl | rfl | rfl)
  · exact h.blk.lt
  · exact h.vol.blk.lt
  · exact h.vol.row.lt
  · exact h.vol.ver.lt
  · exact h.tab.blk.lt
end
end Go.Proofs.YtkknkdjdneldlaaGreat
namespace Go.Proofs.YtkknkdjdneldlaaGreat
set_option maxRecDepth 20000
open Go.RowKit Go.Px Go.Maps
set_option linter.unusedVariables false
/-- A pointer to no machine, or to one that is nothing but zeros. -/
def Nob7 (w : World) (p : Option Addr) : Prop := p = none ∨ ∃ g, p = some ⟨g, 0, none⟩ ∧ Blk w g [.pointer none, .pointer none, .int .i64 0, .slice none 0 0, .int .i64 0] 90
theorem Nob7.below {w w' : World} {p : Option Addr} (h : Nob7 w p) (hb : Below w.heap.size w w') : Nob7 w' p := by
  rcases h with h | ⟨g, rfl, hB⟩
  · exact .inl h
  · exact .inr ⟨g, rfl, hB.below hb⟩
end Go.Proofs.YtkknkdjdneldlaaGreat
namespace Go.Proofs.YtkknkdjdneldlaaGreat
set_option maxRecDepth 20000
open Go.RowKit Go.Px Go.Maps
set_option linter.unusedVariables false
/-- All that is right of a machine. -/
structure MA.Fit (a : MA) : Prop where
  ok : a.Ok
  gk : grpOk a.ep a.ms = true
  hb : 1 ≤ a.b ∧ a.b ≤ 4096
  hz : 1 ≤ a.z ∧ a.z ≤ 4096
  lb : a.bs.length = a.b * a.z
  lv : a.vs.length = a.b
  zero : Since a.b a.z 0 (List.replicate (a.b * a.z) 0) (List.replicate a.b 0) a.bs a.vs
  last : a.last ≤ a.num
theorem since_lay {b z : Nat} {bs0 : List UInt8} {vs0 : List Int} : ∀ (ps : List PageD) (bs : List UInt8) (vs : List Int), bs.length = b * z → vs.length = b → Good b z ps → Since b z 0 bs0 vs0 bs vs →
    Since b z 0 bs0 vs0 (layB z bs ps) (layV vs ps) ∧ (layB z bs ps).length = b * z ∧ (layV vs ps).length = b
  | [], bs, vs, h1, h2, _, h3 => ⟨h3, h1, h2⟩
  | p :: r, bs, vs, h1, h2, hg, h3 => by
    obtain ⟨P, e1, e2, e3, e4⟩ := hg 0 p rfl
    have hfit : P * z + p.2.2.length ≤ bs.length := by
      rw [h1, e3, ← Nat.succ_mul]; exact Nat.mul_le_mul_right z e2
    have hs := serB_out e4
    refine since_lay r (splB bs (p.1.toNat * z) p.2.2) (vs.set p.1.toNat p.2.1) ?_ (by simp [h2]) (fun j q hq => hg (j + 1) q (by simpa using hq)) ?_
    · rw [e1, Int.toNat_natCast, splB_length hfit]; exact h1
    · intro i hi
      rw [e1, Int.toNat_natCast]
      by_cases c : P = i
      · subst c
        refine .inr ?_
        rw [List.getD_eq_getElem?_getD, List.getElem?_set_self (by omega)]
        show 0 < p.2.1
        omega
      · rcases h3 i hi with ⟨q1, q2⟩ | q1
        · refine .inl ⟨?_, fun r hr => ?_⟩
          · rw [List.getD_eq_getElem?_getD, List.getElem?_set_ne c, ← List.getD_eq_getElem?_getD]; exact q1
          · rw [splB_getD hfit, e3, if_neg]
            · exact q2 r hr
            · have := blk_out (i := i) (P := P) (M := 1) hr
              rw [Nat.one_mul] at this
              rw [this]; omega
        · refine .inr ?_
          rw [List.getD_eq_getElem?_getD, List.getElem?_set_ne c, ← List.getD_eq_getElem?_getD]; exact q1
theorem layV_mem : ∀ (ps : List PageD) (vs : List Int) (v : Int), v ∈ layV vs ps → v ∈ vs ∨ ∃ p ∈ ps, v = p.2.1
  | [], vs, v, h => .inl h
  | p :: r, vs, v, h => by
    rcases layV_mem r (vs.set p.1.toNat p.2.1) v h with h | ⟨q, hq, e⟩
    · rcases List.mem_or_eq_of_mem_set h with h | h
      · exact .inl h
      · exact .inr ⟨p, List.mem_cons_self, h⟩
    · exact .inr ⟨q, List.mem_cons_of_mem _ hq, e⟩
theorem layL_le : ∀ (ps : List PageD) (l num : Int), l ≤ num → (∀ p ∈ ps, p.2.1 ≤ num) → layL l ps ≤ num
  | [], l, num, h, _ => h
  | p :: r, l, num, h, hp => layL_le r (max l p.2.1) num (by have := hp p List.mem_cons_self; omega) (fun q hq => hp q (List.mem_cons_of_mem _ hq))
theorem versB_out {num : Int} {ps : List PageD} (h : versB num ps = true) : ∀ p ∈ ps, p.2.1 ≤ num := by
  unfold versB at h
  simpa using h
theorem fit_of {x : StateD} (hx : stateB x = true) : (MA.of x).Fit := by
  obtain ⟨n, ⟨b, z⟩, ps, rs, ep, ms⟩ := x
  obtain ⟨x1, x2, x3, x4, x5, x6⟩ := stateB_out hx
  simp only at x1 x2 x3 x4 x5 x6
  obtain ⟨b, z, rfl, rfl, hb, hz⟩ := shE_out x2
  have hg := good_of_mpA (by omega) x3
  have hv := versB_out x6
  have hn := numB_out x1
  obtain ⟨s1, s2, s3⟩ := since_lay (bs0 := List.replicate (b * z) 0) (vs0 := List.replicate b 0) ps (List.replicate (b * z) 0) (List.replicate b 0) (by simp) (by simp) hg (Since.refl _ _ _ _ _)
  refine ⟨⟨x1, x4, fun v h => ?_⟩, x5, hb, hz, s2, s3, s1, ?_⟩
  · have h' : v ∈ layV (List.replicate b 0) ps := h
    show 0 ≤ v ∧ v ≤ n
    rcases layV_mem ps _ v h' with h1 | ⟨p, hp, rfl⟩
    · have := List.eq_of_mem_replicate h1; omega
    · obtain ⟨j, hj, rfl⟩ := List.mem_iff_getElem.1 hp
      obtain ⟨P, _, _, _, e4⟩ := hg j _ (List.getElem?_eq_getElem hj)
      have := serB_out e4
      have := hv _ hp
      omega
  · show layL 0 ps ≤ n
    exact layL_le ps 0 n (by omega) hv
/-! ### Apply -/
theorem do_lens (b z : Nat) (bs : List UInt8) (vs : List Int) (last : Int) (k : Nat) (p n : Int) (ds os : List UInt8) (num : Int) (hb : bs.length = b * z) (hv : vs.length = b) :
    (doBE b z bs last k p n ds os num).length = b * z ∧ (doVE b z bs vs last k p n ds os num).length = b := by
  rcases do_changes b z bs vs last k p n ds os num with ⟨e1, e2⟩ | ⟨P, M, xs, hPM, hx, e1, e2, _⟩
  · rw [e1, e2]; exact ⟨hb, hv⟩
  · rw [e1, e2, stampL_length, splB_length (by rw [hx, hb, ← Nat.add_mul]; exact Nat.mul_le_mul_right z hPM)]
    exact ⟨hb, hv⟩
theorem doLE_le {b z : Nat} {last : Int} {k : Nat} {p n : Int} {ds os : List UInt8} {num : Int} (h : last ≤ num) : doLE b z last k p n ds os num ≤ num := by
  unfold doLE; split <;> omega
/-- What done leaves. -/
theorem done_fit {a : MA} (h : a.Fit) {e : EntryD} (hk : kindB e = true) (hn : a.num = e.2.1) (hl : a.last ≤ e.2.1) (h0 : 0 < e.2.1) :
    (a.done e).1.b = a.b ∧ (a.done e).1.z = a.z ∧ grpOk (a.done e).1.ep (a.done e).1.ms = true ∧ (a.done e).1.bs.length = a.b * a.z ∧ (a.done e).1.vs.length = a.b ∧ (a.done e).1.last ≤ e.2.1 := by
  unfold MA.done
  split
  · obtain ⟨l1, l2⟩ := do_lens a.b a.z a.bs a.vs a.last e.2.2.2.2.2.1.1 e.2.2.2.2.2.1.2.1 e.2.2.2.2.2.1.2.2.1 e.2.2.2.2.2.1.2.2.2.1 e.2.2.2.2.2.1.2.2.2.2 e.2.1 h.lb h.lv
    exact ⟨rfl, rfl, h.gk, l1, l2, doLE_le hl⟩
  · rename_i h1
    split
    · rename_i h2
      rcases kindB_two hk with hk | hk
      · exact absurd hk h1
      · exact ⟨rfl, rfl, hk.2, h.lb, h.lv, hl⟩
    · exact ⟨rfl, rfl, h.gk, h.lb, h.lv, hl⟩
theorem done_since {a : MA} {n : Int} {bs0 : List UInt8} {vs0 : List Int} (lb : a.bs.length = a.b * a.z) (lv : a.vs.length = a.b) {e : EntryD} (hs : Since a.b a.z n bs0 vs0 a.bs a.vs) (hn : n < e.2.1) : Since a.b a.z n bs0 vs0 (a.done e).1.bs (a.done e).1.vs := by
  unfold MA.done
  split
  · exact hs.step lb lv rfl _ _ _ _ _ _ hn
  · split <;> exact hs
theorem fit_apply {a : MA} (h : a.Fit) (e : EntryD) : (a.apply e).1.Fit ∧ (a.apply e).1.b = a.b ∧ (a.apply e).1.z = a.z := by
  have hok := ok_apply h.ok e
  revert hok
  unfold MA.apply
  by_cases h1 : entryB e = true
  · rw [if_pos h1]
    by_cases h2 : e.2.1 = a.num + 1
    · rw [if_pos h2]
      obtain ⟨hkd, hser⟩ := entryB_kind h1
      have hso := serB_out hser
      have hl := h.last
      by_cases h3 : (askV (tmOf a.rows) a.rows.length e.2.2.2.1 e.2.2.2.2.1).1 = 1
      · rw [if_pos h3]
        intro hok
        have h' : ({ a with num := e.2.1 } : MA).Fit := ⟨⟨serB_num hser, h.ok.rows, fun v hv => by have := h.ok.vs v hv; show 0 ≤ v ∧ v ≤ e.2.1; omega⟩, h.gk, h.hb, h.hz, h.lb, h.lv, h.zero, by show a.last ≤ e.2.1; omega⟩
        obtain ⟨d1, d2, d3, d4, d5, d6⟩ := done_fit h' hkd rfl (by show a.last ≤ e.2.1; omega) (by omega)
        have ds := done_since (n := 0) h'.lb h'.lv h'.zero (e := e) (by omega)
        have dn := done_num ({ a with num := e.2.1 } : MA) e
        refine ⟨⟨hok, d3, by rw [show _ = _ from d1]; exact h.hb, by rw [show _ = _ from d2]; exact h.hz, ?_, ?_, ?_, ?_⟩, d1, d2⟩
        · show (({ a with num := e.2.1 } : MA).done e).1.bs.length = (({ a with num := e.2.1 } : MA).done e).1.b * (({ a with num := e.2.1 } : MA).done e).1.z
          rw [d1, d2]; exact d4
        · show (({ a with num := e.2.1 } : MA).done e).1.vs.length = (({ a with num := e.2.1 } : MA).done e).1.b
          rw [d1]; exact d5
        · show Since (({ a with num := e.2.1 } : MA).done e).1.b (({ a with num := e.2.1 } : MA).done e).1.z 0 (List.replicate ((({ a with num := e.2.1 } : MA).done e).1.b * (({ a with num := e.2.1 } : MA).done e).1.z) 0) (List.replicate (({ a with num := e.2.1 } : MA).done e).1.b 0) (({ a with num := e.2.1 } : MA).done e).1.bs (({ a with num := e.2.1 } : MA).done e).1.vs
          rw [d1, d2]; exact ds
        · show (({ a with num := e.2.1 } : MA).done e).1.last ≤ (({ a with num := e.2.1 } : MA).done e).1.num
          rw [dn]; exact d6
      · rw [if_neg h3]
        intro hok
        exact ⟨⟨hok, h.gk, h.hb, h.hz, h.lb, h.lv, h.zero, by show a.last ≤ e.2.1; omega⟩, rfl, rfl⟩
    · rw [if_neg h2]; intro _; exact ⟨h, rfl, rfl⟩
  · rw [if_neg h1]; intro _; exact ⟨h, rfl, rfl⟩
/-- What was changed since an earlier machine. -/
structure MA.From (a0 a : MA) : Prop where
  b : a.b = a0.b
  z : a.z = a0.z
  num : a0.num ≤ a.num
  since : Since a0.b a0.z a0.num a0.bs a0.vs a.bs a.vs
theorem MA.From.refl (a : MA) : a.From a := ⟨rfl, rfl, Int.le_refl _, Since.refl _ _ _ _ _⟩
/-! ### alike but for the volume's last number -/
/-! ### states of machines -/
theorem getD_mem_or {vs : List Int} {i : Nat} : vs.getD i 0 ∈ vs ∨ vs.getD i 0 = 0 := by
  rw [List.getD_eq_getElem?_getD]
  cases h : vs[i]? with
  | none => exact .inr rfl
  | some v => exact .inl (List.mem_of_getElem? h)
theorem MA.Fit.ver {a : MA} (h : a.Fit) (i : Nat) : 0 ≤ a.vs.getD i 0 ∧ a.vs.getD i 0 ≤ a.num := by
  have := numB_out h.ok.num
  rcases getD_mem_or (vs := a.vs) (i := i) with hm | hm
  · exact h.ok.vs _ hm
  · omega
/-! ### a request that is done again -/
/-! ### a later state, laid -/
end Go.Proofs.YtkknkdjdneldlaaGreat
namespace Go.Proofs.YtkknkdjdneldlaaGreat
set_option maxRecDepth 20000
open Go.RowKit Go.Px Go.Maps
set_option linter.unusedVariables false
theorem shape07_any (w : World) : Calls Tryz.prog 38 #[] w fun e w' => e = .returned (shp 6 2) ∧ Below w.heap.size w w' := by
  obtain ⟨g, hg⟩ : ∃ g, w.heap.size = g := ⟨_, rfl⟩
  have hZ : Blk (w.alloc (.cells #[.int .i64 6, .int .i64 2] 23)) g [.int .i64 6, .int .i64 2] 23 := by rw [← hg]; exact Blk.new w [.int .i64 6, .int .i64 2] _
  go_enter Tryz.func38, Tryz.ntmps38
  go_wp2
  refine bodyPost_ret (results_cell rfl rfl hZ Tryz.underlying23 rfl (by kernel_rfl)) rfl ?_
  exact ⟨rfl, (Below.refl _ _).alloc (Nat.le_refl _) _⟩
theorem group07_any (w : World) : Calls Tryz.prog 39 #[] w fun e w' => ∃ A, e = .returned (grp 0 A 3 3) ∧ Rd w' A (ints [0, 1, 2]) ∧ (∀ a, A = some a → w.heap.size ≤ a.block) ∧ Below w.heap.size w w' := by
  obtain ⟨g, hg⟩ : ∃ g, w.heap.size = g := ⟨_, rfl⟩
  have hZ : Blk ((w.alloc (.cells #[.int .i64 0, .slice (some ⟨g + 1, 0, none⟩) 3 3] 28)).alloc (.cells #[.int .i64 0, .int .i64 1, .int .i64 2] 3)) g [.int .i64 0, .slice (some ⟨g + 1, 0, none⟩) 3 3] 28 := by
    rw [← hg]; exact (Blk.new w [.int .i64 0, .slice (some ⟨w.heap.size + 1, 0, none⟩) 3 3] _).alloc _
  have hr : Rd ((w.alloc (.cells #[.int .i64 0, .slice (some ⟨g + 1, 0, none⟩) 3 3] 28)).alloc (.cells #[.int .i64 0, .int .i64 1, .int .i64 2] 3)) (some ⟨g + 1, 0, none⟩) (ints [0, 1, 2]) :=
    Rd.newG (us := [.int .i64 0, .int .i64 1, .int .i64 2]) (by rw [World.size_alloc, hg])
  go_enter Tryz.func39, Tryz.ntmps39
  go_wp2
  refine bodyPost_ret (results_cell rfl rfl hZ Tryz.underlying28 rfl (by kernel_rfl)) rfl ?_
  exact ⟨_, rfl, hr, (fun a ha => by injection ha with ha; subst ha; show w.heap.size ≤ g + 1; omega), ((Below.refl _ _).alloc (Nat.le_refl _) _).alloc (by simp) _⟩
def e07 : EntryD := (1, 1, 0, 5, 1, (2, 0, 1, [97, 98], []), 0, [])
def a07 : MA := MA.of (newSt 6 2 0 [0, 1, 2])
def b07 : MA := (a07.apply e07).1
def c07 : MA := (b07.apply (1, 2, e07.2.2)).1
theorem r07 : (a07.apply e07).2 = (0, 1, []) := by decide +kernel
theorem s07 : (b07.apply (1, 2, e07.2.2)).2 = (0, 1, []) := by decide +kernel
theorem t07 : c07.num = 2 := by decide +kernel
theorem u07 : pgL c07.z c07.bs c07.vs 0 c07.b = [(0, 1, [97, 98])] := by decide +kernel
theorem fit07 : a07.Fit := fit_of (newSt_ok (by decide +kernel) (by decide +kernel))
end Go.Proofs.YtkknkdjdneldlaaGreat
namespace Go.Proofs.YtkknkdjdneldlaaGreat
set_option maxRecDepth 20000
open Go.RowKit Go.Px Go.Maps
set_option linter.unusedVariables false
set_option maxRecDepth 20000 in
set_option maxHeartbeats 6400000 in
theorem awake07_any (w : World) : Calls Tryz.prog 8 #[] w fun e w' => e = .returned (.bool true) ∧ Below w.heap.size w w' := by
  obtain ⟨B, hB⟩ : ∃ x, w.heap.size = x := ⟨_, rfl⟩
  have HB := hide hB
  clear hB
  go_enter Tryz.func8, Tryz.ntmps8
  go_wp2_with fail
  go_fit (shape07_any w)
  rintro x w1 ⟨rfl, hb1⟩
  go_wp2_with fail
  go_fit (group07_any w1)
  rintro x w2 ⟨GA, rfl, hG2, hGa, hb2⟩
  have hb02 := hb1.trans (hb2.mono hb1.size)
  go_wp2_with fail
  go_fit (new7_any 6 2 0 GA 3 3 [0, 1, 2] w2 (Y := fun _ => False) rfl (by decide) (by decide) hG2 (by decide +kernel) (by decide) (by decide) (fun b hb => hb.elim))
  rintro x w3 ⟨f, rfl, hM3, hb3⟩
  have hb03 := hb02.trans (hb3.mono hb02.size)
  have hM3 : MX w3 w2.heap.size (fun _ => False) f a07 64 := hM3
  obtain ⟨d, hd⟩ : ∃ y, w3.heap.size = y := ⟨_, rfl⟩
  obtain ⟨w4, hw4⟩ : ∃ y, (w3.alloc (.cells #[.int .u8 97, .int .u8 98] 5 (2, 3))).alloc (.cells #[.int .u8 1, .int .i64 1, .int .i64 0, .int .i64 5, .int .i64 1, .int .u8 2, .int .i64 0, .int .i64 1, .slice (some ⟨d, 0, none⟩) 2 2, .slice none 0 0, .int .i64 0, .slice none 0 0] 49) = y := ⟨_, rfl⟩
  have hE4 : Blk w4 (d + 1) [.int .u8 1, .int .i64 1, .int .i64 0, .int .i64 5, .int .i64 1, .int .u8 2, .int .i64 0, .int .i64 1, .slice (some ⟨d, 0, none⟩) 2 2, .slice none 0 0, .int .i64 0, .slice none 0 0] 49 := by
    rw [← hw4]
    have := Blk.new (w3.alloc (.cells #[.int .u8 97, .int .u8 98] 5 (2, 3))) [.int .u8 1, .int .i64 1, .int .i64 0, .int .i64 5, .int .i64 1, .int .u8 2, .int .i64 0, .int .i64 1, .slice (some ⟨d, 0, none⟩) 2 2, .slice none 0 0, .int .i64 0, .slice none 0 0] 49
    rwa [World.size_alloc, hd] at this
  have hb34 : Below w3.heap.size w3 w4 := by rw [← hw4]; exact ((Below.refl _ _).alloc (Nat.le_refl _) _).alloc (by simp) _
  have hr4 : Rd w4 (some ⟨d, 0, none⟩) (bys [97, 98]) := by
    rw [← hw4, ← hd]; exact (Rd.newN w3 [.int .u8 97, .int .u8 98] _ (2, 3)).alloc _
  have Hw4 := hide hw4
  have Hd := hide hd
  clear hw4
  have hlt := hM3.lts
  have hnW : ∀ b, d ≤ b → ¬ f.W b := fun b h1 h2 => by have := hlt b h2; omega
  have s4 : d + 1 < w4.heap.size := hE4.lt
  have hM4 := ((hM3.avoid (Z := fun b => b = d + 1) (fun b hb => by omega)).below hb34)
  have hI4 : tyEntry.Is w4 (fun b => b = d) e07 [.int .u8 1, .int .i64 1, .int .i64 0, .int .i64 5, .int .i64 1, .int .u8 2, .int .i64 0, .int .i64 1, .slice (some ⟨d, 0, none⟩) 2 2, .slice none 0 0, .int .i64 0, .slice none 0 0] := Entry_mk (by decide) (by decide) (by decide) (by decide) (by decide) (by decide) (by decide) (by decide) (by decide) (by decide) (by decide) (by decide) (by decide) (by decide) rfl (by decide) (by decide) hr4 (fun _ a ha => by injection ha with ha; subst ha; rfl) rfl (by decide) (by decide) Rd.nil (fun h => absurd rfl h) (by decide) (by decide) rfl (by decide) (by decide) Rd.nil (fun h => absurd rfl h) Ty.Rows.nil
  have AP := apply7_any hM4 fit07.ok hI4 (fun b hb => hnW b (by omega)) (fun b hb => by rcases hb with hb | hb; exact hb.elim; omega) (by decide)
  have e1 : a07.apply e07 = (b07, 0, 1, []) := by rw [← r07]; rfl
  rw [e1] at AP
  have HAP := hide AP
  clear AP e1 hd
  go_wp2_with fail
  rw [Hd.out]
  rw [Hw4.out]
  go_fit HAP.out
  rintro x w5 ⟨A5, c5, rfl, q1, q2, q3, q4, hM5, F5⟩
  simp only [List.length_nil] at q1 q3 hM5
  have hE5 := hE4.fr F5 (hnW _ (by omega))
  have hr5 := hr4.fr F5 (fun _ a ha => by injection ha with ha; subst ha; exact hnW _ (Nat.le_refl _))
  have hlt5 := hM5.lts
  have s5 := F5.size
  have hlow := hM3.low
  have z2 := hb02.size
  have z3 := hb3.size
  have hdw : w2.heap.size ≤ d := by rw [← Hd.out]; exact z3
  have hB5 : Below w.heap.size w w5 := F5.below (hb03.trans (hb34.mono hb03.size)) (by have := hb34.size; omega) (fun k hk => by have := hlow k hk; omega)
  have y1 := (hE5.alloc (.cells #[.int .u8 1, .slice A5 0 c5] 40)).cell (j := 1) rfl
  have f1 := (hE5.alloc (.cells #[.int .u8 1, .slice A5 0 c5] 40)).frozen 1
  obtain ⟨w6, hw6⟩ : ∃ y, w5.alloc (.cells #[.int .u8 1, .slice A5 0 c5] 40) = y := ⟨_, rfl⟩
  have hR6 : Blk w6 w5.heap.size [.int .u8 1, .slice A5 0 c5] 40 := by rw [← hw6]; exact Blk.new w5 [.int .u8 1, .slice A5 0 c5] _
  have hb56 : Below w5.heap.size w5 w6 := by rw [← hw6]; exact (Below.refl _ _).alloc (Nat.le_refl _) _
  have hE6 : Blk w6 (d + 1) [.int .u8 1, .int .i64 1, .int .i64 0, .int .i64 5, .int .i64 1, .int .u8 2, .int .i64 0, .int .i64 1, .slice (some ⟨d, 0, none⟩) 2 2, .slice none 0 0, .int .i64 0, .slice none 0 0] 49 := hE5.below hb56
  have hr6 := hr5.below hb56
  have hM6 := hM5.below hb56
  have s6 : w6.heap.size = w5.heap.size + 1 := by rw [← hw6, World.size_alloc]
  obtain ⟨w7, hw7⟩ : ∃ y, (w5.alloc (.cells #[.int .u8 1, .slice A5 0 c5] 40)).setCell ⟨d + 1, 1, none⟩ (.int .i64 2) = y := ⟨_, rfl⟩
  have hE7' : Blk ((w5.alloc (.cells #[.int .u8 1, .slice A5 0 c5] 40)).setCell ⟨d + 1, 1, none⟩ (.int .i64 2)) (d + 1) [.int .u8 1, .int .i64 2, .int .i64 0, .int .i64 5, .int .i64 1, .int .u8 2, .int .i64 0, .int .i64 1, .slice (some ⟨d, 0, none⟩) 2 2, .slice none 0 0, .int .i64 0, .slice none 0 0] 49 := (hE5.alloc (.cells #[.int .u8 1, .slice A5 0 c5] 40)).set 1 (.int .i64 2)
  have v0 := Blk.cell hE7' (j := 0) rfl; have v1 := Blk.cell hE7' (j := 1) rfl; have v2 := Blk.cell hE7' (j := 2) rfl; have v3 := Blk.cell hE7' (j := 3) rfl; have v4 := Blk.cell hE7' (j := 4) rfl; have v5 := Blk.cell hE7' (j := 5) rfl; have v6 := Blk.cell hE7' (j := 6) rfl; have v7 := Blk.cell hE7' (j := 7) rfl; have v8 := Blk.cell hE7' (j := 8) rfl; have v9 := Blk.cell hE7' (j := 9) rfl; have v10 := Blk.cell hE7' (j := 10) rfl; have v11 := Blk.cell hE7' (j := 11) rfl
  have F7 : Fr (fun b => b = d + 1) w6 w7 := by rw [← hw7, hw6]; exact Fr.setg w6 (d + 1) 1 _
  have hE7 : Blk w7 (d + 1) [.int .u8 1, .int .i64 2, .int .i64 0, .int .i64 5, .int .i64 1, .int .u8 2, .int .i64 0, .int .i64 1, .slice (some ⟨d, 0, none⟩) 2 2, .slice none 0 0, .int .i64 0, .slice none 0 0] 49 := by rw [← hw7]; exact hE7'
  have hR7 := hR6.fr F7 (by omega)
  have hr7 := hr6.fr F7 (fun _ a ha => by injection ha with ha; subst ha; show ¬ d = d + 1; omega)
  have hM7 := hM6.fr F7 (fun b hb _ => .inr hb)
  have s7 := F7.size
  have hB7 : Below w.heap.size w w7 := F7.below (hB5.trans (hb56.mono hB5.size)) (by omega) (fun k hk => by omega)
  have Hw7 := hide hw7
  have Hs6 := hide s6
  clear hw6 hw7 hE7'
  have hI7 : tyEntry.Is w7 (fun b => b = d) (1, 2, e07.2.2) [.int .u8 1, .int .i64 2, .int .i64 0, .int .i64 5, .int .i64 1, .int .u8 2, .int .i64 0, .int .i64 1, .slice (some ⟨d, 0, none⟩) 2 2, .slice none 0 0, .int .i64 0, .slice none 0 0] := Entry_mk (by decide) (by decide) (by decide) (by decide) (by decide) (by decide) (by decide) (by decide) (by decide) (by decide) (by decide) (by decide) (by decide) (by decide) rfl (by decide) (by decide) hr7 (fun _ a ha => by injection ha with ha; subst ha; rfl) rfl (by decide) (by decide) Rd.nil (fun h => absurd rfl h) (by decide) (by decide) rfl (by decide) (by decide) Rd.nil (fun h => absurd rfl h) Ty.Rows.nil
  have AP := apply7_any hM7 (show b07.Ok from ok_apply fit07.ok e07) hI7 (fun b hb => hnW b (by omega)) (fun b hb => by rcases hb with hb | hb; exact hb.elim; omega) (by decide)
  have e2 : b07.apply (1, 2, e07.2.2) = (c07, 0, 1, []) := by rw [← s07]; rfl
  rw [e2] at AP
  have HAP2 := hide AP
  clear AP e2 s6
  go_wp2_with fail
  rw [Hw7.out]
  go_fit HAP2.out
  rintro x w8 ⟨A8, c8, rfl, k1, k2, k3, k4, hM8, F8⟩
  simp only [List.length_nil] at k1 k3 hM8
  have hR8 := hR7.fr F8 (hnW _ (by have := Hs6.out; have := F5.size; omega))
  have s8 := F8.size
  have hB8 : Below w.heap.size w w8 := F8.below hB7 (by have := hB7.size; omega) (fun k hk => by have := hlow k hk; omega)
  obtain ⟨w9, hw9⟩ : ∃ y, w8.alloc (.cells #[.int .u8 1, .slice A8 0 c8] 40) = y := ⟨_, rfl⟩
  have hQ9 : Blk w9 w8.heap.size [.int .u8 1, .slice A8 0 c8] 40 := by rw [← hw9]; exact Blk.new w8 [.int .u8 1, .slice A8 0 c8] _
  have hb89 : Below w8.heap.size w8 w9 := by rw [← hw9]; exact (Below.refl _ _).alloc (Nat.le_refl _) _
  have hM9 := hM8.below hb89
  have hR9 := hR8.below hb89
  have hB9 := hB8.trans (hb89.mono hB8.size)
  have Hw9 := hide hw9
  clear hw9 v0 v1 v2 v3 v4 v5 v6 v7 v8 v9 v10 v11 y1 f1
  obtain ⟨NN, B9, D9, G9, gn9, gc9, hI9⟩ := hM9
  have hok9 := (fit_apply (fit_apply fit07 e07).1 (1, 2, e07.2.2)).1.ok
  go_wp2_with fail
  rw [Hw9.out]
  go_fit (state7_any hI9 hok9 0)
  rintro x w10 ⟨cs, rfl, hS10, hb10⟩
  have hB10 := hB9.trans (hb10.mono hB9.size)
  have hQ10 := hQ9.below hb10
  have hR10 := hR9.below hb10
  have hI10 := hI9.below hb10
  have e3 : c07.st 0 = (2, (6, 2), [(0, 1, [97, 98])], c07.rows, c07.ep, c07.ms) := by
    show (c07.num, ((c07.b : Int), (c07.z : Int)), pgL c07.z c07.bs c07.vs 0 c07.b, c07.rows, c07.ep, c07.ms) = _
    rw [u07, t07]; rfl
  have hS10' : tyState.Is w10 (fun k => w9.heap.size ≤ k) (c07.st 0) cs := hS10
  rw [e3] at hS10'
  generalize hst : ((2, (6, 2), [(0, 1, [97, 98])], c07.rows, c07.ep, c07.ms) : StateD) = st at hS10'
  obtain ⟨sNum, sShapeBlocks, sShapeSize, sPages, sPagesA, sPagesn, sPagesc, sPagesv, sRows, sRowsA, sRowsn, sRowsc, sRowsv, sGroupEpoch, sGroupMembers, sGroupMembersA, sGroupMembersn, sGroupMembersc, sGroupMembersv, rfl, rfl, h1_sNum, h2_sNum, h1_sShapeBlocks, h2_sShapeBlocks, h1_sShapeSize, h2_sShapeSize, hl_sPages, hc_sPages, hm_sPages, hr_sPages, hq_sPages, he_sPages, hl_sRows, hc_sRows, hm_sRows, hr_sRows, hq_sRows, he_sRows, h1_sGroupEpoch, h2_sGroupEpoch, hl_sGroupMembers, hc_sGroupMembers, hm_sGroupMembers, hr_sGroupMembers, hq_sGroupMembers, he_sGroupMembers⟩ := State_out hS10'
  simp only [Prod.mk.injEq] at hst
  obtain ⟨-, -, hpg, -⟩ := hst
  subst hpg
  obtain rfl : 1 = sPagesn := hl_sPages
  obtain ⟨pa, hpa, hat⟩ := hr_sPages.some_of (by rw [he_sPages.len]; decide)
  subst hpa
  obtain ⟨pc, hpI, hpc⟩ := he_sPages.get (k := 0) rfl
  generalize hpg : ((0, 1, [97, 98]) : PageD) = pg at hpI
  obtain ⟨tAt, tVersion, tData, tDataA, tDatan, tDatac, rfl, rfl, h1_tAt, h2_tAt, h1_tVersion, h2_tVersion, hl_tData, hc_tData, hm_tData, hr_tData, hq_tData⟩ := Page_out hpI
  simp only [Prod.mk.injEq] at hpg
  obtain ⟨-, hv1, -⟩ := hpg
  subst hv1
  obtain ⟨w11, hw11⟩ : ∃ y, w10.alloc (.cells #[.int .i64 sNum, .int .i64 sShapeBlocks, .int .i64 sShapeSize, .slice (some pa) 1 sPagesc, .slice sRowsA sRowsn sRowsc, .int .i64 sGroupEpoch, .slice sGroupMembersA sGroupMembersn sGroupMembersc] 30) = y := ⟨_, rfl⟩
  have r0 := (hR10.alloc (.cells #[.int .i64 sNum, .int .i64 sShapeBlocks, .int .i64 sShapeSize, .slice (some pa) 1 sPagesc, .slice sRowsA sRowsn sRowsc, .int .i64 sGroupEpoch, .slice sGroupMembersA sGroupMembersn sGroupMembersc] 30)).cell (j := 0) rfl
  have q0 := (hQ10.alloc (.cells #[.int .i64 sNum, .int .i64 sShapeBlocks, .int .i64 sShapeSize, .slice (some pa) 1 sPagesc, .slice sRowsA sRowsn sRowsc, .int .i64 sGroupEpoch, .slice sGroupMembersA sGroupMembersn sGroupMembersc] 30)).cell (j := 0) rfl
  have hS11 : Blk w11 w10.heap.size [.int .i64 sNum, .int .i64 sShapeBlocks, .int .i64 sShapeSize, .slice (some pa) 1 sPagesc, .slice sRowsA sRowsn sRowsc, .int .i64 sGroupEpoch, .slice sGroupMembersA sGroupMembersn sGroupMembersc] 30 := by rw [← hw11]; exact Blk.new w10 [.int .i64 sNum, .int .i64 sShapeBlocks, .int .i64 sShapeSize, .slice (some pa) 1 sPagesc, .slice sRowsA sRowsn sRowsc, .int .i64 sGroupEpoch, .slice sGroupMembersA sGroupMembersn sGroupMembersc] _
  have hb11 : Below w10.heap.size w10 w11 := by rw [← hw11]; exact (Below.refl _ _).alloc (Nat.le_refl _) _
  have hI11 := hI10.below hb11
  have v1 := below_cell hb11 (el_0S (n := 3) (i := 0) hat (hpc 1 _ rfl))
  have y3 := hS11.cell (j := 3) rfl
  have hB11 := hB10.trans (hb11.mono hB10.size)
  have Hw11 := hide hw11
  have HN := hide (num7_any hI11)
  rw [t07] at HN
  clear hw11 hat hpc
  go_wp2_with fail
  rw [Hw11.out]
  clear r0 q0
  go_fit HN.out
  rintro x w12 ⟨rfl, rfl⟩
  go_wp2
  go_ret
  exact ⟨rfl, hB11⟩
end Go.Proofs.YtkknkdjdneldlaaGreat
