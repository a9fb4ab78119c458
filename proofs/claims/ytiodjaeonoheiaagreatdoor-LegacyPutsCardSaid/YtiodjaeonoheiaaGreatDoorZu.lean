/- Contract: live of the laws. Conditions: the tables of places and of widths hold what the program's text lays. -/
import Derived.Test.YtiodjaeonoheiaaGreatDoorZr
set_option maxRecDepth 100000
set_option maxHeartbeats 8000000
namespace Go.Proofs.YtiodjaeonoheiaaGreatDoor.T
open Go.RowKit Go.Lib
def OkL (w : World) (e : Ending) (w' : World) : Prop := e = .returned (.bool true) ∧ Below w.heap.size w w'
def bud : It := ⟨⟨#[106, 111, 101]⟩, 1, 2, 0, ⟨#[74, 111, 101]⟩, true⟩
def lv1 : Nt := ⟨3, ⟨#[]⟩, ⟨#[]⟩, ⟨#[]⟩, 1, 0, 0, 0, false, [], []⟩
def lv2 : Nt := ⟨18, ⟨#[]⟩, ⟨#[]⟩, ⟨#[]⟩, 0, 0, 0, 7, false, [bud], []⟩
def lv3 : Nt := ⟨6, ⟨#[]⟩, ⟨#[]⟩, ⟨#[]⟩, 0, 0, 0, 0, false, [], []⟩
def lvA : ByteArray := ⟨#[0, 9, 0, 2, 0, 1]⟩
theorem isT_nil : isT ⟨#[]⟩ = true := isT_iff.2 ⟨[], by simp, rfl⟩
theorem isT_joe : isT ⟨#[74, 111, 101]⟩ = true := isT_iff.2 ⟨[74, 111, 101], by decide, rfl⟩
theorem txB_nil : txB ⟨#[]⟩ 0 = true := by unfold txB; rw [isT_nil]; decide
theorem txB_joe : txB ⟨#[74, 111, 101]⟩ 64 = true := by unfold txB; rw [isT_joe]; decide
theorem bud_may : itB bud = true := by
  unfold itB
  rw [if_pos (show bud.t = 0 from rfl), show txB bud.a 64 = true from txB_joe]
  decide
theorem may_lv1 : may lv1 = true := may_iff.2 ⟨by decide, hold_iff.2 ⟨by decide, txB_nil, by decide, by decide, by decide, by decide, by decide, .inr rfl, by decide, rfl, by decide, rfl⟩, fun h => absurd h (by decide)⟩
theorem may_lv2 : may lv2 = true := may_iff.2 ⟨by decide, hold_iff.2 ⟨by decide, txB_nil, by decide, by decide, by decide, by decide, by decide, .inr rfl, by decide, by show ([bud].all itB) = true; rw [List.all_cons, bud_may]; rfl, by decide, rfl⟩, fun h => absurd h (by decide)⟩
theorem may_lv3 : may lv3 = false := by
  rw [Bool.eq_false_iff]
  intro h
  have := (hold_iff.1 (may_k h 6 rfl (by decide) (by decide))).2.2.1.1
  exact absurd this (by decide)
theorem lv1_ok : lputOk lv1 0 = true := by
  unfold lputOk
  rw [may_lv1, show decide ((plc lv1.k).1 = 2) = false by decide]; rfl
theorem lv2_ok : lputOk lv2 9 = true := by
  unfold lputOk
  rw [may_lv2, show decide (Q.chk (plc lv2.k).2.1 (plc lv2.k).2.2 0 9 (mk (bodyL lv2)) = 0) = true by decide +kernel, Bool.or_true]; rfl
theorem lv3_no : lputOk lv3 0 = false := by
  unfold lputOk
  rw [may_lv3, Bool.false_and]
theorem lv1_put : lputC lv1 0 = 4 ∧ lputB lv1 0 = lvA ∧ lputX lv1 0 = 0 := by
  unfold lputC lputB lputX
  rw [if_pos lv1_ok, if_pos lv1_ok, if_pos lv1_ok, if_neg (by decide)]
  exact ⟨by decide, By.bytes_ext (by decide +kernel), rfl⟩
theorem lv2_put : lputC lv2 9 = 2 ∧ lputX lv2 9 = 0 ∧ (lputB lv2 9).size ≤ 1000000 := by
  unfold lputC lputB lputX
  rw [if_pos lv2_ok, if_pos lv2_ok, if_pos lv2_ok, if_pos (by decide)]
  exact ⟨by decide, rfl, by decide +kernel⟩
theorem lv3_put : lputC lv3 0 = 0 ∧ lputB lv3 0 = ⟨#[]⟩ ∧ lputX lv3 0 = 140 := by
  have h : ¬ lputOk lv3 0 = true := by rw [lv3_no]; decide
  unfold lputC lputB lputX
  rw [if_neg h, if_neg h, if_neg h]
  exact ⟨rfl, rfl, rfl⟩
theorem lv2_parse : lprs 2 (lputB lv2 9) = lv2 ∧ lprsE 2 (lputB lv2 9) = 0 := by
  have h := parse_put' lv2_ok (by have q := rdb_18 may_lv2 []; rw [List.append_nil] at q; exact q)
  rw [lv2_put.1] at h
  unfold lprs lprsE
  rw [if_pos h.1, if_pos h.1]
  exact ⟨h.2, rfl⟩
theorem lv4_parse : lprs 3 ⟨#[]⟩ = zN ∧ lprsE 3 ⟨#[]⟩ = 140 := by
  have h : ¬ lprsOk 3 ⟨#[]⟩ = true := fun q => by
    unfold lprsOk at q
    rw [Bool.and_eq_true] at q
    have := (may_iff.1 q.1).1
    rw [lrd_k] at this
    exact absurd this (by decide +kernel)
  unfold lprs lprsE
  rw [if_neg h, if_neg h]
  exact ⟨rfl, rfl⟩
theorem itS_one {w : World} {b : Nat} {t : TypeId} (x : It) (h : w.heap[b]? = some (.cells #[.string x.n, .int .i64 x.g, .int .i64 x.i, .int .i64 x.t, .string x.a, .bool x.w] t (0, 0))) : ItS w (some ⟨b, 0, none⟩) [x] := fun i hi => by
  obtain rfl : i = 0 := by simpa using hi
  refine ⟨b, 0, rfl, ?_, ?_, ?_, ?_, ?_, ?_⟩ <;> (rw [Lib.cell_of_heap h]; rfl)
theorem sm_nil (k c s e t : Int) (o : Bool) : Sm 1000000 ⟨k, ⟨#[]⟩, ⟨#[]⟩, ⟨#[]⟩, c, s, e, t, o, [], []⟩ := ⟨Nat.zero_le _, Nat.zero_le _, Nat.zero_le _, Nat.zero_le _, (fun y h => by cases h), Nat.zero_le _⟩
theorem lv2_load {w : World} {a : Option Addr} (az : Option Addr) (h : ItS w a [bud]) : NtL w a az lv2 := nt_load ⟨Nat.zero_le _, Nat.zero_le _, Nat.zero_le _, by decide, (fun y hy => by
  obtain rfl : y = bud := by simpa [lv2] using hy
  exact ⟨by decide, by decide⟩), Nat.zero_le _⟩ h (CdS.nil w az)
def LvP (w : World) (e : Ending) (w' : World) : Prop := ∃ (b p : Nat) (az : Option Addr) (ci cz : Nat), e = .returned (.tuple #[.agg #[.int .i64 18, .string ⟨#[]⟩, .string ⟨#[]⟩, .string ⟨#[]⟩, .int .i64 0, .int .i64 0, .int .i64 0, .int .i64 7, .bool false, .slice (some ⟨b, p, none⟩) 1 ci, .slice az 0 cz], .int .i64 0]) ∧ Below w.heap.size w w' ∧ ItS w' (some ⟨b, p, none⟩) [bud]
theorem LvP.of {w : World} {e : Ending} {w' : World} (h : LpP lv2 0 w e w') : LvP w e w' := by
  obtain ⟨ai, az, ci, cz, he, hb, hI, _, _, _⟩ := h
  obtain ⟨b, p, rfl, _⟩ := hI 0 (by decide)
  exact ⟨b, p, az, ci, cz, he, hb, hI⟩
theorem live_any (w : World) (hG : Gp w) : Calls Tryz.prog 6 #[] w (OkL w) := by
  have HG := Lib.hid (fun W (hb : Below w.heap.size w W) => hG.below hb)
  clear hG
  have CA : Hid (∀ W, Gp W → Calls Tryz.prog 7 #[.agg #[.int .i64 3, .string ⟨#[]⟩, .string ⟨#[]⟩, .string ⟨#[]⟩, .int .i64 1, .int .i64 0, .int .i64 0, .int .i64 0, .bool false, .slice none 0 0, .slice none 0 0], .int .i64 0] W (Gives (.tuple #[.int .i64 4, .string lvA, .int .i64 0]) W)) := fun W hg => by
    have h := lput_any lv1 0 none none 0 0 W (nt_load (sm_nil _ _ _ _ _ _) (ItS.nil _ _) (CdS.nil _ _)) hg
    rw [lv1_put.1, lv1_put.2.1, lv1_put.2.2] at h
    exact h
  have CB : Hid (∀ W a c, Gp W → ItS W a [bud] → Calls Tryz.prog 7 #[.agg #[.int .i64 18, .string ⟨#[]⟩, .string ⟨#[]⟩, .string ⟨#[]⟩, .int .i64 0, .int .i64 0, .int .i64 0, .int .i64 7, .bool false, .slice a 1 c, .slice none 0 0], .int .i64 9] W (Gives (.tuple #[.int .i64 2, .string (lputB lv2 9), .int .i64 0]) W)) := fun W a c hg hi => by
    have h := lput_any lv2 9 a none c 0 W (lv2_load none hi) hg
    rw [lv2_put.1, lv2_put.2.1] at h
    exact h
  have CC : Hid (∀ W, Gp W → Calls Tryz.prog 16 #[.int .i64 2, .string (lputB lv2 9)] W (LvP W)) := fun W hg => by
    have h := lparse_any 2 (lputB lv2 9) W hg lv2_put.2.2
    rw [lv2_parse.1, lv2_parse.2] at h
    exact h.mono fun _ _ => LvP.of
  have CD : Hid (∀ W, Gp W → Calls Tryz.prog 7 #[.agg #[.int .i64 6, .string ⟨#[]⟩, .string ⟨#[]⟩, .string ⟨#[]⟩, .int .i64 0, .int .i64 0, .int .i64 0, .int .i64 0, .bool false, .slice none 0 0, .slice none 0 0], .int .i64 0] W (Gives (.tuple #[.int .i64 0, .string ⟨#[]⟩, .int .i64 140]) W)) := fun W hg => by
    have h := lput_any lv3 0 none none 0 0 W (nt_load (sm_nil _ _ _ _ _ _) (ItS.nil _ _) (CdS.nil _ _)) hg
    rw [lv3_put.1, lv3_put.2.1, lv3_put.2.2] at h
    exact h
  have CE : Hid (∀ W, Gp W → Calls Tryz.prog 16 #[.int .i64 3, .string ⟨#[]⟩] W (LpP zN 140 W)) := fun W hg => by
    have h := lparse_any 3 ⟨#[]⟩ W hg (by decide)
    rw [lv4_parse.1, lv4_parse.2] at h
    exact h
  have CF : Hid (∀ W, Gp W → Calls Tryz.prog 14 #[.int .i64 15] W (Gives (.int .i64 2) W)) := fun W hg => by
    have h := lclass_any 15 W hg
    exact h
  have CG : Hid (∀ W a az ci cz, ItS W a [bud] → Calls Tryz.prog 12 #[.agg #[.int .i64 18, .string ⟨#[]⟩, .string ⟨#[]⟩, .string ⟨#[]⟩, .int .i64 0, .int .i64 0, .int .i64 0, .int .i64 7, .bool false, .slice a 1 ci, .slice az 0 cz], .agg #[.int .i64 18, .string ⟨#[]⟩, .string ⟨#[]⟩, .string ⟨#[]⟩, .int .i64 0, .int .i64 0, .int .i64 0, .int .i64 7, .bool false, .slice a 1 ci, .slice az 0 cz]] W (Gives (.bool true) W)) := fun W a az ci cz hi => by
    have h := lsame_any lv2 lv2 a az a az ci cz ci cz W (lv2_load az hi) (lv2_load az hi)
    rw [eqv_yes rfl] at h
    exact h
  have hzA : lvA.size = 6 := rfl
  have heA : (lvA.toList == [0, 9, 0, 2, 0, 1]) = true := by rw [ByteArray.toList_eq]; rfl
  have HB0 : Hid (Below w.heap.size w w) := Below.refl _ _
  generalize lvA = A at CA hzA heA
  generalize lputB lv2 9 = B at CB CC
  go_enter Tryz.func6, Tryz.ntmps6
  go_wp2_with fail
  refine (CA.out _ (HG.out _ HB0.out)).mono ?_
  rintro e w1 ⟨rfl, hb⟩
  have HB1 := trB HB0 hb
  clear hb
  go_wp2_with fail
  refine (buddy_any _).mono ?_
  rintro e w2 ⟨rfl, hb⟩
  have HB2 := trB HB1 hb
  clear hb
  have HX := Lib.hid (box_new w2 #[.string ⟨#[106, 111, 101]⟩, .int .i64 1, .int .i64 2, .int .i64 0, .string ⟨#[74, 111, 101]⟩, .bool true] 45)
  have HB2a := Lib.hid (HB2.out.alloc HB2.out.size (.cells #[.string ⟨#[106, 111, 101]⟩, .int .i64 1, .int .i64 2, .int .i64 0, .string ⟨#[74, 111, 101]⟩, .bool true] 45))
  go_wp2_with fail
  refine (CB.out _ _ _ (HG.out _ HB2a.out) (itS_one bud HX.out)).mono ?_
  rintro e w3 ⟨rfl, hb⟩
  have HB3 := trB HB2a hb
  clear hb
  go_wp2_with fail
  refine (CC.out _ (HG.out _ HB3.out)).mono ?_
  rintro e w4 ⟨bi, pi, az, ci, cz, rfl, hb, hi⟩
  have HB4 := trB HB3 hb
  have HI4 := Lib.hid hi
  clear hb hi CA CB CC HX
  have HXp := Lib.hid (box_new w4 #[.int .i64 18, .string ⟨#[]⟩, .string ⟨#[]⟩, .string ⟨#[]⟩, .int .i64 0, .int .i64 0, .int .i64 0, .int .i64 7, .bool false, .slice (some ⟨bi, pi, none⟩) 1 ci, .slice az 0 cz] 25)
  have HB4a := Lib.hid (HB4.out.alloc HB4.out.size (.cells #[.int .i64 18, .string ⟨#[]⟩, .string ⟨#[]⟩, .string ⟨#[]⟩, .int .i64 0, .int .i64 0, .int .i64 0, .int .i64 7, .bool false, .slice (some ⟨bi, pi, none⟩) 1 ci, .slice az 0 cz] 25))
  have HI5 := Lib.hid (HI4.out.below ((Below.refl w4.heap.size w4).alloc (Nat.le_refl _) (.cells #[.int .i64 18, .string ⟨#[]⟩, .string ⟨#[]⟩, .string ⟨#[]⟩, .int .i64 0, .int .i64 0, .int .i64 0, .int .i64 7, .bool false, .slice (some ⟨bi, pi, none⟩) 1 ci, .slice az 0 cz] 25)))
  go_wp2_with fail
  refine (CD.out _ (HG.out _ HB4a.out)).mono ?_
  rintro e w5 ⟨rfl, hb⟩
  have HXq := Lib.hid ((hb.block _ (heap_lt HXp.out)).trans HXp.out)
  have HB5 := trB HB4a hb
  have HI6 := Lib.hid (HI5.out.below hb)
  clear hb CD HXp HI4 HI5
  go_wp2_with fail
  refine (CE.out _ (HG.out _ HB5.out)).mono ?_
  rintro e w6 ⟨ei, ez, fi, fz, rfl, hb, -, -, -, -⟩
  have HXr := Lib.hid ((hb.block _ (heap_lt HXq.out)).trans HXq.out)
  have HB6 := trB HB5 hb
  have HI7 := Lib.hid (HI6.out.below hb)
  clear hb CE HXq HI6
  unfold nA
  generalize w4.heap.size = P at HXr ⊢
  have HXs := Lib.hid ((Below.heap_alloc w6 (.cells #[.int .i64 zN.k, .string zN.n, .string zN.x, .string zN.d, .int .i64 zN.c, .int .i64 zN.s, .int .i64 zN.e, .int .i64 zN.t, .bool zN.o, .slice ei zN.l.length fi, .slice ez zN.z.length fz] 25) _ (heap_lt HXr.out)).trans HXr.out)
  have HB7 := Lib.hid (HB6.out.alloc HB6.out.size (.cells #[.int .i64 zN.k, .string zN.n, .string zN.x, .string zN.d, .int .i64 zN.c, .int .i64 zN.s, .int .i64 zN.e, .int .i64 zN.t, .bool zN.o, .slice ei zN.l.length fi, .slice ez zN.z.length fz] 25))
  have HI8 := Lib.hid (HI7.out.below ((Below.refl w6.heap.size w6).alloc (Nat.le_refl _) (.cells #[.int .i64 zN.k, .string zN.n, .string zN.x, .string zN.d, .int .i64 zN.c, .int .i64 zN.s, .int .i64 zN.e, .int .i64 zN.t, .bool zN.o, .slice ei zN.l.length fi, .slice ez zN.z.length fz] 25)))
  clear HXr HI7
  go_upto_region 6 with fail
  generalize (w6.alloc (.cells #[.int .i64 zN.k, .string zN.n, .string zN.x, .string zN.d, .int .i64 zN.c, .int .i64 zN.s, .int .i64 zN.e, .int .i64 zN.t, .bool zN.o, .slice ei zN.l.length fi, .slice ez zN.z.length fz] 25)) = V at HXs HB7 HI8 ⊢
  have mX := bx11 HXs.out
  obtain ⟨b', p', eb, c0, c1, c2, c3, c4, c5⟩ := HI8.out 0 (by decide)
  obtain ⟨rfl, rfl⟩ : bi = b' ∧ pi = p' := by simpa using eb
  have e0 : V.cell? ⟨bi, pi, none⟩ = some (.string ⟨#[106, 111, 101]⟩) := c0
  have e1 : V.cell? ⟨bi, pi + 1, none⟩ = some (.int .i64 1) := c1
  have e2 : V.cell? ⟨bi, pi + 2, none⟩ = some (.int .i64 2) := c2
  have e3 : V.cell? ⟨bi, pi + 3, none⟩ = some (.int .i64 0) := c3
  have e4 : V.cell? ⟨bi, pi + 4, none⟩ = some (.string ⟨#[74, 111, 101]⟩) := c4
  have e5 : V.cell? ⟨bi, pi + 5, none⟩ = some (.bool true) := c5
  obtain ⟨x0, x1, x2, x3, x4, x5, x6, x7, x8, x9, x10⟩ := bx11x HXs
  have y0 : ∀ y : Ext V, y.to.cell? _ = _ := fun y => ext_cell y e0
  have y1 : ∀ y : Ext V, y.to.cell? _ = _ := fun y => ext_cell y e1
  have y2 : ∀ y : Ext V, y.to.cell? _ = _ := fun y => ext_cell y e2
  have y3 : ∀ y : Ext V, y.to.cell? _ = _ := fun y => ext_cell y e3
  have y4 : ∀ y : Ext V, y.to.cell? _ = _ := fun y => ext_cell y e4
  have y5 : ∀ y : Ext V, y.to.cell? _ = _ := fun y => ext_cell y e5
  have XN : Hid (∀ n, Xc V 9 #[.int .i64 n] (.int .i64 n)) := fun n => xc_pure fun W => lnum_any n W
  have XB : Hid (Xc V 19 #[] (.agg #[.string ⟨#[106, 111, 101]⟩, .int .i64 1, .int .i64 2, .int .i64 0, .string ⟨#[74, 111, 101]⟩, .bool true])) := fun y => buddy_any y.to
  have XF : Hid (Xc V 14 #[.int .i64 15] (.int .i64 2)) := fun y => CF.out y.to (HG.out _ (HB7.out.trans (y.below.mono HB7.out.size)))
  have XG : Hid (Xc V 12 #[.agg #[.int .i64 18, .string ⟨#[]⟩, .string ⟨#[]⟩, .string ⟨#[]⟩, .int .i64 0, .int .i64 0, .int .i64 0, .int .i64 7, .bool false, .slice (some ⟨bi, pi, none⟩) 1 ci, .slice az 0 cz], .agg #[.int .i64 18, .string ⟨#[]⟩, .string ⟨#[]⟩, .string ⟨#[]⟩, .int .i64 0, .int .i64 0, .int .i64 0, .int .i64 7, .bool false, .slice (some ⟨bi, pi, none⟩) 1 ci, .slice az 0 cz]] (.bool true)) := fun y => CG.out y.to _ _ _ _ (HI8.out.below y.below)
  have hsome := extSome V
  clear CF CG HXs HI8 eb mX c0 e0 c1 e1 c2 e2 c3 e3 c4 e4 c5 e5
  refine ext_region (by kernel_rfl) (by kernel_rfl) ?_
  repeat (go_big_quiet_step ((first | (go_at_call 9; with_reducible exact ext_call _ (XN.out _ _)) | (go_at_call 19; with_reducible exact ext_call _ (XB.out _)) | (go_at_call 14; with_reducible exact ext_call _ (XF.out _)) | (go_at_call 12; with_reducible exact ext_call _ (XG.out _)))))
  refine wpQuiet_nil ?_
  rintro _ ⟨y, hy⟩
  subst hy
  have HB8 := trB HB7 y.below
  clear x0 x1 x2 x3 x4 x5 x6 x7 x8 x9 x10 y0 y1 y2 y3 y4 y5
  go_wp2_with fail
  go_ret
  exact ⟨rfl, HB8.out⟩
end Go.Proofs.YtiodjaeonoheiaaGreatDoor.T
