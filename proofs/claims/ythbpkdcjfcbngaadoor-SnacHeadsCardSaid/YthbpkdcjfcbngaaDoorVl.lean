/- The walk of the law SnacHeads. Conditions: the table of widths holds what the program's text lays; a text takes at most what a machine can hold. -/
import Derived.Test.YthbpkdcjfcbngaaDoorVk
namespace Go.Proofs.YthbpkdcjfcbngaaDoor
open Go.RowKit Go.Lib

theorem cls_in (n : Int) : ¬ cls n < 1 ∧ ¬ 3 < cls n := by
  unfold cls
  split
  · decide
  split
  · decide
  · decide
theorem chk_in (f s g r : Int) (b : ByteArray) : 0 ≤ chk f s g r b ∧ chk f s g r b ≤ 2 := by
  rcases chk_cases f s g r b with h | h | h <;> rw [h] <;> decide
theorem put_cut {f s g r : Int} {b : ByteArray} (h : chk f s g r b = 0) : (putS f s g r b).extract 0 10 = hdS f s g r ∧ (putS f s g r b).extract 10 (putS f s g r b).size = b := by
  rw [(put_ok h).1]
  have k := (chk_zero.1 h).1
  unfold fit at k
  simp only [Bool.and_eq_true] at k
  unfold hdS
  obtain ⟨_, _, _, _, e5, e6⟩ := hd_cuts (e := b) (intS_size2 k.1.1.1) (intS_size2 k.1.1.2) (intS_size2 k.1.2) (intS_size4 k.2)
  exact ⟨e6, e5⟩
set_option maxRecDepth 100000 in
set_option maxHeartbeats 8000000 in
theorem heads_big (f s g r : Int) (b c : ByteArray) (n k : Int) (w : World) (hb : b.size ≤ 140737488351232) (hc : c.size ≤ 140737488351232) (hG : Gd w) (hl : 20000 < b.size + c.size) : Calls Tryd.prog 6 #[.agg #[.int .i64 f, .int .i64 s, .int .i64 g, .int .i64 r, .string b], .string c, .int .i64 n, .int .i64 k] w (OkL w) := by
  obtain ⟨hb0, hx0⟩ := one_box w #[.int .i64 f, .int .i64 s, .int .i64 g, .int .i64 r, .string b]
  have HB0 := Lib.hid hb0
  have HX := Lib.hid hx0
  clear hb0 hx0
  have HG := Lib.hid hG.all
  have L := Lib.hid (fun W (h : Gd W) => live_any W h)
  clear hG
  have q1 : ((20000 : Int) < (b.size : Int) + (c.size : Int)) := by omega
  obtain ⟨cX0, cX1, cX2, cX3, cX4⟩ := bx5 HX.out
  go_enter Tryd.func6, Tryd.ntmps6
  go_wp2_with fail
  refine (L.out _ (HG.out _ HB0.out)).mono ?_
  rintro e w1 ⟨rfl, hb⟩
  clear cX0 cX1 cX2 cX3 cX4
  have HX' := Lib.hid ((hb.block _ (heap_lt HX.out)).trans HX.out)
  clear HX
  have HX := HX'
  clear HX'
  have HB1 := Lib.hid (HB0.out.trans (hb.mono HB0.out.size))
  clear hb
  go_wp2_with fail
  go_ret
  exact ⟨rfl, HB1.out⟩
set_option maxRecDepth 100000 in
set_option maxHeartbeats 8000000 in
theorem heads_no (f s g r : Int) (b c : ByteArray) (n k : Int) (w : World) (hb : b.size ≤ 140737488351232) (hc : c.size ≤ 140737488351232) (hG : Gd w) (hl : ¬ 20000 < b.size + c.size) (hE : ¬ (chk f s g r b = 0 ∧ chk f s g r c = 0)) : Calls Tryd.prog 6 #[.agg #[.int .i64 f, .int .i64 s, .int .i64 g, .int .i64 r, .string b], .string c, .int .i64 n, .int .i64 k] w (OkL w) := by
  obtain ⟨hb0, hx0, ht0⟩ := two_boxes w #[.int .i64 f, .int .i64 s, .int .i64 g, .int .i64 r, .string b] #[.int .i64 f, .int .i64 s, .int .i64 g, .int .i64 r, .string c]
  have HT := Lib.hid ht0
  clear ht0
  have HB0 := Lib.hid hb0
  have HX := Lib.hid hx0
  clear hb0 hx0
  have HG := Lib.hid hG.all
  have L := Lib.hid (fun W (h : Gd W) => live_any W h)
  clear hG
  obtain ⟨qc1, qc2⟩ := cls_in n
  have CE := Lib.hid (fun W => class_any n k W)
  generalize cls n = C at CE qc1 qc2
  have CA := Lib.hid (fun W h => put_any f s g r b W hb h)
  have CB := Lib.hid (fun W h => put_any f s g r c W hc h)
  obtain ⟨i1, i2⟩ := chk_in f s g r b
  obtain ⟨i3, i4⟩ := chk_in f s g r c
  generalize chk f s g r b = E at CA hE i1 i2
  generalize chk f s g r c = E' at CB hE i3 i4
  generalize putS f s g r b = A at CA
  generalize putS f s g r c = B at CB
  have e0 : (E + E' == 0) = false := by
    have : ¬ E + E' = 0 := fun h => hE ⟨by omega, by omega⟩
    simpa using this
  clear hE
  have q1 : ¬ ((20000 : Int) < (b.size : Int) + (c.size : Int)) := by omega
  clear hl
  obtain ⟨_, hx1⟩ := one_box w #[.int .i64 f, .int .i64 s, .int .i64 g, .int .i64 r, .string b]
  obtain ⟨cX0, cX1, cX2, cX3, cX4⟩ := bx5 hx1
  clear hx1
  go_enter Tryd.func6, Tryd.ntmps6
  go_wp2_with fail
  refine (CE.out _).mono ?_
  rintro e wz ⟨rfl, hw⟩
  have hw := hw.symm
  subst hw
  clear cX0 cX1 cX2 cX3 cX4
  obtain ⟨cX0, cX1, cX2, cX3, cX4⟩ := bx5 HX.out
  obtain ⟨cT0, cT1, cT2, cT3, cT4⟩ := bx5 HT.out
  go_wp2_with fail
  refine (CA.out _ (HG.out _ HB0.out)).mono ?_
  rintro e w1 ⟨rfl, hb⟩
  clear cX0 cX1 cX2 cX3 cX4
  clear cT0 cT1 cT2 cT3 cT4
  have HX' := Lib.hid ((hb.block _ (heap_lt HX.out)).trans HX.out)
  clear HX
  have HX := HX'
  clear HX'
  have HT' := Lib.hid ((hb.block _ (heap_lt HT.out)).trans HT.out)
  clear HT
  have HT := HT'
  clear HT'
  have HB1 := Lib.hid (HB0.out.trans (hb.mono HB0.out.size))
  clear hb
  obtain ⟨cX0, cX1, cX2, cX3, cX4⟩ := bx5 HX.out
  obtain ⟨cT0, cT1, cT2, cT3, cT4⟩ := bx5 HT.out
  go_wp2_with fail
  refine (CB.out _ (HG.out _ HB1.out)).mono ?_
  rintro e w2 ⟨rfl, hb⟩
  clear cX0 cX1 cX2 cX3 cX4
  clear cT0 cT1 cT2 cT3 cT4
  have HX' := Lib.hid ((hb.block _ (heap_lt HX.out)).trans HX.out)
  clear HX
  have HX := HX'
  clear HX'
  have HT' := Lib.hid ((hb.block _ (heap_lt HT.out)).trans HT.out)
  clear HT
  have HT := HT'
  clear HT'
  have HB2 := Lib.hid (HB1.out.trans (hb.mono HB1.out.size))
  clear hb
  go_wp2_with fail
  refine (lnum_any _ _).mono ?_
  rintro e wz ⟨rfl, hw⟩
  have hw := hw.symm
  subst hw
  go_wp2_with fail
  refine (lnum_any _ _).mono ?_
  rintro e wz ⟨rfl, hw⟩
  have hw := hw.symm
  subst hw
  go_wp2_with fail
  refine (L.out _ (HG.out _ HB2.out)).mono ?_
  rintro e w3 ⟨rfl, hb⟩
  have HX' := Lib.hid ((hb.block _ (heap_lt HX.out)).trans HX.out)
  clear HX
  have HX := HX'
  clear HX'
  have HT' := Lib.hid ((hb.block _ (heap_lt HT.out)).trans HT.out)
  clear HT
  have HT := HT'
  clear HT'
  have HB3 := Lib.hid (HB2.out.trans (hb.mono HB2.out.size))
  clear hb
  go_wp2_with fail
  go_ret
  exact ⟨rfl, HB3.out⟩
set_option maxRecDepth 100000 in
set_option maxHeartbeats 8000000 in
theorem heads_in (f s g r : Int) (b c : ByteArray) (n k : Int) (w : World) (hb : b.size ≤ 140737488351232) (hc : c.size ≤ 140737488351232) (hG : Gd w) (hl : ¬ 20000 < b.size + c.size) (hE : chk f s g r b = 0) (hE' : chk f s g r c = 0) : Calls Tryd.prog 6 #[.agg #[.int .i64 f, .int .i64 s, .int .i64 g, .int .i64 r, .string b], .string c, .int .i64 n, .int .i64 k] w (OkL w) := by
  obtain ⟨hb0, hx0, ht0⟩ := two_boxes w #[.int .i64 f, .int .i64 s, .int .i64 g, .int .i64 r, .string b] #[.int .i64 f, .int .i64 s, .int .i64 g, .int .i64 r, .string c]
  have HT := Lib.hid ht0
  clear ht0
  have HB0 := Lib.hid hb0
  have HX := Lib.hid hx0
  clear hb0 hx0
  have HG := Lib.hid hG.all
  have L := Lib.hid (fun W (h : Gd W) => live_any W h)
  clear hG
  obtain ⟨qc1, qc2⟩ := cls_in n
  have CE := Lib.hid (fun W => class_any n k W)
  generalize cls n = C at CE qc1 qc2
  have CA := Lib.hid (fun W h => put_any f s g r b W hb h)
  have CB := Lib.hid (fun W h => put_any f s g r c W hc h)
  rw [hE] at CA
  rw [hE'] at CB
  obtain ⟨a1, _⟩ := put_cut hE
  obtain ⟨a3, a4⟩ := put_cut hE'
  have zA := (put_ok hE).2
  have zB := (put_ok hE').2
  have zC := (chk_zero.1 hE').2
  have zH := hdS_size (chk_zero.1 hE).1
  have hps := prs_of (chk_zero.1 hE').1 (chk_zero.1 hE').2
  have CP := Lib.hid (fun W h => parse_any (hdS f s g r ++ c) W (by rw [ByteArray.size_append]; omega) h)
  unfold PsP at CP
  rw [hps.1, hps.2] at CP
  have CP : Hid (∀ W, Gd W → Calls Tryd.prog 10 #[.string (hdS f s g r ++ c)] W (Gives (.tuple #[.agg #[.int .i64 f, .int .i64 s, .int .i64 g, .int .i64 r, .string c], .int .i64 0]) W)) := CP
  clear hE hE' hps
  generalize hdS f s g r = H at CP a1 a3 zH
  generalize putS f s g r b = A at CA a1 zA
  generalize putS f s g r c = B at CB a3 a4 zB
  have y1 : 10 ≤ A.size := by omega
  have y2 : 10 ≤ B.size := by omega
  have y3 : A.size ≤ 30010 := by omega
  have y4 : B.size ≤ 30010 := by omega
  have y5 : H.size ≤ 10 := by omega
  have y6 : c.size ≤ 20000 := by omega
  have eH : (H.toList == H.toList) = true := by simp
  have eC : (c.toList == c.toList) = true := by simp
  clear zA zB zC zH
  have q1 : ¬ ((20000 : Int) < (b.size : Int) + (c.size : Int)) := by omega
  clear hl
  obtain ⟨_, hx1⟩ := one_box w #[.int .i64 f, .int .i64 s, .int .i64 g, .int .i64 r, .string b]
  obtain ⟨cX0, cX1, cX2, cX3, cX4⟩ := bx5 hx1
  clear hx1
  go_enter Tryd.func6, Tryd.ntmps6
  go_wp2_with fail
  refine (CE.out _).mono ?_
  rintro e wz ⟨rfl, hw⟩
  have hw := hw.symm
  subst hw
  clear cX0 cX1 cX2 cX3 cX4
  obtain ⟨cX0, cX1, cX2, cX3, cX4⟩ := bx5 HX.out
  obtain ⟨cT0, cT1, cT2, cT3, cT4⟩ := bx5 HT.out
  go_wp2_with fail
  refine (CA.out _ (HG.out _ HB0.out)).mono ?_
  rintro e w1 ⟨rfl, hb⟩
  clear cX0 cX1 cX2 cX3 cX4
  clear cT0 cT1 cT2 cT3 cT4
  have HX' := Lib.hid ((hb.block _ (heap_lt HX.out)).trans HX.out)
  clear HX
  have HX := HX'
  clear HX'
  have HT' := Lib.hid ((hb.block _ (heap_lt HT.out)).trans HT.out)
  clear HT
  have HT := HT'
  clear HT'
  have HB1 := Lib.hid (HB0.out.trans (hb.mono HB0.out.size))
  clear hb
  obtain ⟨cX0, cX1, cX2, cX3, cX4⟩ := bx5 HX.out
  obtain ⟨cT0, cT1, cT2, cT3, cT4⟩ := bx5 HT.out
  go_wp2_with fail
  refine (CB.out _ (HG.out _ HB1.out)).mono ?_
  rintro e w2 ⟨rfl, hb⟩
  clear cX0 cX1 cX2 cX3 cX4
  clear cT0 cT1 cT2 cT3 cT4
  have HX' := Lib.hid ((hb.block _ (heap_lt HX.out)).trans HX.out)
  clear HX
  have HX := HX'
  clear HX'
  have HT' := Lib.hid ((hb.block _ (heap_lt HT.out)).trans HT.out)
  clear HT
  have HT := HT'
  clear HT'
  have HB2 := Lib.hid (HB1.out.trans (hb.mono HB1.out.size))
  clear hb
  go_wp2_with fail
  refine (lnum_any _ _).mono ?_
  rintro e wz ⟨rfl, hw⟩
  have hw := hw.symm
  subst hw
  go_wp2_with fail
  refine (lnum_any _ _).mono ?_
  rintro e wz ⟨rfl, hw⟩
  have hw := hw.symm
  subst hw
  go_wp2_with fail
  refine (CP.out _ (HG.out _ HB2.out)).mono ?_
  rintro e w3 ⟨rfl, hb⟩
  have HX' := Lib.hid ((hb.block _ (heap_lt HX.out)).trans HX.out)
  clear HX
  have HX := HX'
  clear HX'
  have HT' := Lib.hid ((hb.block _ (heap_lt HT.out)).trans HT.out)
  clear HT
  have HT := HT'
  clear HT'
  have HB3 := Lib.hid (HB2.out.trans (hb.mono HB2.out.size))
  clear hb
  have HX' := Lib.hid ((Below.heap_alloc w3 (.cells #[.int .i64 f, .int .i64 s, .int .i64 g, .int .i64 r, .string c] 23) _ (heap_lt HX.out)).trans HX.out)
  clear HX
  have HX := HX'
  clear HX'
  have HT' := Lib.hid ((Below.heap_alloc w3 (.cells #[.int .i64 f, .int .i64 s, .int .i64 g, .int .i64 r, .string c] 23) _ (heap_lt HT.out)).trans HT.out)
  clear HT
  have HT := HT'
  clear HT'
  have HP := Lib.hid (box_new w3 #[.int .i64 f, .int .i64 s, .int .i64 g, .int .i64 r, .string c] 23)
  have HB3a := Lib.hid (HB3.out.alloc HB3.out.size (.cells #[.int .i64 f, .int .i64 s, .int .i64 g, .int .i64 r, .string c] 23))
  obtain ⟨cT0, cT1, cT2, cT3, cT4⟩ := bx5 HT.out
  obtain ⟨cP0, cP1, cP2, cP3, cP4⟩ := bx5 HP.out
  go_wp2_with fail
  generalize w3.alloc (.cells #[.int .i64 f, .int .i64 s, .int .i64 g, .int .i64 r, .string c] 23) = W2 at HB3a HX HT HP cT0 cT1 cT2 cT3 cT4 cP0 cP1 cP2 cP3 cP4 ⊢
  have yT0 : ∀ x : Ext W2, x.to.cell? _ = _ := fun x => ext_cell x cT0
  have yT1 : ∀ x : Ext W2, x.to.cell? _ = _ := fun x => ext_cell x cT1
  have yT2 : ∀ x : Ext W2, x.to.cell? _ = _ := fun x => ext_cell x cT2
  have yT3 : ∀ x : Ext W2, x.to.cell? _ = _ := fun x => ext_cell x cT3
  have yT4 : ∀ x : Ext W2, x.to.cell? _ = _ := fun x => ext_cell x cT4
  have yP0 : ∀ x : Ext W2, x.to.cell? _ = _ := fun x => ext_cell x cP0
  have yP1 : ∀ x : Ext W2, x.to.cell? _ = _ := fun x => ext_cell x cP1
  have yP2 : ∀ x : Ext W2, x.to.cell? _ = _ := fun x => ext_cell x cP2
  have yP3 : ∀ x : Ext W2, x.to.cell? _ = _ := fun x => ext_cell x cP3
  have yP4 : ∀ x : Ext W2, x.to.cell? _ = _ := fun x => ext_cell x cP4
  have XN : Hid (∀ m, Xc W2 12 #[.int .i64 m] (.int .i64 m)) := fun m => xc_pure (fun W => lnum_any m W)
  have XL : Hid (Xc W2 7 #[] (.bool true)) := fun x => L.out x.to (HG.out _ (HB3a.out.trans (x.below.mono HB3a.out.size)))
  have hsome := extSome W2
  clear HX HP HT cT0 cT1 cT2 cT3 cT4 cP0 cP1 cP2 cP3 cP4 CE L CA CB CP
  refine ext_region (by kernel_rfl) (by kernel_rfl) ?_
  repeat (go_big_quiet_step ((first | (go_at_call 12; with_reducible exact ext_call _ (XN.out _ _)) | (go_at_call 7; with_reducible exact ext_call _ (XL.out _)))))
  refine wpQuiet_nil ?_
  rintro _ ⟨x, hx⟩
  subst hx
  have HBX := Lib.hid (HB3a.out.trans (x.below.mono HB3a.out.size))
  clear yT0 yT1 yT2 yT3 yT4 yP0 yP1 yP2 yP3 yP4
  go_wp2_with fail
  go_ret
  exact ⟨rfl, HBX.out⟩
theorem snacHeads_walk (f s g r : Int) (b c : ByteArray) (n k : Int) (w : World) (hb : b.size ≤ 140737488351232) (hc : c.size ≤ 140737488351232) (hG : Gd w) : Calls Tryd.prog 6 #[.agg #[.int .i64 f, .int .i64 s, .int .i64 g, .int .i64 r, .string b], .string c, .int .i64 n, .int .i64 k] w (OkL w) := by
  by_cases hl : 20000 < b.size + c.size
  · exact heads_big f s g r b c n k w hb hc hG hl
  by_cases hE : chk f s g r b = 0 ∧ chk f s g r c = 0
  · exact heads_in f s g r b c n k w hb hc hG hl hE.1 hE.2
  · exact heads_no f s g r b c n k w hb hc hG hl hE
end Go.Proofs.YthbpkdcjfcbngaaDoor
