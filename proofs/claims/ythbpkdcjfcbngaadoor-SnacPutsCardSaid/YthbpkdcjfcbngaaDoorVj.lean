/- The walk of the law SnacBack. Conditions: the table of widths holds what the program's text lays; a text takes at most what a machine can hold. -/
import Derived.Test.YthbpkdcjfcbngaaDoorVi
namespace Go.Proofs.YthbpkdcjfcbngaaDoor
open Go.RowKit Go.Lib

theorem one_box (w : World) (a : Array Value) : Below w.heap.size w (w.alloc (.cells a 23)) ∧ (w.alloc (.cells a 23)).heap[w.heap.size]? = some (.cells a 23 (0, 0)) :=
  ⟨(Below.refl _ w).alloc (Nat.le_refl _) _, box_new w _ _⟩
set_option maxRecDepth 100000 in
set_option maxHeartbeats 8000000 in
theorem back_big (f s g r : Int) (b c : ByteArray) (w : World) (hb : b.size ≤ 140737488351232) (hc : c.size ≤ 140737488351232) (hG : Gd w) (hl : 20000 < b.size + c.size) : Calls Tryd.prog 4 #[.agg #[.int .i64 f, .int .i64 s, .int .i64 g, .int .i64 r, .string b], .string c] w (OkL w) := by
  obtain ⟨hb0, hx0⟩ := one_box w #[.int .i64 f, .int .i64 s, .int .i64 g, .int .i64 r, .string b]
  have HB0 := Lib.hid hb0
  have HX := Lib.hid hx0
  clear hb0 hx0
  have HG := Lib.hid hG.all
  have L := Lib.hid (fun W (h : Gd W) => live_any W h)
  clear hG
  have q1 : ((20000 : Int) < (b.size : Int) + (c.size : Int)) := by omega
  obtain ⟨cX0, cX1, cX2, cX3, cX4⟩ := bx5 HX.out
  go_enter Tryd.func4, Tryd.ntmps4
  go_wp2_with fail
  refine (L.out _ (HG.out _ HB0.out)).mono ?_
  rintro e w1 ⟨rfl, hb⟩
  clear cX0 cX1 cX2 cX3 cX4
  have HX' := Lib.hid ((hb.block _ (heap_lt HX.out)).trans HX.out)
  clear HX
  have HX := HX'
  clear HX'
  have HB1 := Lib.hid (HB0.out.trans (hb.mono HB0.out.size))
  clear hb
  go_wp2_with fail
  go_ret
  exact ⟨rfl, HB1.out⟩
set_option maxRecDepth 100000 in
set_option maxHeartbeats 8000000 in
theorem back_00 (f s g r : Int) (b c : ByteArray) (w : World) (hb : b.size ≤ 140737488351232) (hc : c.size ≤ 140737488351232) (hG : Gd w) (hl : ¬ 20000 < b.size + c.size) (hE : chk f s g r b = 0) (hP : 10 ≤ c.size ∧ c.size ≤ 8192) : Calls Tryd.prog 4 #[.agg #[.int .i64 f, .int .i64 s, .int .i64 g, .int .i64 r, .string b], .string c] w (OkL w) := by
  obtain ⟨hb0, hx0⟩ := one_box w #[.int .i64 f, .int .i64 s, .int .i64 g, .int .i64 r, .string b]
  have HB0 := Lib.hid hb0
  have HX := Lib.hid hx0
  clear hb0 hx0
  have HG := Lib.hid hG.all
  have L := Lib.hid (fun W (h : Gd W) => live_any W h)
  clear hG
  have CA := Lib.hid (fun W h => put_any f s g r b W hb h)
  have CP := Lib.hid (fun W h => parse_any c W hc h)
  unfold PsP at CP
  have hz := (put_ok hE).2
  have hps := prs_of (chk_zero.1 hE).1 (chk_zero.1 hE).2
  rw [← (put_ok hE).1] at hps
  have CT := Lib.hid (fun W h => parse_any (putS f s g r b) W (by omega) h)
  unfold PsP at CT
  rw [hps.1, hps.2] at CT
  have CT : Hid (∀ W, Gd W → Calls Tryd.prog 10 #[.string (putS f s g r b)] W (Gives (.tuple #[.agg #[.int .i64 f, .int .i64 s, .int .i64 g, .int .i64 r, .string b], .int .i64 0]) W)) := CT
  rw [hE] at CA
  clear hE hps
  generalize putS f s g r b = X at CA CT hz
  have eb : (b.toList == b.toList) = true := by simp
  have hz8 : b.size ≤ 20000 := by omega
  obtain ⟨g1, g2⟩ := put_prs (prsOk_iff.2 hP)
  have hbz : (prs c).b.size ≤ 140737488351232 := by
    rw [(prs_yes hP).1]
    show (c.extract 10 c.size).size ≤ _
    rw [cut_size c 10 c.size (Nat.le_refl _)]
    omega
  rw [(prs_yes hP).2] at CP
  clear hP
  generalize prs c = p at CP g1 g2 hbz
  obtain ⟨N0, N1, N2, N3, B⟩ := p
  have CP : Hid (∀ W, Gd W → Calls Tryd.prog 10 #[.string c] W (Gives (.tuple #[.agg #[.int .i64 N0, .int .i64 N1, .int .i64 N2, .int .i64 N3, .string B], .int .i64 0]) W)) := CP
  have CB : Hid (∀ W, Gd W → Calls Tryd.prog 8 #[.agg #[.int .i64 N0, .int .i64 N1, .int .i64 N2, .int .i64 N3, .string B]] W (Gives (.tuple #[.string c, .int .i64 0]) W)) := fun W h => by
    have k := put_any N0 N1 N2 N3 B W hbz h
    rw [g1, g2] at k
    exact k
  have CC : Hid (∀ W, Gd W → Calls Tryd.prog 13 #[.agg #[.int .i64 N0, .int .i64 N1, .int .i64 N2, .int .i64 N3, .string B]] W (Gives (.int .i64 0) W)) := fun W h => by
    have k := check_any N0 N1 N2 N3 B W hbz h
    rw [g1] at k
    exact k
  clear g1 g2
  have ec : (c.toList == c.toList) = true := by simp
  have q1 : ¬ ((20000 : Int) < (b.size : Int) + (c.size : Int)) := by omega
  clear hl
  obtain ⟨cX0, cX1, cX2, cX3, cX4⟩ := bx5 HX.out
  go_enter Tryd.func4, Tryd.ntmps4
  go_wp2_with fail
  refine (CA.out _ (HG.out _ HB0.out)).mono ?_
  rintro e w1 ⟨rfl, hb⟩
  clear cX0 cX1 cX2 cX3 cX4
  have HX' := Lib.hid ((hb.block _ (heap_lt HX.out)).trans HX.out)
  clear HX
  have HX := HX'
  clear HX'
  have HB1 := Lib.hid (HB0.out.trans (hb.mono HB0.out.size))
  clear hb
  obtain ⟨cX0, cX1, cX2, cX3, cX4⟩ := bx5 HX.out
  go_wp2_with fail
  refine (lnum_any _ _).mono ?_
  rintro e wz ⟨rfl, hw⟩
  have hw := hw.symm
  subst hw
  go_wp2_with fail
  refine (CT.out _ (HG.out _ HB1.out)).mono ?_
  rintro e w2 ⟨rfl, hb⟩
  clear cX0 cX1 cX2 cX3 cX4
  have HX' := Lib.hid ((hb.block _ (heap_lt HX.out)).trans HX.out)
  clear HX
  have HX := HX'
  clear HX'
  have HB2 := Lib.hid (HB1.out.trans (hb.mono HB1.out.size))
  clear hb
  have HX' := Lib.hid ((Below.heap_alloc w2 (.cells #[.int .i64 f, .int .i64 s, .int .i64 g, .int .i64 r, .string b] 23) _ (heap_lt HX.out)).trans HX.out)
  clear HX
  have HX := HX'
  clear HX'
  have HT := Lib.hid (box_new w2 #[.int .i64 f, .int .i64 s, .int .i64 g, .int .i64 r, .string b] 23)
  have HB2a := Lib.hid (HB2.out.alloc HB2.out.size (.cells #[.int .i64 f, .int .i64 s, .int .i64 g, .int .i64 r, .string b] 23))
  obtain ⟨cX0, cX1, cX2, cX3, cX4⟩ := bx5 HX.out
  obtain ⟨cT0, cT1, cT2, cT3, cT4⟩ := bx5 HT.out
  go_wp2_with fail
  refine (lnum_any _ _).mono ?_
  rintro e wz ⟨rfl, hw⟩
  have hw := hw.symm
  subst hw
  go_wp2_with fail
  refine (CP.out _ (HG.out _ HB2a.out)).mono ?_
  rintro e w3 ⟨rfl, hb⟩
  clear cX0 cX1 cX2 cX3 cX4
  clear cT0 cT1 cT2 cT3 cT4
  have HX' := Lib.hid ((hb.block _ (heap_lt HX.out)).trans HX.out)
  clear HX
  have HX := HX'
  clear HX'
  have HT' := Lib.hid ((hb.block _ (heap_lt HT.out)).trans HT.out)
  clear HT
  have HT := HT'
  clear HT'
  have HB3 := Lib.hid (HB2a.out.trans (hb.mono HB2a.out.size))
  clear hb
  have HX' := Lib.hid ((Below.heap_alloc w3 (.cells #[.int .i64 N0, .int .i64 N1, .int .i64 N2, .int .i64 N3, .string B] 23) _ (heap_lt HX.out)).trans HX.out)
  clear HX
  have HX := HX'
  clear HX'
  have HT' := Lib.hid ((Below.heap_alloc w3 (.cells #[.int .i64 N0, .int .i64 N1, .int .i64 N2, .int .i64 N3, .string B] 23) _ (heap_lt HT.out)).trans HT.out)
  clear HT
  have HT := HT'
  clear HT'
  have HP := Lib.hid (box_new w3 #[.int .i64 N0, .int .i64 N1, .int .i64 N2, .int .i64 N3, .string B] 23)
  have HB3a := Lib.hid (HB3.out.alloc HB3.out.size (.cells #[.int .i64 N0, .int .i64 N1, .int .i64 N2, .int .i64 N3, .string B] 23))
  obtain ⟨cP0, cP1, cP2, cP3, cP4⟩ := bx5 HP.out
  go_wp2_with fail
  refine (lnum_any _ _).mono ?_
  rintro e wz ⟨rfl, hw⟩
  have hw := hw.symm
  subst hw
  go_wp2_with fail
  refine (CB.out _ (HG.out _ HB3a.out)).mono ?_
  rintro e w4 ⟨rfl, hb⟩
  clear cP0 cP1 cP2 cP3 cP4
  have HX' := Lib.hid ((hb.block _ (heap_lt HX.out)).trans HX.out)
  clear HX
  have HX := HX'
  clear HX'
  have HT' := Lib.hid ((hb.block _ (heap_lt HT.out)).trans HT.out)
  clear HT
  have HT := HT'
  clear HT'
  have HP' := Lib.hid ((hb.block _ (heap_lt HP.out)).trans HP.out)
  clear HP
  have HP := HP'
  clear HP'
  have HB4 := Lib.hid (HB3a.out.trans (hb.mono HB3a.out.size))
  clear hb
  obtain ⟨cP0, cP1, cP2, cP3, cP4⟩ := bx5 HP.out
  go_wp2_with fail
  refine (lnum_any _ _).mono ?_
  rintro e wz ⟨rfl, hw⟩
  have hw := hw.symm
  subst hw
  go_wp2_with fail
  refine (CC.out _ (HG.out _ HB4.out)).mono ?_
  rintro e w5 ⟨rfl, hb⟩
  clear cP0 cP1 cP2 cP3 cP4
  have HX' := Lib.hid ((hb.block _ (heap_lt HX.out)).trans HX.out)
  clear HX
  have HX := HX'
  clear HX'
  have HT' := Lib.hid ((hb.block _ (heap_lt HT.out)).trans HT.out)
  clear HT
  have HT := HT'
  clear HT'
  have HP' := Lib.hid ((hb.block _ (heap_lt HP.out)).trans HP.out)
  clear HP
  have HP := HP'
  clear HP'
  have HB5 := Lib.hid (HB4.out.trans (hb.mono HB4.out.size))
  clear hb
  go_wp2_with fail
  refine (lnum_any _ _).mono ?_
  rintro e wz ⟨rfl, hw⟩
  have hw := hw.symm
  subst hw
  go_wp2_with fail
  refine (L.out _ (HG.out _ HB5.out)).mono ?_
  rintro e w6 ⟨rfl, hb⟩
  have HX' := Lib.hid ((hb.block _ (heap_lt HX.out)).trans HX.out)
  clear HX
  have HX := HX'
  clear HX'
  have HT' := Lib.hid ((hb.block _ (heap_lt HT.out)).trans HT.out)
  clear HT
  have HT := HT'
  clear HT'
  have HP' := Lib.hid ((hb.block _ (heap_lt HP.out)).trans HP.out)
  clear HP
  have HP := HP'
  clear HP'
  have HB6 := Lib.hid (HB5.out.trans (hb.mono HB5.out.size))
  clear hb
  go_wp2_with fail
  go_ret
  exact ⟨rfl, HB6.out⟩
set_option maxRecDepth 100000 in
set_option maxHeartbeats 8000000 in
theorem back_01 (f s g r : Int) (b c : ByteArray) (w : World) (hb : b.size ≤ 140737488351232) (hc : c.size ≤ 140737488351232) (hG : Gd w) (hl : ¬ 20000 < b.size + c.size) (hE : chk f s g r b = 0) (hP : ¬ (10 ≤ c.size ∧ c.size ≤ 8192)) : Calls Tryd.prog 4 #[.agg #[.int .i64 f, .int .i64 s, .int .i64 g, .int .i64 r, .string b], .string c] w (OkL w) := by
  obtain ⟨hb0, hx0⟩ := one_box w #[.int .i64 f, .int .i64 s, .int .i64 g, .int .i64 r, .string b]
  have HB0 := Lib.hid hb0
  have HX := Lib.hid hx0
  clear hb0 hx0
  have HG := Lib.hid hG.all
  have L := Lib.hid (fun W (h : Gd W) => live_any W h)
  clear hG
  have CA := Lib.hid (fun W h => put_any f s g r b W hb h)
  have CP := Lib.hid (fun W h => parse_any c W hc h)
  unfold PsP at CP
  have hz := (put_ok hE).2
  have hps := prs_of (chk_zero.1 hE).1 (chk_zero.1 hE).2
  rw [← (put_ok hE).1] at hps
  have CT := Lib.hid (fun W h => parse_any (putS f s g r b) W (by omega) h)
  unfold PsP at CT
  rw [hps.1, hps.2] at CT
  have CT : Hid (∀ W, Gd W → Calls Tryd.prog 10 #[.string (putS f s g r b)] W (Gives (.tuple #[.agg #[.int .i64 f, .int .i64 s, .int .i64 g, .int .i64 r, .string b], .int .i64 0]) W)) := CT
  rw [hE] at CA
  clear hE hps
  generalize putS f s g r b = X at CA CT hz
  have eb : (b.toList == b.toList) = true := by simp
  have hz8 : b.size ≤ 20000 := by omega
  rw [(prs_no hP).1, (prs_no hP).2] at CP
  have CP : Hid (∀ W, Gd W → Calls Tryd.prog 10 #[.string c] W (Gives (.tuple #[.agg #[.int .i64 0, .int .i64 0, .int .i64 0, .int .i64 0, .string ⟨#[]⟩], .int .i64 130]) W)) := CP
  clear hP
  have q1 : ¬ ((20000 : Int) < (b.size : Int) + (c.size : Int)) := by omega
  clear hl
  obtain ⟨cX0, cX1, cX2, cX3, cX4⟩ := bx5 HX.out
  go_enter Tryd.func4, Tryd.ntmps4
  go_wp2_with fail
  refine (CA.out _ (HG.out _ HB0.out)).mono ?_
  rintro e w1 ⟨rfl, hb⟩
  clear cX0 cX1 cX2 cX3 cX4
  have HX' := Lib.hid ((hb.block _ (heap_lt HX.out)).trans HX.out)
  clear HX
  have HX := HX'
  clear HX'
  have HB1 := Lib.hid (HB0.out.trans (hb.mono HB0.out.size))
  clear hb
  obtain ⟨cX0, cX1, cX2, cX3, cX4⟩ := bx5 HX.out
  go_wp2_with fail
  refine (lnum_any _ _).mono ?_
  rintro e wz ⟨rfl, hw⟩
  have hw := hw.symm
  subst hw
  go_wp2_with fail
  refine (CT.out _ (HG.out _ HB1.out)).mono ?_
  rintro e w2 ⟨rfl, hb⟩
  clear cX0 cX1 cX2 cX3 cX4
  have HX' := Lib.hid ((hb.block _ (heap_lt HX.out)).trans HX.out)
  clear HX
  have HX := HX'
  clear HX'
  have HB2 := Lib.hid (HB1.out.trans (hb.mono HB1.out.size))
  clear hb
  have HX' := Lib.hid ((Below.heap_alloc w2 (.cells #[.int .i64 f, .int .i64 s, .int .i64 g, .int .i64 r, .string b] 23) _ (heap_lt HX.out)).trans HX.out)
  clear HX
  have HX := HX'
  clear HX'
  have HT := Lib.hid (box_new w2 #[.int .i64 f, .int .i64 s, .int .i64 g, .int .i64 r, .string b] 23)
  have HB2a := Lib.hid (HB2.out.alloc HB2.out.size (.cells #[.int .i64 f, .int .i64 s, .int .i64 g, .int .i64 r, .string b] 23))
  obtain ⟨cX0, cX1, cX2, cX3, cX4⟩ := bx5 HX.out
  obtain ⟨cT0, cT1, cT2, cT3, cT4⟩ := bx5 HT.out
  go_wp2_with fail
  refine (lnum_any _ _).mono ?_
  rintro e wz ⟨rfl, hw⟩
  have hw := hw.symm
  subst hw
  go_wp2_with fail
  refine (CP.out _ (HG.out _ HB2a.out)).mono ?_
  rintro e w3 ⟨rfl, hb⟩
  clear cX0 cX1 cX2 cX3 cX4
  clear cT0 cT1 cT2 cT3 cT4
  have HX' := Lib.hid ((hb.block _ (heap_lt HX.out)).trans HX.out)
  clear HX
  have HX := HX'
  clear HX'
  have HT' := Lib.hid ((hb.block _ (heap_lt HT.out)).trans HT.out)
  clear HT
  have HT := HT'
  clear HT'
  have HB3 := Lib.hid (HB2a.out.trans (hb.mono HB2a.out.size))
  clear hb
  have HX' := Lib.hid ((Below.heap_alloc w3 (.cells #[.int .i64 0, .int .i64 0, .int .i64 0, .int .i64 0, .string ⟨#[]⟩] 23) _ (heap_lt HX.out)).trans HX.out)
  clear HX
  have HX := HX'
  clear HX'
  have HT' := Lib.hid ((Below.heap_alloc w3 (.cells #[.int .i64 0, .int .i64 0, .int .i64 0, .int .i64 0, .string ⟨#[]⟩] 23) _ (heap_lt HT.out)).trans HT.out)
  clear HT
  have HT := HT'
  clear HT'
  have HP := Lib.hid (box_new w3 #[.int .i64 0, .int .i64 0, .int .i64 0, .int .i64 0, .string ⟨#[]⟩] 23)
  have HB3a := Lib.hid (HB3.out.alloc HB3.out.size (.cells #[.int .i64 0, .int .i64 0, .int .i64 0, .int .i64 0, .string ⟨#[]⟩] 23))
  obtain ⟨cP0, cP1, cP2, cP3, cP4⟩ := bx5 HP.out
  go_wp2_with fail
  refine (lnum_any _ _).mono ?_
  rintro e wz ⟨rfl, hw⟩
  have hw := hw.symm
  subst hw
  go_wp2_with fail
  refine (L.out _ (HG.out _ HB3a.out)).mono ?_
  rintro e w4 ⟨rfl, hb⟩
  clear cP0 cP1 cP2 cP3 cP4
  have HX' := Lib.hid ((hb.block _ (heap_lt HX.out)).trans HX.out)
  clear HX
  have HX := HX'
  clear HX'
  have HT' := Lib.hid ((hb.block _ (heap_lt HT.out)).trans HT.out)
  clear HT
  have HT := HT'
  clear HT'
  have HP' := Lib.hid ((hb.block _ (heap_lt HP.out)).trans HP.out)
  clear HP
  have HP := HP'
  clear HP'
  have HB4 := Lib.hid (HB3a.out.trans (hb.mono HB3a.out.size))
  clear hb
  go_wp2_with fail
  go_ret
  exact ⟨rfl, HB4.out⟩
set_option maxRecDepth 100000 in
set_option maxHeartbeats 8000000 in
theorem back_10 (f s g r : Int) (b c : ByteArray) (w : World) (hb : b.size ≤ 140737488351232) (hc : c.size ≤ 140737488351232) (hG : Gd w) (hl : ¬ 20000 < b.size + c.size) (hE : ¬ chk f s g r b = 0) (hP : 10 ≤ c.size ∧ c.size ≤ 8192) : Calls Tryd.prog 4 #[.agg #[.int .i64 f, .int .i64 s, .int .i64 g, .int .i64 r, .string b], .string c] w (OkL w) := by
  obtain ⟨hb0, hx0⟩ := one_box w #[.int .i64 f, .int .i64 s, .int .i64 g, .int .i64 r, .string b]
  have HB0 := Lib.hid hb0
  have HX := Lib.hid hx0
  clear hb0 hx0
  have HG := Lib.hid hG.all
  have L := Lib.hid (fun W (h : Gd W) => live_any W h)
  clear hG
  have CA := Lib.hid (fun W h => put_any f s g r b W hb h)
  have CP := Lib.hid (fun W h => parse_any c W hc h)
  unfold PsP at CP
  have e0 : (chk f s g r b == 0) = false := by simpa using hE
  clear hE
  generalize chk f s g r b = E at CA e0
  generalize putS f s g r b = X at CA
  obtain ⟨g1, g2⟩ := put_prs (prsOk_iff.2 hP)
  have hbz : (prs c).b.size ≤ 140737488351232 := by
    rw [(prs_yes hP).1]
    show (c.extract 10 c.size).size ≤ _
    rw [cut_size c 10 c.size (Nat.le_refl _)]
    omega
  rw [(prs_yes hP).2] at CP
  clear hP
  generalize prs c = p at CP g1 g2 hbz
  obtain ⟨N0, N1, N2, N3, B⟩ := p
  have CP : Hid (∀ W, Gd W → Calls Tryd.prog 10 #[.string c] W (Gives (.tuple #[.agg #[.int .i64 N0, .int .i64 N1, .int .i64 N2, .int .i64 N3, .string B], .int .i64 0]) W)) := CP
  have CB : Hid (∀ W, Gd W → Calls Tryd.prog 8 #[.agg #[.int .i64 N0, .int .i64 N1, .int .i64 N2, .int .i64 N3, .string B]] W (Gives (.tuple #[.string c, .int .i64 0]) W)) := fun W h => by
    have k := put_any N0 N1 N2 N3 B W hbz h
    rw [g1, g2] at k
    exact k
  have CC : Hid (∀ W, Gd W → Calls Tryd.prog 13 #[.agg #[.int .i64 N0, .int .i64 N1, .int .i64 N2, .int .i64 N3, .string B]] W (Gives (.int .i64 0) W)) := fun W h => by
    have k := check_any N0 N1 N2 N3 B W hbz h
    rw [g1] at k
    exact k
  clear g1 g2
  have ec : (c.toList == c.toList) = true := by simp
  have q1 : ¬ ((20000 : Int) < (b.size : Int) + (c.size : Int)) := by omega
  clear hl
  obtain ⟨cX0, cX1, cX2, cX3, cX4⟩ := bx5 HX.out
  go_enter Tryd.func4, Tryd.ntmps4
  go_wp2_with fail
  refine (CA.out _ (HG.out _ HB0.out)).mono ?_
  rintro e w1 ⟨rfl, hb⟩
  clear cX0 cX1 cX2 cX3 cX4
  have HX' := Lib.hid ((hb.block _ (heap_lt HX.out)).trans HX.out)
  clear HX
  have HX := HX'
  clear HX'
  have HB1 := Lib.hid (HB0.out.trans (hb.mono HB0.out.size))
  clear hb
  obtain ⟨cX0, cX1, cX2, cX3, cX4⟩ := bx5 HX.out
  go_wp2_with fail
  refine (lnum_any _ _).mono ?_
  rintro e wz ⟨rfl, hw⟩
  have hw := hw.symm
  subst hw
  go_wp2_with fail
  refine (CP.out _ (HG.out _ HB1.out)).mono ?_
  rintro e w2 ⟨rfl, hb⟩
  clear cX0 cX1 cX2 cX3 cX4
  have HX' := Lib.hid ((hb.block _ (heap_lt HX.out)).trans HX.out)
  clear HX
  have HX := HX'
  clear HX'
  have HB2 := Lib.hid (HB1.out.trans (hb.mono HB1.out.size))
  clear hb
  have HX' := Lib.hid ((Below.heap_alloc w2 (.cells #[.int .i64 N0, .int .i64 N1, .int .i64 N2, .int .i64 N3, .string B] 23) _ (heap_lt HX.out)).trans HX.out)
  clear HX
  have HX := HX'
  clear HX'
  have HP := Lib.hid (box_new w2 #[.int .i64 N0, .int .i64 N1, .int .i64 N2, .int .i64 N3, .string B] 23)
  have HB2a := Lib.hid (HB2.out.alloc HB2.out.size (.cells #[.int .i64 N0, .int .i64 N1, .int .i64 N2, .int .i64 N3, .string B] 23))
  obtain ⟨cP0, cP1, cP2, cP3, cP4⟩ := bx5 HP.out
  go_wp2_with fail
  refine (lnum_any _ _).mono ?_
  rintro e wz ⟨rfl, hw⟩
  have hw := hw.symm
  subst hw
  go_wp2_with fail
  refine (CB.out _ (HG.out _ HB2a.out)).mono ?_
  rintro e w3 ⟨rfl, hb⟩
  clear cP0 cP1 cP2 cP3 cP4
  have HX' := Lib.hid ((hb.block _ (heap_lt HX.out)).trans HX.out)
  clear HX
  have HX := HX'
  clear HX'
  have HP' := Lib.hid ((hb.block _ (heap_lt HP.out)).trans HP.out)
  clear HP
  have HP := HP'
  clear HP'
  have HB3 := Lib.hid (HB2a.out.trans (hb.mono HB2a.out.size))
  clear hb
  obtain ⟨cP0, cP1, cP2, cP3, cP4⟩ := bx5 HP.out
  go_wp2_with fail
  refine (lnum_any _ _).mono ?_
  rintro e wz ⟨rfl, hw⟩
  have hw := hw.symm
  subst hw
  go_wp2_with fail
  refine (CC.out _ (HG.out _ HB3.out)).mono ?_
  rintro e w4 ⟨rfl, hb⟩
  clear cP0 cP1 cP2 cP3 cP4
  have HX' := Lib.hid ((hb.block _ (heap_lt HX.out)).trans HX.out)
  clear HX
  have HX := HX'
  clear HX'
  have HP' := Lib.hid ((hb.block _ (heap_lt HP.out)).trans HP.out)
  clear HP
  have HP := HP'
  clear HP'
  have HB4 := Lib.hid (HB3.out.trans (hb.mono HB3.out.size))
  clear hb
  go_wp2_with fail
  refine (lnum_any _ _).mono ?_
  rintro e wz ⟨rfl, hw⟩
  have hw := hw.symm
  subst hw
  go_wp2_with fail
  refine (L.out _ (HG.out _ HB4.out)).mono ?_
  rintro e w5 ⟨rfl, hb⟩
  have HX' := Lib.hid ((hb.block _ (heap_lt HX.out)).trans HX.out)
  clear HX
  have HX := HX'
  clear HX'
  have HP' := Lib.hid ((hb.block _ (heap_lt HP.out)).trans HP.out)
  clear HP
  have HP := HP'
  clear HP'
  have HB5 := Lib.hid (HB4.out.trans (hb.mono HB4.out.size))
  clear hb
  go_wp2_with fail
  go_ret
  exact ⟨rfl, HB5.out⟩
set_option maxRecDepth 100000 in
set_option maxHeartbeats 8000000 in
theorem back_11 (f s g r : Int) (b c : ByteArray) (w : World) (hb : b.size ≤ 140737488351232) (hc : c.size ≤ 140737488351232) (hG : Gd w) (hl : ¬ 20000 < b.size + c.size) (hE : ¬ chk f s g r b = 0) (hP : ¬ (10 ≤ c.size ∧ c.size ≤ 8192)) : Calls Tryd.prog 4 #[.agg #[.int .i64 f, .int .i64 s, .int .i64 g, .int .i64 r, .string b], .string c] w (OkL w) := by
  obtain ⟨hb0, hx0⟩ := one_box w #[.int .i64 f, .int .i64 s, .int .i64 g, .int .i64 r, .string b]
  have HB0 := Lib.hid hb0
  have HX := Lib.hid hx0
  clear hb0 hx0
  have HG := Lib.hid hG.all
  have L := Lib.hid (fun W (h : Gd W) => live_any W h)
  clear hG
  have CA := Lib.hid (fun W h => put_any f s g r b W hb h)
  have CP := Lib.hid (fun W h => parse_any c W hc h)
  unfold PsP at CP
  have e0 : (chk f s g r b == 0) = false := by simpa using hE
  clear hE
  generalize chk f s g r b = E at CA e0
  generalize putS f s g r b = X at CA
  rw [(prs_no hP).1, (prs_no hP).2] at CP
  have CP : Hid (∀ W, Gd W → Calls Tryd.prog 10 #[.string c] W (Gives (.tuple #[.agg #[.int .i64 0, .int .i64 0, .int .i64 0, .int .i64 0, .string ⟨#[]⟩], .int .i64 130]) W)) := CP
  clear hP
  have q1 : ¬ ((20000 : Int) < (b.size : Int) + (c.size : Int)) := by omega
  clear hl
  obtain ⟨cX0, cX1, cX2, cX3, cX4⟩ := bx5 HX.out
  go_enter Tryd.func4, Tryd.ntmps4
  go_wp2_with fail
  refine (CA.out _ (HG.out _ HB0.out)).mono ?_
  rintro e w1 ⟨rfl, hb⟩
  clear cX0 cX1 cX2 cX3 cX4
  have HX' := Lib.hid ((hb.block _ (heap_lt HX.out)).trans HX.out)
  clear HX
  have HX := HX'
  clear HX'
  have HB1 := Lib.hid (HB0.out.trans (hb.mono HB0.out.size))
  clear hb
  obtain ⟨cX0, cX1, cX2, cX3, cX4⟩ := bx5 HX.out
  go_wp2_with fail
  refine (lnum_any _ _).mono ?_
  rintro e wz ⟨rfl, hw⟩
  have hw := hw.symm
  subst hw
  go_wp2_with fail
  refine (CP.out _ (HG.out _ HB1.out)).mono ?_
  rintro e w2 ⟨rfl, hb⟩
  clear cX0 cX1 cX2 cX3 cX4
  have HX' := Lib.hid ((hb.block _ (heap_lt HX.out)).trans HX.out)
  clear HX
  have HX := HX'
  clear HX'
  have HB2 := Lib.hid (HB1.out.trans (hb.mono HB1.out.size))
  clear hb
  have HX' := Lib.hid ((Below.heap_alloc w2 (.cells #[.int .i64 0, .int .i64 0, .int .i64 0, .int .i64 0, .string ⟨#[]⟩] 23) _ (heap_lt HX.out)).trans HX.out)
  clear HX
  have HX := HX'
  clear HX'
  have HP := Lib.hid (box_new w2 #[.int .i64 0, .int .i64 0, .int .i64 0, .int .i64 0, .string ⟨#[]⟩] 23)
  have HB2a := Lib.hid (HB2.out.alloc HB2.out.size (.cells #[.int .i64 0, .int .i64 0, .int .i64 0, .int .i64 0, .string ⟨#[]⟩] 23))
  obtain ⟨cP0, cP1, cP2, cP3, cP4⟩ := bx5 HP.out
  go_wp2_with fail
  refine (lnum_any _ _).mono ?_
  rintro e wz ⟨rfl, hw⟩
  have hw := hw.symm
  subst hw
  go_wp2_with fail
  refine (L.out _ (HG.out _ HB2a.out)).mono ?_
  rintro e w3 ⟨rfl, hb⟩
  clear cP0 cP1 cP2 cP3 cP4
  have HX' := Lib.hid ((hb.block _ (heap_lt HX.out)).trans HX.out)
  clear HX
  have HX := HX'
  clear HX'
  have HP' := Lib.hid ((hb.block _ (heap_lt HP.out)).trans HP.out)
  clear HP
  have HP := HP'
  clear HP'
  have HB3 := Lib.hid (HB2a.out.trans (hb.mono HB2a.out.size))
  clear hb
  go_wp2_with fail
  go_ret
  exact ⟨rfl, HB3.out⟩
theorem snacBack_walk (f s g r : Int) (b c : ByteArray) (w : World) (hb : b.size ≤ 140737488351232) (hc : c.size ≤ 140737488351232) (hG : Gd w) : Calls Tryd.prog 4 #[.agg #[.int .i64 f, .int .i64 s, .int .i64 g, .int .i64 r, .string b], .string c] w (OkL w) := by
  by_cases hl : 20000 < b.size + c.size
  · exact back_big f s g r b c w hb hc hG hl
  by_cases hE : chk f s g r b = 0
  · by_cases hP : 10 ≤ c.size ∧ c.size ≤ 8192
    · exact back_00 f s g r b c w hb hc hG hl hE hP
    · exact back_01 f s g r b c w hb hc hG hl hE hP
  · by_cases hP : 10 ≤ c.size ∧ c.size ≤ 8192
    · exact back_10 f s g r b c w hb hc hG hl hE hP
    · exact back_11 f s g r b c w hb hc hG hl hE hP
end Go.Proofs.YthbpkdcjfcbngaaDoor
