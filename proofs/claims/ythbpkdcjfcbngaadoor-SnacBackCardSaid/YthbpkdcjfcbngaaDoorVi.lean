/- The walk of the law SnacApart. Conditions: the table of widths holds what the program's text lays; a text takes at most what a machine can hold. -/
import Derived.Test.YthbpkdcjfcbngaaDoorVh
namespace Go.Proofs.YthbpkdcjfcbngaaDoor
open Go.RowKit Go.Lib

theorem two_boxes (w : World) (a c : Array Value) : Below w.heap.size w ((w.alloc (.cells a 23)).alloc (.cells c 23)) ∧ ((w.alloc (.cells a 23)).alloc (.cells c 23)).heap[w.heap.size]? = some (.cells a 23 (0, 0)) ∧ ((w.alloc (.cells a 23)).alloc (.cells c 23)).heap[w.heap.size + 1]? = some (.cells c 23 (0, 0)) := by
  refine ⟨((Below.refl _ w).alloc (Nat.le_refl _) _).alloc (by simp) _, (Below.heap_alloc _ _ _ (by simp)).trans (box_new w _ _), ?_⟩
  have := box_new (w.alloc (.cells a 23)) c 23
  simpa using this
theorem toList_inj {a b : ByteArray} (h : a.toList = b.toList) : a = b := by
  rw [ByteArray.toList_eq, ByteArray.toList_eq] at h
  exact By.bytes_ext h
set_option maxRecDepth 100000 in
set_option maxHeartbeats 8000000 in
theorem apart_big (f s g r : Int) (b : ByteArray) (f' s' g' r' : Int) (b' : ByteArray) (w : World) (hb : b.size ≤ 140737488351232) (hb' : b'.size ≤ 140737488351232) (hG : Gd w) (hl : 20000 < b.size + b'.size) : Calls Tryd.prog 5 #[.agg #[.int .i64 f, .int .i64 s, .int .i64 g, .int .i64 r, .string b], .agg #[.int .i64 f', .int .i64 s', .int .i64 g', .int .i64 r', .string b']] w (OkL w) := by
  obtain ⟨hb0, hx0, hy0⟩ := two_boxes w #[.int .i64 f, .int .i64 s, .int .i64 g, .int .i64 r, .string b] #[.int .i64 f', .int .i64 s', .int .i64 g', .int .i64 r', .string b']
  have HB0 := Lib.hid hb0
  have HX := Lib.hid hx0
  have HY := Lib.hid hy0
  clear hb0 hx0 hy0
  have HG := Lib.hid hG.all
  have L := Lib.hid (fun W (h : Gd W) => live_any W h)
  clear hG
  have q1 : ((20000 : Int) < (b.size : Int) + (b'.size : Int)) := by omega
  obtain ⟨cX0, cX1, cX2, cX3, cX4⟩ := bx5 HX.out
  obtain ⟨cY0, cY1, cY2, cY3, cY4⟩ := bx5 HY.out
  go_enter Tryd.func5, Tryd.ntmps5
  go_wp2_with fail
  refine (L.out _ (HG.out _ HB0.out)).mono ?_
  rintro e w1 ⟨rfl, hb⟩
  clear cX0 cX1 cX2 cX3 cX4
  clear cY0 cY1 cY2 cY3 cY4
  have HX' := Lib.hid ((hb.block _ (heap_lt HX.out)).trans HX.out)
  clear HX
  have HX := HX'
  clear HX'
  have HY' := Lib.hid ((hb.block _ (heap_lt HY.out)).trans HY.out)
  clear HY
  have HY := HY'
  clear HY'
  have HB1 := Lib.hid (HB0.out.trans (hb.mono HB0.out.size))
  clear hb
  go_wp2_with fail
  go_ret
  exact ⟨rfl, HB1.out⟩
set_option maxRecDepth 100000 in
set_option maxHeartbeats 8000000 in
theorem apart_01 (f s g r : Int) (b : ByteArray) (f' s' g' r' : Int) (b' : ByteArray) (w : World) (hb : b.size ≤ 140737488351232) (hb' : b'.size ≤ 140737488351232) (hG : Gd w) (hl : ¬ 20000 < b.size + b'.size) (X Y : ByteArray) (hX : putS f s g r b = X) (hY : putS f' s' g' r' b' = Y) (hE : chk f s g r b = 0) (hE' : chk f' s' g' r' b' = 1) : Calls Tryd.prog 5 #[.agg #[.int .i64 f, .int .i64 s, .int .i64 g, .int .i64 r, .string b], .agg #[.int .i64 f', .int .i64 s', .int .i64 g', .int .i64 r', .string b']] w (OkL w) := by
  obtain ⟨hb0, hx0, hy0⟩ := two_boxes w #[.int .i64 f, .int .i64 s, .int .i64 g, .int .i64 r, .string b] #[.int .i64 f', .int .i64 s', .int .i64 g', .int .i64 r', .string b']
  have HB0 := Lib.hid hb0
  have HX := Lib.hid hx0
  have HY := Lib.hid hy0
  clear hb0 hx0 hy0
  have HG := Lib.hid hG.all
  have L := Lib.hid (fun W (h : Gd W) => live_any W h)
  clear hG
  have CA : Hid (∀ W, Gd W → Calls Tryd.prog 8 #[.agg #[.int .i64 f, .int .i64 s, .int .i64 g, .int .i64 r, .string b]] W (Gives (.tuple #[.string X, .int .i64 0]) W)) := fun W h => by
    have c := put_any f s g r b W hb h
    rw [hX, hE] at c
    exact c
  have CB : Hid (∀ W, Gd W → Calls Tryd.prog 8 #[.agg #[.int .i64 f', .int .i64 s', .int .i64 g', .int .i64 r', .string b']] W (Gives (.tuple #[.string Y, .int .i64 1]) W)) := fun W h => by
    have c := put_any f' s' g' r' b' W hb' h
    rw [hY, hE'] at c
    exact c
  clear hE hE' hX hY
  have q1 : ¬ ((20000 : Int) < (b.size : Int) + (b'.size : Int)) := by omega
  clear hl
  obtain ⟨cX0, cX1, cX2, cX3, cX4⟩ := bx5 HX.out
  obtain ⟨cY0, cY1, cY2, cY3, cY4⟩ := bx5 HY.out
  go_enter Tryd.func5, Tryd.ntmps5
  go_wp2_with fail
  refine (CA.out _ (HG.out _ HB0.out)).mono ?_
  rintro e w1 ⟨rfl, hb⟩
  clear cX0 cX1 cX2 cX3 cX4
  clear cY0 cY1 cY2 cY3 cY4
  have HX' := Lib.hid ((hb.block _ (heap_lt HX.out)).trans HX.out)
  clear HX
  have HX := HX'
  clear HX'
  have HY' := Lib.hid ((hb.block _ (heap_lt HY.out)).trans HY.out)
  clear HY
  have HY := HY'
  clear HY'
  have HB1 := Lib.hid (HB0.out.trans (hb.mono HB0.out.size))
  clear hb
  obtain ⟨cX0, cX1, cX2, cX3, cX4⟩ := bx5 HX.out
  obtain ⟨cY0, cY1, cY2, cY3, cY4⟩ := bx5 HY.out
  go_wp2_with fail
  refine (CB.out _ (HG.out _ HB1.out)).mono ?_
  rintro e w2 ⟨rfl, hb⟩
  clear cX0 cX1 cX2 cX3 cX4
  clear cY0 cY1 cY2 cY3 cY4
  have HX' := Lib.hid ((hb.block _ (heap_lt HX.out)).trans HX.out)
  clear HX
  have HX := HX'
  clear HX'
  have HY' := Lib.hid ((hb.block _ (heap_lt HY.out)).trans HY.out)
  clear HY
  have HY := HY'
  clear HY'
  have HB2 := Lib.hid (HB1.out.trans (hb.mono HB1.out.size))
  clear hb
  obtain ⟨cX0, cX1, cX2, cX3, cX4⟩ := bx5 HX.out
  obtain ⟨cY0, cY1, cY2, cY3, cY4⟩ := bx5 HY.out
  go_wp2_with fail
  refine (lnum_any _ _).mono ?_
  rintro e wz ⟨rfl, hw⟩
  have hw := hw.symm
  subst hw
  go_wp2_with fail
  refine (lnum_any _ _).mono ?_
  rintro e wz ⟨rfl, hw⟩
  have hw := hw.symm
  subst hw
  go_wp2_with fail
  refine (L.out _ (HG.out _ HB2.out)).mono ?_
  rintro e w3 ⟨rfl, hb⟩
  clear cX0 cX1 cX2 cX3 cX4
  clear cY0 cY1 cY2 cY3 cY4
  have HX' := Lib.hid ((hb.block _ (heap_lt HX.out)).trans HX.out)
  clear HX
  have HX := HX'
  clear HX'
  have HY' := Lib.hid ((hb.block _ (heap_lt HY.out)).trans HY.out)
  clear HY
  have HY := HY'
  clear HY'
  have HB3 := Lib.hid (HB2.out.trans (hb.mono HB2.out.size))
  clear hb
  go_wp2_with fail
  go_ret
  exact ⟨rfl, HB3.out⟩
set_option maxRecDepth 100000 in
set_option maxHeartbeats 8000000 in
theorem apart_02 (f s g r : Int) (b : ByteArray) (f' s' g' r' : Int) (b' : ByteArray) (w : World) (hb : b.size ≤ 140737488351232) (hb' : b'.size ≤ 140737488351232) (hG : Gd w) (hl : ¬ 20000 < b.size + b'.size) (X Y : ByteArray) (hX : putS f s g r b = X) (hY : putS f' s' g' r' b' = Y) (hE : chk f s g r b = 0) (hE' : chk f' s' g' r' b' = 2) : Calls Tryd.prog 5 #[.agg #[.int .i64 f, .int .i64 s, .int .i64 g, .int .i64 r, .string b], .agg #[.int .i64 f', .int .i64 s', .int .i64 g', .int .i64 r', .string b']] w (OkL w) := by
  obtain ⟨hb0, hx0, hy0⟩ := two_boxes w #[.int .i64 f, .int .i64 s, .int .i64 g, .int .i64 r, .string b] #[.int .i64 f', .int .i64 s', .int .i64 g', .int .i64 r', .string b']
  have HB0 := Lib.hid hb0
  have HX := Lib.hid hx0
  have HY := Lib.hid hy0
  clear hb0 hx0 hy0
  have HG := Lib.hid hG.all
  have L := Lib.hid (fun W (h : Gd W) => live_any W h)
  clear hG
  have CA : Hid (∀ W, Gd W → Calls Tryd.prog 8 #[.agg #[.int .i64 f, .int .i64 s, .int .i64 g, .int .i64 r, .string b]] W (Gives (.tuple #[.string X, .int .i64 0]) W)) := fun W h => by
    have c := put_any f s g r b W hb h
    rw [hX, hE] at c
    exact c
  have CB : Hid (∀ W, Gd W → Calls Tryd.prog 8 #[.agg #[.int .i64 f', .int .i64 s', .int .i64 g', .int .i64 r', .string b']] W (Gives (.tuple #[.string Y, .int .i64 2]) W)) := fun W h => by
    have c := put_any f' s' g' r' b' W hb' h
    rw [hY, hE'] at c
    exact c
  clear hE hE' hX hY
  have q1 : ¬ ((20000 : Int) < (b.size : Int) + (b'.size : Int)) := by omega
  clear hl
  obtain ⟨cX0, cX1, cX2, cX3, cX4⟩ := bx5 HX.out
  obtain ⟨cY0, cY1, cY2, cY3, cY4⟩ := bx5 HY.out
  go_enter Tryd.func5, Tryd.ntmps5
  go_wp2_with fail
  refine (CA.out _ (HG.out _ HB0.out)).mono ?_
  rintro e w1 ⟨rfl, hb⟩
  clear cX0 cX1 cX2 cX3 cX4
  clear cY0 cY1 cY2 cY3 cY4
  have HX' := Lib.hid ((hb.block _ (heap_lt HX.out)).trans HX.out)
  clear HX
  have HX := HX'
  clear HX'
  have HY' := Lib.hid ((hb.block _ (heap_lt HY.out)).trans HY.out)
  clear HY
  have HY := HY'
  clear HY'
  have HB1 := Lib.hid (HB0.out.trans (hb.mono HB0.out.size))
  clear hb
  obtain ⟨cX0, cX1, cX2, cX3, cX4⟩ := bx5 HX.out
  obtain ⟨cY0, cY1, cY2, cY3, cY4⟩ := bx5 HY.out
  go_wp2_with fail
  refine (CB.out _ (HG.out _ HB1.out)).mono ?_
  rintro e w2 ⟨rfl, hb⟩
  clear cX0 cX1 cX2 cX3 cX4
  clear cY0 cY1 cY2 cY3 cY4
  have HX' := Lib.hid ((hb.block _ (heap_lt HX.out)).trans HX.out)
  clear HX
  have HX := HX'
  clear HX'
  have HY' := Lib.hid ((hb.block _ (heap_lt HY.out)).trans HY.out)
  clear HY
  have HY := HY'
  clear HY'
  have HB2 := Lib.hid (HB1.out.trans (hb.mono HB1.out.size))
  clear hb
  obtain ⟨cX0, cX1, cX2, cX3, cX4⟩ := bx5 HX.out
  obtain ⟨cY0, cY1, cY2, cY3, cY4⟩ := bx5 HY.out
  go_wp2_with fail
  refine (lnum_any _ _).mono ?_
  rintro e wz ⟨rfl, hw⟩
  have hw := hw.symm
  subst hw
  go_wp2_with fail
  refine (lnum_any _ _).mono ?_
  rintro e wz ⟨rfl, hw⟩
  have hw := hw.symm
  subst hw
  go_wp2_with fail
  refine (L.out _ (HG.out _ HB2.out)).mono ?_
  rintro e w3 ⟨rfl, hb⟩
  clear cX0 cX1 cX2 cX3 cX4
  clear cY0 cY1 cY2 cY3 cY4
  have HX' := Lib.hid ((hb.block _ (heap_lt HX.out)).trans HX.out)
  clear HX
  have HX := HX'
  clear HX'
  have HY' := Lib.hid ((hb.block _ (heap_lt HY.out)).trans HY.out)
  clear HY
  have HY := HY'
  clear HY'
  have HB3 := Lib.hid (HB2.out.trans (hb.mono HB2.out.size))
  clear hb
  go_wp2_with fail
  go_ret
  exact ⟨rfl, HB3.out⟩
set_option maxRecDepth 100000 in
set_option maxHeartbeats 8000000 in
theorem apart_10 (f s g r : Int) (b : ByteArray) (f' s' g' r' : Int) (b' : ByteArray) (w : World) (hb : b.size ≤ 140737488351232) (hb' : b'.size ≤ 140737488351232) (hG : Gd w) (hl : ¬ 20000 < b.size + b'.size) (X Y : ByteArray) (hX : putS f s g r b = X) (hY : putS f' s' g' r' b' = Y) (hE : chk f s g r b = 1) (hE' : chk f' s' g' r' b' = 0) : Calls Tryd.prog 5 #[.agg #[.int .i64 f, .int .i64 s, .int .i64 g, .int .i64 r, .string b], .agg #[.int .i64 f', .int .i64 s', .int .i64 g', .int .i64 r', .string b']] w (OkL w) := by
  obtain ⟨hb0, hx0, hy0⟩ := two_boxes w #[.int .i64 f, .int .i64 s, .int .i64 g, .int .i64 r, .string b] #[.int .i64 f', .int .i64 s', .int .i64 g', .int .i64 r', .string b']
  have HB0 := Lib.hid hb0
  have HX := Lib.hid hx0
  have HY := Lib.hid hy0
  clear hb0 hx0 hy0
  have HG := Lib.hid hG.all
  have L := Lib.hid (fun W (h : Gd W) => live_any W h)
  clear hG
  have CA : Hid (∀ W, Gd W → Calls Tryd.prog 8 #[.agg #[.int .i64 f, .int .i64 s, .int .i64 g, .int .i64 r, .string b]] W (Gives (.tuple #[.string X, .int .i64 1]) W)) := fun W h => by
    have c := put_any f s g r b W hb h
    rw [hX, hE] at c
    exact c
  have CB : Hid (∀ W, Gd W → Calls Tryd.prog 8 #[.agg #[.int .i64 f', .int .i64 s', .int .i64 g', .int .i64 r', .string b']] W (Gives (.tuple #[.string Y, .int .i64 0]) W)) := fun W h => by
    have c := put_any f' s' g' r' b' W hb' h
    rw [hY, hE'] at c
    exact c
  clear hE hE' hX hY
  have q1 : ¬ ((20000 : Int) < (b.size : Int) + (b'.size : Int)) := by omega
  clear hl
  obtain ⟨cX0, cX1, cX2, cX3, cX4⟩ := bx5 HX.out
  obtain ⟨cY0, cY1, cY2, cY3, cY4⟩ := bx5 HY.out
  go_enter Tryd.func5, Tryd.ntmps5
  go_wp2_with fail
  refine (CA.out _ (HG.out _ HB0.out)).mono ?_
  rintro e w1 ⟨rfl, hb⟩
  clear cX0 cX1 cX2 cX3 cX4
  clear cY0 cY1 cY2 cY3 cY4
  have HX' := Lib.hid ((hb.block _ (heap_lt HX.out)).trans HX.out)
  clear HX
  have HX := HX'
  clear HX'
  have HY' := Lib.hid ((hb.block _ (heap_lt HY.out)).trans HY.out)
  clear HY
  have HY := HY'
  clear HY'
  have HB1 := Lib.hid (HB0.out.trans (hb.mono HB0.out.size))
  clear hb
  obtain ⟨cX0, cX1, cX2, cX3, cX4⟩ := bx5 HX.out
  obtain ⟨cY0, cY1, cY2, cY3, cY4⟩ := bx5 HY.out
  go_wp2_with fail
  refine (CB.out _ (HG.out _ HB1.out)).mono ?_
  rintro e w2 ⟨rfl, hb⟩
  clear cX0 cX1 cX2 cX3 cX4
  clear cY0 cY1 cY2 cY3 cY4
  have HX' := Lib.hid ((hb.block _ (heap_lt HX.out)).trans HX.out)
  clear HX
  have HX := HX'
  clear HX'
  have HY' := Lib.hid ((hb.block _ (heap_lt HY.out)).trans HY.out)
  clear HY
  have HY := HY'
  clear HY'
  have HB2 := Lib.hid (HB1.out.trans (hb.mono HB1.out.size))
  clear hb
  obtain ⟨cX0, cX1, cX2, cX3, cX4⟩ := bx5 HX.out
  obtain ⟨cY0, cY1, cY2, cY3, cY4⟩ := bx5 HY.out
  go_wp2_with fail
  refine (lnum_any _ _).mono ?_
  rintro e wz ⟨rfl, hw⟩
  have hw := hw.symm
  subst hw
  go_wp2_with fail
  refine (lnum_any _ _).mono ?_
  rintro e wz ⟨rfl, hw⟩
  have hw := hw.symm
  subst hw
  go_wp2_with fail
  refine (L.out _ (HG.out _ HB2.out)).mono ?_
  rintro e w3 ⟨rfl, hb⟩
  clear cX0 cX1 cX2 cX3 cX4
  clear cY0 cY1 cY2 cY3 cY4
  have HX' := Lib.hid ((hb.block _ (heap_lt HX.out)).trans HX.out)
  clear HX
  have HX := HX'
  clear HX'
  have HY' := Lib.hid ((hb.block _ (heap_lt HY.out)).trans HY.out)
  clear HY
  have HY := HY'
  clear HY'
  have HB3 := Lib.hid (HB2.out.trans (hb.mono HB2.out.size))
  clear hb
  go_wp2_with fail
  go_ret
  exact ⟨rfl, HB3.out⟩
set_option maxRecDepth 100000 in
set_option maxHeartbeats 8000000 in
theorem apart_11 (f s g r : Int) (b : ByteArray) (f' s' g' r' : Int) (b' : ByteArray) (w : World) (hb : b.size ≤ 140737488351232) (hb' : b'.size ≤ 140737488351232) (hG : Gd w) (hl : ¬ 20000 < b.size + b'.size) (X Y : ByteArray) (hX : putS f s g r b = X) (hY : putS f' s' g' r' b' = Y) (hE : chk f s g r b = 1) (hE' : chk f' s' g' r' b' = 1) : Calls Tryd.prog 5 #[.agg #[.int .i64 f, .int .i64 s, .int .i64 g, .int .i64 r, .string b], .agg #[.int .i64 f', .int .i64 s', .int .i64 g', .int .i64 r', .string b']] w (OkL w) := by
  obtain ⟨hb0, hx0, hy0⟩ := two_boxes w #[.int .i64 f, .int .i64 s, .int .i64 g, .int .i64 r, .string b] #[.int .i64 f', .int .i64 s', .int .i64 g', .int .i64 r', .string b']
  have HB0 := Lib.hid hb0
  have HX := Lib.hid hx0
  have HY := Lib.hid hy0
  clear hb0 hx0 hy0
  have HG := Lib.hid hG.all
  have L := Lib.hid (fun W (h : Gd W) => live_any W h)
  clear hG
  have CA : Hid (∀ W, Gd W → Calls Tryd.prog 8 #[.agg #[.int .i64 f, .int .i64 s, .int .i64 g, .int .i64 r, .string b]] W (Gives (.tuple #[.string X, .int .i64 1]) W)) := fun W h => by
    have c := put_any f s g r b W hb h
    rw [hX, hE] at c
    exact c
  have CB : Hid (∀ W, Gd W → Calls Tryd.prog 8 #[.agg #[.int .i64 f', .int .i64 s', .int .i64 g', .int .i64 r', .string b']] W (Gives (.tuple #[.string Y, .int .i64 1]) W)) := fun W h => by
    have c := put_any f' s' g' r' b' W hb' h
    rw [hY, hE'] at c
    exact c
  clear hE hE' hX hY
  have q1 : ¬ ((20000 : Int) < (b.size : Int) + (b'.size : Int)) := by omega
  clear hl
  obtain ⟨cX0, cX1, cX2, cX3, cX4⟩ := bx5 HX.out
  obtain ⟨cY0, cY1, cY2, cY3, cY4⟩ := bx5 HY.out
  go_enter Tryd.func5, Tryd.ntmps5
  go_wp2_with fail
  refine (CA.out _ (HG.out _ HB0.out)).mono ?_
  rintro e w1 ⟨rfl, hb⟩
  clear cX0 cX1 cX2 cX3 cX4
  clear cY0 cY1 cY2 cY3 cY4
  have HX' := Lib.hid ((hb.block _ (heap_lt HX.out)).trans HX.out)
  clear HX
  have HX := HX'
  clear HX'
  have HY' := Lib.hid ((hb.block _ (heap_lt HY.out)).trans HY.out)
  clear HY
  have HY := HY'
  clear HY'
  have HB1 := Lib.hid (HB0.out.trans (hb.mono HB0.out.size))
  clear hb
  obtain ⟨cX0, cX1, cX2, cX3, cX4⟩ := bx5 HX.out
  obtain ⟨cY0, cY1, cY2, cY3, cY4⟩ := bx5 HY.out
  go_wp2_with fail
  refine (CB.out _ (HG.out _ HB1.out)).mono ?_
  rintro e w2 ⟨rfl, hb⟩
  clear cX0 cX1 cX2 cX3 cX4
  clear cY0 cY1 cY2 cY3 cY4
  have HX' := Lib.hid ((hb.block _ (heap_lt HX.out)).trans HX.out)
  clear HX
  have HX := HX'
  clear HX'
  have HY' := Lib.hid ((hb.block _ (heap_lt HY.out)).trans HY.out)
  clear HY
  have HY := HY'
  clear HY'
  have HB2 := Lib.hid (HB1.out.trans (hb.mono HB1.out.size))
  clear hb
  obtain ⟨cX0, cX1, cX2, cX3, cX4⟩ := bx5 HX.out
  obtain ⟨cY0, cY1, cY2, cY3, cY4⟩ := bx5 HY.out
  go_wp2_with fail
  refine (lnum_any _ _).mono ?_
  rintro e wz ⟨rfl, hw⟩
  have hw := hw.symm
  subst hw
  go_wp2_with fail
  refine (lnum_any _ _).mono ?_
  rintro e wz ⟨rfl, hw⟩
  have hw := hw.symm
  subst hw
  go_wp2_with fail
  refine (L.out _ (HG.out _ HB2.out)).mono ?_
  rintro e w3 ⟨rfl, hb⟩
  clear cX0 cX1 cX2 cX3 cX4
  clear cY0 cY1 cY2 cY3 cY4
  have HX' := Lib.hid ((hb.block _ (heap_lt HX.out)).trans HX.out)
  clear HX
  have HX := HX'
  clear HX'
  have HY' := Lib.hid ((hb.block _ (heap_lt HY.out)).trans HY.out)
  clear HY
  have HY := HY'
  clear HY'
  have HB3 := Lib.hid (HB2.out.trans (hb.mono HB2.out.size))
  clear hb
  go_wp2_with fail
  go_ret
  exact ⟨rfl, HB3.out⟩
set_option maxRecDepth 100000 in
set_option maxHeartbeats 8000000 in
theorem apart_12 (f s g r : Int) (b : ByteArray) (f' s' g' r' : Int) (b' : ByteArray) (w : World) (hb : b.size ≤ 140737488351232) (hb' : b'.size ≤ 140737488351232) (hG : Gd w) (hl : ¬ 20000 < b.size + b'.size) (X Y : ByteArray) (hX : putS f s g r b = X) (hY : putS f' s' g' r' b' = Y) (hE : chk f s g r b = 1) (hE' : chk f' s' g' r' b' = 2) : Calls Tryd.prog 5 #[.agg #[.int .i64 f, .int .i64 s, .int .i64 g, .int .i64 r, .string b], .agg #[.int .i64 f', .int .i64 s', .int .i64 g', .int .i64 r', .string b']] w (OkL w) := by
  obtain ⟨hb0, hx0, hy0⟩ := two_boxes w #[.int .i64 f, .int .i64 s, .int .i64 g, .int .i64 r, .string b] #[.int .i64 f', .int .i64 s', .int .i64 g', .int .i64 r', .string b']
  have HB0 := Lib.hid hb0
  have HX := Lib.hid hx0
  have HY := Lib.hid hy0
  clear hb0 hx0 hy0
  have HG := Lib.hid hG.all
  have L := Lib.hid (fun W (h : Gd W) => live_any W h)
  clear hG
  have CA : Hid (∀ W, Gd W → Calls Tryd.prog 8 #[.agg #[.int .i64 f, .int .i64 s, .int .i64 g, .int .i64 r, .string b]] W (Gives (.tuple #[.string X, .int .i64 1]) W)) := fun W h => by
    have c := put_any f s g r b W hb h
    rw [hX, hE] at c
    exact c
  have CB : Hid (∀ W, Gd W → Calls Tryd.prog 8 #[.agg #[.int .i64 f', .int .i64 s', .int .i64 g', .int .i64 r', .string b']] W (Gives (.tuple #[.string Y, .int .i64 2]) W)) := fun W h => by
    have c := put_any f' s' g' r' b' W hb' h
    rw [hY, hE'] at c
    exact c
  clear hE hE' hX hY
  have q1 : ¬ ((20000 : Int) < (b.size : Int) + (b'.size : Int)) := by omega
  clear hl
  obtain ⟨cX0, cX1, cX2, cX3, cX4⟩ := bx5 HX.out
  obtain ⟨cY0, cY1, cY2, cY3, cY4⟩ := bx5 HY.out
  go_enter Tryd.func5, Tryd.ntmps5
  go_wp2_with fail
  refine (CA.out _ (HG.out _ HB0.out)).mono ?_
  rintro e w1 ⟨rfl, hb⟩
  clear cX0 cX1 cX2 cX3 cX4
  clear cY0 cY1 cY2 cY3 cY4
  have HX' := Lib.hid ((hb.block _ (heap_lt HX.out)).trans HX.out)
  clear HX
  have HX := HX'
  clear HX'
  have HY' := Lib.hid ((hb.block _ (heap_lt HY.out)).trans HY.out)
  clear HY
  have HY := HY'
  clear HY'
  have HB1 := Lib.hid (HB0.out.trans (hb.mono HB0.out.size))
  clear hb
  obtain ⟨cX0, cX1, cX2, cX3, cX4⟩ := bx5 HX.out
  obtain ⟨cY0, cY1, cY2, cY3, cY4⟩ := bx5 HY.out
  go_wp2_with fail
  refine (CB.out _ (HG.out _ HB1.out)).mono ?_
  rintro e w2 ⟨rfl, hb⟩
  clear cX0 cX1 cX2 cX3 cX4
  clear cY0 cY1 cY2 cY3 cY4
  have HX' := Lib.hid ((hb.block _ (heap_lt HX.out)).trans HX.out)
  clear HX
  have HX := HX'
  clear HX'
  have HY' := Lib.hid ((hb.block _ (heap_lt HY.out)).trans HY.out)
  clear HY
  have HY := HY'
  clear HY'
  have HB2 := Lib.hid (HB1.out.trans (hb.mono HB1.out.size))
  clear hb
  obtain ⟨cX0, cX1, cX2, cX3, cX4⟩ := bx5 HX.out
  obtain ⟨cY0, cY1, cY2, cY3, cY4⟩ := bx5 HY.out
  go_wp2_with fail
  refine (lnum_any _ _).mono ?_
  rintro e wz ⟨rfl, hw⟩
  have hw := hw.symm
  subst hw
  go_wp2_with fail
  refine (lnum_any _ _).mono ?_
  rintro e wz ⟨rfl, hw⟩
  have hw := hw.symm
  subst hw
  go_wp2_with fail
  refine (L.out _ (HG.out _ HB2.out)).mono ?_
  rintro e w3 ⟨rfl, hb⟩
  clear cX0 cX1 cX2 cX3 cX4
  clear cY0 cY1 cY2 cY3 cY4
  have HX' := Lib.hid ((hb.block _ (heap_lt HX.out)).trans HX.out)
  clear HX
  have HX := HX'
  clear HX'
  have HY' := Lib.hid ((hb.block _ (heap_lt HY.out)).trans HY.out)
  clear HY
  have HY := HY'
  clear HY'
  have HB3 := Lib.hid (HB2.out.trans (hb.mono HB2.out.size))
  clear hb
  go_wp2_with fail
  go_ret
  exact ⟨rfl, HB3.out⟩
set_option maxRecDepth 100000 in
set_option maxHeartbeats 8000000 in
theorem apart_20 (f s g r : Int) (b : ByteArray) (f' s' g' r' : Int) (b' : ByteArray) (w : World) (hb : b.size ≤ 140737488351232) (hb' : b'.size ≤ 140737488351232) (hG : Gd w) (hl : ¬ 20000 < b.size + b'.size) (X Y : ByteArray) (hX : putS f s g r b = X) (hY : putS f' s' g' r' b' = Y) (hE : chk f s g r b = 2) (hE' : chk f' s' g' r' b' = 0) : Calls Tryd.prog 5 #[.agg #[.int .i64 f, .int .i64 s, .int .i64 g, .int .i64 r, .string b], .agg #[.int .i64 f', .int .i64 s', .int .i64 g', .int .i64 r', .string b']] w (OkL w) := by
  obtain ⟨hb0, hx0, hy0⟩ := two_boxes w #[.int .i64 f, .int .i64 s, .int .i64 g, .int .i64 r, .string b] #[.int .i64 f', .int .i64 s', .int .i64 g', .int .i64 r', .string b']
  have HB0 := Lib.hid hb0
  have HX := Lib.hid hx0
  have HY := Lib.hid hy0
  clear hb0 hx0 hy0
  have HG := Lib.hid hG.all
  have L := Lib.hid (fun W (h : Gd W) => live_any W h)
  clear hG
  have CA : Hid (∀ W, Gd W → Calls Tryd.prog 8 #[.agg #[.int .i64 f, .int .i64 s, .int .i64 g, .int .i64 r, .string b]] W (Gives (.tuple #[.string X, .int .i64 2]) W)) := fun W h => by
    have c := put_any f s g r b W hb h
    rw [hX, hE] at c
    exact c
  have CB : Hid (∀ W, Gd W → Calls Tryd.prog 8 #[.agg #[.int .i64 f', .int .i64 s', .int .i64 g', .int .i64 r', .string b']] W (Gives (.tuple #[.string Y, .int .i64 0]) W)) := fun W h => by
    have c := put_any f' s' g' r' b' W hb' h
    rw [hY, hE'] at c
    exact c
  clear hE hE' hX hY
  have q1 : ¬ ((20000 : Int) < (b.size : Int) + (b'.size : Int)) := by omega
  clear hl
  obtain ⟨cX0, cX1, cX2, cX3, cX4⟩ := bx5 HX.out
  obtain ⟨cY0, cY1, cY2, cY3, cY4⟩ := bx5 HY.out
  go_enter Tryd.func5, Tryd.ntmps5
  go_wp2_with fail
  refine (CA.out _ (HG.out _ HB0.out)).mono ?_
  rintro e w1 ⟨rfl, hb⟩
  clear cX0 cX1 cX2 cX3 cX4
  clear cY0 cY1 cY2 cY3 cY4
  have HX' := Lib.hid ((hb.block _ (heap_lt HX.out)).trans HX.out)
  clear HX
  have HX := HX'
  clear HX'
  have HY' := Lib.hid ((hb.block _ (heap_lt HY.out)).trans HY.out)
  clear HY
  have HY := HY'
  clear HY'
  have HB1 := Lib.hid (HB0.out.trans (hb.mono HB0.out.size))
  clear hb
  obtain ⟨cX0, cX1, cX2, cX3, cX4⟩ := bx5 HX.out
  obtain ⟨cY0, cY1, cY2, cY3, cY4⟩ := bx5 HY.out
  go_wp2_with fail
  refine (CB.out _ (HG.out _ HB1.out)).mono ?_
  rintro e w2 ⟨rfl, hb⟩
  clear cX0 cX1 cX2 cX3 cX4
  clear cY0 cY1 cY2 cY3 cY4
  have HX' := Lib.hid ((hb.block _ (heap_lt HX.out)).trans HX.out)
  clear HX
  have HX := HX'
  clear HX'
  have HY' := Lib.hid ((hb.block _ (heap_lt HY.out)).trans HY.out)
  clear HY
  have HY := HY'
  clear HY'
  have HB2 := Lib.hid (HB1.out.trans (hb.mono HB1.out.size))
  clear hb
  obtain ⟨cX0, cX1, cX2, cX3, cX4⟩ := bx5 HX.out
  obtain ⟨cY0, cY1, cY2, cY3, cY4⟩ := bx5 HY.out
  go_wp2_with fail
  refine (lnum_any _ _).mono ?_
  rintro e wz ⟨rfl, hw⟩
  have hw := hw.symm
  subst hw
  go_wp2_with fail
  refine (lnum_any _ _).mono ?_
  rintro e wz ⟨rfl, hw⟩
  have hw := hw.symm
  subst hw
  go_wp2_with fail
  refine (L.out _ (HG.out _ HB2.out)).mono ?_
  rintro e w3 ⟨rfl, hb⟩
  clear cX0 cX1 cX2 cX3 cX4
  clear cY0 cY1 cY2 cY3 cY4
  have HX' := Lib.hid ((hb.block _ (heap_lt HX.out)).trans HX.out)
  clear HX
  have HX := HX'
  clear HX'
  have HY' := Lib.hid ((hb.block _ (heap_lt HY.out)).trans HY.out)
  clear HY
  have HY := HY'
  clear HY'
  have HB3 := Lib.hid (HB2.out.trans (hb.mono HB2.out.size))
  clear hb
  go_wp2_with fail
  go_ret
  exact ⟨rfl, HB3.out⟩
set_option maxRecDepth 100000 in
set_option maxHeartbeats 8000000 in
theorem apart_21 (f s g r : Int) (b : ByteArray) (f' s' g' r' : Int) (b' : ByteArray) (w : World) (hb : b.size ≤ 140737488351232) (hb' : b'.size ≤ 140737488351232) (hG : Gd w) (hl : ¬ 20000 < b.size + b'.size) (X Y : ByteArray) (hX : putS f s g r b = X) (hY : putS f' s' g' r' b' = Y) (hE : chk f s g r b = 2) (hE' : chk f' s' g' r' b' = 1) : Calls Tryd.prog 5 #[.agg #[.int .i64 f, .int .i64 s, .int .i64 g, .int .i64 r, .string b], .agg #[.int .i64 f', .int .i64 s', .int .i64 g', .int .i64 r', .string b']] w (OkL w) := by
  obtain ⟨hb0, hx0, hy0⟩ := two_boxes w #[.int .i64 f, .int .i64 s, .int .i64 g, .int .i64 r, .string b] #[.int .i64 f', .int .i64 s', .int .i64 g', .int .i64 r', .string b']
  have HB0 := Lib.hid hb0
  have HX := Lib.hid hx0
  have HY := Lib.hid hy0
  clear hb0 hx0 hy0
  have HG := Lib.hid hG.all
  have L := Lib.hid (fun W (h : Gd W) => live_any W h)
  clear hG
  have CA : Hid (∀ W, Gd W → Calls Tryd.prog 8 #[.agg #[.int .i64 f, .int .i64 s, .int .i64 g, .int .i64 r, .string b]] W (Gives (.tuple #[.string X, .int .i64 2]) W)) := fun W h => by
    have c := put_any f s g r b W hb h
    rw [hX, hE] at c
    exact c
  have CB : Hid (∀ W, Gd W → Calls Tryd.prog 8 #[.agg #[.int .i64 f', .int .i64 s', .int .i64 g', .int .i64 r', .string b']] W (Gives (.tuple #[.string Y, .int .i64 1]) W)) := fun W h => by
    have c := put_any f' s' g' r' b' W hb' h
    rw [hY, hE'] at c
    exact c
  clear hE hE' hX hY
  have q1 : ¬ ((20000 : Int) < (b.size : Int) + (b'.size : Int)) := by omega
  clear hl
  obtain ⟨cX0, cX1, cX2, cX3, cX4⟩ := bx5 HX.out
  obtain ⟨cY0, cY1, cY2, cY3, cY4⟩ := bx5 HY.out
  go_enter Tryd.func5, Tryd.ntmps5
  go_wp2_with fail
  refine (CA.out _ (HG.out _ HB0.out)).mono ?_
  rintro e w1 ⟨rfl, hb⟩
  clear cX0 cX1 cX2 cX3 cX4
  clear cY0 cY1 cY2 cY3 cY4
  have HX' := Lib.hid ((hb.block _ (heap_lt HX.out)).trans HX.out)
  clear HX
  have HX := HX'
  clear HX'
  have HY' := Lib.hid ((hb.block _ (heap_lt HY.out)).trans HY.out)
  clear HY
  have HY := HY'
  clear HY'
  have HB1 := Lib.hid (HB0.out.trans (hb.mono HB0.out.size))
  clear hb
  obtain ⟨cX0, cX1, cX2, cX3, cX4⟩ := bx5 HX.out
  obtain ⟨cY0, cY1, cY2, cY3, cY4⟩ := bx5 HY.out
  go_wp2_with fail
  refine (CB.out _ (HG.out _ HB1.out)).mono ?_
  rintro e w2 ⟨rfl, hb⟩
  clear cX0 cX1 cX2 cX3 cX4
  clear cY0 cY1 cY2 cY3 cY4
  have HX' := Lib.hid ((hb.block _ (heap_lt HX.out)).trans HX.out)
  clear HX
  have HX := HX'
  clear HX'
  have HY' := Lib.hid ((hb.block _ (heap_lt HY.out)).trans HY.out)
  clear HY
  have HY := HY'
  clear HY'
  have HB2 := Lib.hid (HB1.out.trans (hb.mono HB1.out.size))
  clear hb
  obtain ⟨cX0, cX1, cX2, cX3, cX4⟩ := bx5 HX.out
  obtain ⟨cY0, cY1, cY2, cY3, cY4⟩ := bx5 HY.out
  go_wp2_with fail
  refine (lnum_any _ _).mono ?_
  rintro e wz ⟨rfl, hw⟩
  have hw := hw.symm
  subst hw
  go_wp2_with fail
  refine (lnum_any _ _).mono ?_
  rintro e wz ⟨rfl, hw⟩
  have hw := hw.symm
  subst hw
  go_wp2_with fail
  refine (L.out _ (HG.out _ HB2.out)).mono ?_
  rintro e w3 ⟨rfl, hb⟩
  clear cX0 cX1 cX2 cX3 cX4
  clear cY0 cY1 cY2 cY3 cY4
  have HX' := Lib.hid ((hb.block _ (heap_lt HX.out)).trans HX.out)
  clear HX
  have HX := HX'
  clear HX'
  have HY' := Lib.hid ((hb.block _ (heap_lt HY.out)).trans HY.out)
  clear HY
  have HY := HY'
  clear HY'
  have HB3 := Lib.hid (HB2.out.trans (hb.mono HB2.out.size))
  clear hb
  go_wp2_with fail
  go_ret
  exact ⟨rfl, HB3.out⟩
set_option maxRecDepth 100000 in
set_option maxHeartbeats 8000000 in
theorem apart_22 (f s g r : Int) (b : ByteArray) (f' s' g' r' : Int) (b' : ByteArray) (w : World) (hb : b.size ≤ 140737488351232) (hb' : b'.size ≤ 140737488351232) (hG : Gd w) (hl : ¬ 20000 < b.size + b'.size) (X Y : ByteArray) (hX : putS f s g r b = X) (hY : putS f' s' g' r' b' = Y) (hE : chk f s g r b = 2) (hE' : chk f' s' g' r' b' = 2) : Calls Tryd.prog 5 #[.agg #[.int .i64 f, .int .i64 s, .int .i64 g, .int .i64 r, .string b], .agg #[.int .i64 f', .int .i64 s', .int .i64 g', .int .i64 r', .string b']] w (OkL w) := by
  obtain ⟨hb0, hx0, hy0⟩ := two_boxes w #[.int .i64 f, .int .i64 s, .int .i64 g, .int .i64 r, .string b] #[.int .i64 f', .int .i64 s', .int .i64 g', .int .i64 r', .string b']
  have HB0 := Lib.hid hb0
  have HX := Lib.hid hx0
  have HY := Lib.hid hy0
  clear hb0 hx0 hy0
  have HG := Lib.hid hG.all
  have L := Lib.hid (fun W (h : Gd W) => live_any W h)
  clear hG
  have CA : Hid (∀ W, Gd W → Calls Tryd.prog 8 #[.agg #[.int .i64 f, .int .i64 s, .int .i64 g, .int .i64 r, .string b]] W (Gives (.tuple #[.string X, .int .i64 2]) W)) := fun W h => by
    have c := put_any f s g r b W hb h
    rw [hX, hE] at c
    exact c
  have CB : Hid (∀ W, Gd W → Calls Tryd.prog 8 #[.agg #[.int .i64 f', .int .i64 s', .int .i64 g', .int .i64 r', .string b']] W (Gives (.tuple #[.string Y, .int .i64 2]) W)) := fun W h => by
    have c := put_any f' s' g' r' b' W hb' h
    rw [hY, hE'] at c
    exact c
  clear hE hE' hX hY
  have q1 : ¬ ((20000 : Int) < (b.size : Int) + (b'.size : Int)) := by omega
  clear hl
  obtain ⟨cX0, cX1, cX2, cX3, cX4⟩ := bx5 HX.out
  obtain ⟨cY0, cY1, cY2, cY3, cY4⟩ := bx5 HY.out
  go_enter Tryd.func5, Tryd.ntmps5
  go_wp2_with fail
  refine (CA.out _ (HG.out _ HB0.out)).mono ?_
  rintro e w1 ⟨rfl, hb⟩
  clear cX0 cX1 cX2 cX3 cX4
  clear cY0 cY1 cY2 cY3 cY4
  have HX' := Lib.hid ((hb.block _ (heap_lt HX.out)).trans HX.out)
  clear HX
  have HX := HX'
  clear HX'
  have HY' := Lib.hid ((hb.block _ (heap_lt HY.out)).trans HY.out)
  clear HY
  have HY := HY'
  clear HY'
  have HB1 := Lib.hid (HB0.out.trans (hb.mono HB0.out.size))
  clear hb
  obtain ⟨cX0, cX1, cX2, cX3, cX4⟩ := bx5 HX.out
  obtain ⟨cY0, cY1, cY2, cY3, cY4⟩ := bx5 HY.out
  go_wp2_with fail
  refine (CB.out _ (HG.out _ HB1.out)).mono ?_
  rintro e w2 ⟨rfl, hb⟩
  clear cX0 cX1 cX2 cX3 cX4
  clear cY0 cY1 cY2 cY3 cY4
  have HX' := Lib.hid ((hb.block _ (heap_lt HX.out)).trans HX.out)
  clear HX
  have HX := HX'
  clear HX'
  have HY' := Lib.hid ((hb.block _ (heap_lt HY.out)).trans HY.out)
  clear HY
  have HY := HY'
  clear HY'
  have HB2 := Lib.hid (HB1.out.trans (hb.mono HB1.out.size))
  clear hb
  obtain ⟨cX0, cX1, cX2, cX3, cX4⟩ := bx5 HX.out
  obtain ⟨cY0, cY1, cY2, cY3, cY4⟩ := bx5 HY.out
  go_wp2_with fail
  refine (lnum_any _ _).mono ?_
  rintro e wz ⟨rfl, hw⟩
  have hw := hw.symm
  subst hw
  go_wp2_with fail
  refine (lnum_any _ _).mono ?_
  rintro e wz ⟨rfl, hw⟩
  have hw := hw.symm
  subst hw
  go_wp2_with fail
  refine (L.out _ (HG.out _ HB2.out)).mono ?_
  rintro e w3 ⟨rfl, hb⟩
  clear cX0 cX1 cX2 cX3 cX4
  clear cY0 cY1 cY2 cY3 cY4
  have HX' := Lib.hid ((hb.block _ (heap_lt HX.out)).trans HX.out)
  clear HX
  have HX := HX'
  clear HX'
  have HY' := Lib.hid ((hb.block _ (heap_lt HY.out)).trans HY.out)
  clear HY
  have HY := HY'
  clear HY'
  have HB3 := Lib.hid (HB2.out.trans (hb.mono HB2.out.size))
  clear hb
  go_wp2_with fail
  go_ret
  exact ⟨rfl, HB3.out⟩
set_option maxRecDepth 100000 in
set_option maxHeartbeats 8000000 in
theorem apart_same (f s g r : Int) (b : ByteArray) (w : World) (hb : b.size ≤ 140737488351232) (hG : Gd w) (hl : ¬ 20000 < b.size + b.size) (X : ByteArray) (hX : putS f s g r b = X) (hE : chk f s g r b = 0) : Calls Tryd.prog 5 #[.agg #[.int .i64 f, .int .i64 s, .int .i64 g, .int .i64 r, .string b], .agg #[.int .i64 f, .int .i64 s, .int .i64 g, .int .i64 r, .string b]] w (OkL w) := by
  obtain ⟨hb0, hx0, hy0⟩ := two_boxes w #[.int .i64 f, .int .i64 s, .int .i64 g, .int .i64 r, .string b] #[.int .i64 f, .int .i64 s, .int .i64 g, .int .i64 r, .string b]
  have HB0 := Lib.hid hb0
  have HX := Lib.hid hx0
  have HY := Lib.hid hy0
  clear hb0 hx0 hy0
  have HG := Lib.hid hG.all
  have L := Lib.hid (fun W (h : Gd W) => live_any W h)
  clear hG
  have CA : Hid (∀ W, Gd W → Calls Tryd.prog 8 #[.agg #[.int .i64 f, .int .i64 s, .int .i64 g, .int .i64 r, .string b]] W (Gives (.tuple #[.string X, .int .i64 0]) W)) := fun W h => by
    have c := put_any f s g r b W hb h
    rw [hX, hE] at c
    exact c
  have CB := CA
  clear hE hX
  have eX : (X.toList == X.toList) = true := by simp
  have eb : (b.toList == b.toList) = true := by simp
  have q1 : ¬ ((20000 : Int) < (b.size : Int) + (b.size : Int)) := by omega
  clear hl
  obtain ⟨cX0, cX1, cX2, cX3, cX4⟩ := bx5 HX.out
  obtain ⟨cY0, cY1, cY2, cY3, cY4⟩ := bx5 HY.out
  go_enter Tryd.func5, Tryd.ntmps5
  go_wp2_with fail
  refine (CA.out _ (HG.out _ HB0.out)).mono ?_
  rintro e w1 ⟨rfl, hb⟩
  clear cX0 cX1 cX2 cX3 cX4
  clear cY0 cY1 cY2 cY3 cY4
  have HX' := Lib.hid ((hb.block _ (heap_lt HX.out)).trans HX.out)
  clear HX
  have HX := HX'
  clear HX'
  have HY' := Lib.hid ((hb.block _ (heap_lt HY.out)).trans HY.out)
  clear HY
  have HY := HY'
  clear HY'
  have HB1 := Lib.hid (HB0.out.trans (hb.mono HB0.out.size))
  clear hb
  obtain ⟨cX0, cX1, cX2, cX3, cX4⟩ := bx5 HX.out
  obtain ⟨cY0, cY1, cY2, cY3, cY4⟩ := bx5 HY.out
  go_wp2_with fail
  refine (CB.out _ (HG.out _ HB1.out)).mono ?_
  rintro e w2 ⟨rfl, hb⟩
  clear cX0 cX1 cX2 cX3 cX4
  clear cY0 cY1 cY2 cY3 cY4
  have HX' := Lib.hid ((hb.block _ (heap_lt HX.out)).trans HX.out)
  clear HX
  have HX := HX'
  clear HX'
  have HY' := Lib.hid ((hb.block _ (heap_lt HY.out)).trans HY.out)
  clear HY
  have HY := HY'
  clear HY'
  have HB2 := Lib.hid (HB1.out.trans (hb.mono HB1.out.size))
  clear hb
  obtain ⟨cX0, cX1, cX2, cX3, cX4⟩ := bx5 HX.out
  obtain ⟨cY0, cY1, cY2, cY3, cY4⟩ := bx5 HY.out
  go_wp2_with fail
  refine (lnum_any _ _).mono ?_
  rintro e wz ⟨rfl, hw⟩
  have hw := hw.symm
  subst hw
  go_wp2_with fail
  refine (lnum_any _ _).mono ?_
  rintro e wz ⟨rfl, hw⟩
  have hw := hw.symm
  subst hw
  go_wp2_with fail
  refine (L.out _ (HG.out _ HB2.out)).mono ?_
  rintro e w3 ⟨rfl, hb⟩
  clear cX0 cX1 cX2 cX3 cX4
  clear cY0 cY1 cY2 cY3 cY4
  have HX' := Lib.hid ((hb.block _ (heap_lt HX.out)).trans HX.out)
  clear HX
  have HX := HX'
  clear HX'
  have HY' := Lib.hid ((hb.block _ (heap_lt HY.out)).trans HY.out)
  clear HY
  have HY := HY'
  clear HY'
  have HB3 := Lib.hid (HB2.out.trans (hb.mono HB2.out.size))
  clear hb
  go_wp2_with fail
  go_ret
  exact ⟨rfl, HB3.out⟩
set_option maxRecDepth 100000 in
set_option maxHeartbeats 8000000 in
theorem apart_f (f s g r : Int) (b : ByteArray) (f' s' g' r' : Int) (b' : ByteArray) (w : World) (hb : b.size ≤ 140737488351232) (hb' : b'.size ≤ 140737488351232) (hG : Gd w) (hl : ¬ 20000 < b.size + b'.size) (X Y : ByteArray) (hX : putS f s g r b = X) (hY : putS f' s' g' r' b' = Y) (hE : chk f s g r b = 0) (hE' : chk f' s' g' r' b' = 0) (hXY : X ≠ Y) (hne : f ≠ f') : Calls Tryd.prog 5 #[.agg #[.int .i64 f, .int .i64 s, .int .i64 g, .int .i64 r, .string b], .agg #[.int .i64 f', .int .i64 s', .int .i64 g', .int .i64 r', .string b']] w (OkL w) := by
  obtain ⟨hb0, hx0, hy0⟩ := two_boxes w #[.int .i64 f, .int .i64 s, .int .i64 g, .int .i64 r, .string b] #[.int .i64 f', .int .i64 s', .int .i64 g', .int .i64 r', .string b']
  have HB0 := Lib.hid hb0
  have HX := Lib.hid hx0
  have HY := Lib.hid hy0
  clear hb0 hx0 hy0
  have HG := Lib.hid hG.all
  have L := Lib.hid (fun W (h : Gd W) => live_any W h)
  clear hG
  have CA : Hid (∀ W, Gd W → Calls Tryd.prog 8 #[.agg #[.int .i64 f, .int .i64 s, .int .i64 g, .int .i64 r, .string b]] W (Gives (.tuple #[.string X, .int .i64 0]) W)) := fun W h => by
    have c := put_any f s g r b W hb h
    rw [hX, hE] at c
    exact c
  have CB : Hid (∀ W, Gd W → Calls Tryd.prog 8 #[.agg #[.int .i64 f', .int .i64 s', .int .i64 g', .int .i64 r', .string b']] W (Gives (.tuple #[.string Y, .int .i64 0]) W)) := fun W h => by
    have c := put_any f' s' g' r' b' W hb' h
    rw [hY, hE'] at c
    exact c
  clear hE hE' hX hY
  have eX : (X.toList == Y.toList) = false := by simpa using fun h => hXY (toList_inj h)
  have ne : (f == f') = false := by simpa using hne
  clear hXY hne
  have q1 : ¬ ((20000 : Int) < (b.size : Int) + (b'.size : Int)) := by omega
  clear hl
  obtain ⟨cX0, cX1, cX2, cX3, cX4⟩ := bx5 HX.out
  obtain ⟨cY0, cY1, cY2, cY3, cY4⟩ := bx5 HY.out
  go_enter Tryd.func5, Tryd.ntmps5
  go_wp2_with fail
  refine (CA.out _ (HG.out _ HB0.out)).mono ?_
  rintro e w1 ⟨rfl, hb⟩
  clear cX0 cX1 cX2 cX3 cX4
  clear cY0 cY1 cY2 cY3 cY4
  have HX' := Lib.hid ((hb.block _ (heap_lt HX.out)).trans HX.out)
  clear HX
  have HX := HX'
  clear HX'
  have HY' := Lib.hid ((hb.block _ (heap_lt HY.out)).trans HY.out)
  clear HY
  have HY := HY'
  clear HY'
  have HB1 := Lib.hid (HB0.out.trans (hb.mono HB0.out.size))
  clear hb
  obtain ⟨cX0, cX1, cX2, cX3, cX4⟩ := bx5 HX.out
  obtain ⟨cY0, cY1, cY2, cY3, cY4⟩ := bx5 HY.out
  go_wp2_with fail
  refine (CB.out _ (HG.out _ HB1.out)).mono ?_
  rintro e w2 ⟨rfl, hb⟩
  clear cX0 cX1 cX2 cX3 cX4
  clear cY0 cY1 cY2 cY3 cY4
  have HX' := Lib.hid ((hb.block _ (heap_lt HX.out)).trans HX.out)
  clear HX
  have HX := HX'
  clear HX'
  have HY' := Lib.hid ((hb.block _ (heap_lt HY.out)).trans HY.out)
  clear HY
  have HY := HY'
  clear HY'
  have HB2 := Lib.hid (HB1.out.trans (hb.mono HB1.out.size))
  clear hb
  obtain ⟨cX0, cX1, cX2, cX3, cX4⟩ := bx5 HX.out
  obtain ⟨cY0, cY1, cY2, cY3, cY4⟩ := bx5 HY.out
  go_wp2_with fail
  refine (lnum_any _ _).mono ?_
  rintro e wz ⟨rfl, hw⟩
  have hw := hw.symm
  subst hw
  go_wp2_with fail
  refine (lnum_any _ _).mono ?_
  rintro e wz ⟨rfl, hw⟩
  have hw := hw.symm
  subst hw
  go_wp2_with fail
  refine (L.out _ (HG.out _ HB2.out)).mono ?_
  rintro e w3 ⟨rfl, hb⟩
  clear cX0 cX1 cX2 cX3 cX4
  clear cY0 cY1 cY2 cY3 cY4
  have HX' := Lib.hid ((hb.block _ (heap_lt HX.out)).trans HX.out)
  clear HX
  have HX := HX'
  clear HX'
  have HY' := Lib.hid ((hb.block _ (heap_lt HY.out)).trans HY.out)
  clear HY
  have HY := HY'
  clear HY'
  have HB3 := Lib.hid (HB2.out.trans (hb.mono HB2.out.size))
  clear hb
  go_wp2_with fail
  go_ret
  exact ⟨rfl, HB3.out⟩
set_option maxRecDepth 100000 in
set_option maxHeartbeats 8000000 in
theorem apart_s (f s g r : Int) (b : ByteArray) (s' g' r' : Int) (b' : ByteArray) (w : World) (hb : b.size ≤ 140737488351232) (hb' : b'.size ≤ 140737488351232) (hG : Gd w) (hl : ¬ 20000 < b.size + b'.size) (X Y : ByteArray) (hX : putS f s g r b = X) (hY : putS f s' g' r' b' = Y) (hE : chk f s g r b = 0) (hE' : chk f s' g' r' b' = 0) (hXY : X ≠ Y) (hne : s ≠ s') : Calls Tryd.prog 5 #[.agg #[.int .i64 f, .int .i64 s, .int .i64 g, .int .i64 r, .string b], .agg #[.int .i64 f, .int .i64 s', .int .i64 g', .int .i64 r', .string b']] w (OkL w) := by
  obtain ⟨hb0, hx0, hy0⟩ := two_boxes w #[.int .i64 f, .int .i64 s, .int .i64 g, .int .i64 r, .string b] #[.int .i64 f, .int .i64 s', .int .i64 g', .int .i64 r', .string b']
  have HB0 := Lib.hid hb0
  have HX := Lib.hid hx0
  have HY := Lib.hid hy0
  clear hb0 hx0 hy0
  have HG := Lib.hid hG.all
  have L := Lib.hid (fun W (h : Gd W) => live_any W h)
  clear hG
  have CA : Hid (∀ W, Gd W → Calls Tryd.prog 8 #[.agg #[.int .i64 f, .int .i64 s, .int .i64 g, .int .i64 r, .string b]] W (Gives (.tuple #[.string X, .int .i64 0]) W)) := fun W h => by
    have c := put_any f s g r b W hb h
    rw [hX, hE] at c
    exact c
  have CB : Hid (∀ W, Gd W → Calls Tryd.prog 8 #[.agg #[.int .i64 f, .int .i64 s', .int .i64 g', .int .i64 r', .string b']] W (Gives (.tuple #[.string Y, .int .i64 0]) W)) := fun W h => by
    have c := put_any f s' g' r' b' W hb' h
    rw [hY, hE'] at c
    exact c
  clear hE hE' hX hY
  have eX : (X.toList == Y.toList) = false := by simpa using fun h => hXY (toList_inj h)
  have ne : (s == s') = false := by simpa using hne
  clear hXY hne
  have q1 : ¬ ((20000 : Int) < (b.size : Int) + (b'.size : Int)) := by omega
  clear hl
  obtain ⟨cX0, cX1, cX2, cX3, cX4⟩ := bx5 HX.out
  obtain ⟨cY0, cY1, cY2, cY3, cY4⟩ := bx5 HY.out
  go_enter Tryd.func5, Tryd.ntmps5
  go_wp2_with fail
  refine (CA.out _ (HG.out _ HB0.out)).mono ?_
  rintro e w1 ⟨rfl, hb⟩
  clear cX0 cX1 cX2 cX3 cX4
  clear cY0 cY1 cY2 cY3 cY4
  have HX' := Lib.hid ((hb.block _ (heap_lt HX.out)).trans HX.out)
  clear HX
  have HX := HX'
  clear HX'
  have HY' := Lib.hid ((hb.block _ (heap_lt HY.out)).trans HY.out)
  clear HY
  have HY := HY'
  clear HY'
  have HB1 := Lib.hid (HB0.out.trans (hb.mono HB0.out.size))
  clear hb
  obtain ⟨cX0, cX1, cX2, cX3, cX4⟩ := bx5 HX.out
  obtain ⟨cY0, cY1, cY2, cY3, cY4⟩ := bx5 HY.out
  go_wp2_with fail
  refine (CB.out _ (HG.out _ HB1.out)).mono ?_
  rintro e w2 ⟨rfl, hb⟩
  clear cX0 cX1 cX2 cX3 cX4
  clear cY0 cY1 cY2 cY3 cY4
  have HX' := Lib.hid ((hb.block _ (heap_lt HX.out)).trans HX.out)
  clear HX
  have HX := HX'
  clear HX'
  have HY' := Lib.hid ((hb.block _ (heap_lt HY.out)).trans HY.out)
  clear HY
  have HY := HY'
  clear HY'
  have HB2 := Lib.hid (HB1.out.trans (hb.mono HB1.out.size))
  clear hb
  obtain ⟨cX0, cX1, cX2, cX3, cX4⟩ := bx5 HX.out
  obtain ⟨cY0, cY1, cY2, cY3, cY4⟩ := bx5 HY.out
  go_wp2_with fail
  refine (lnum_any _ _).mono ?_
  rintro e wz ⟨rfl, hw⟩
  have hw := hw.symm
  subst hw
  go_wp2_with fail
  refine (lnum_any _ _).mono ?_
  rintro e wz ⟨rfl, hw⟩
  have hw := hw.symm
  subst hw
  go_wp2_with fail
  refine (L.out _ (HG.out _ HB2.out)).mono ?_
  rintro e w3 ⟨rfl, hb⟩
  clear cX0 cX1 cX2 cX3 cX4
  clear cY0 cY1 cY2 cY3 cY4
  have HX' := Lib.hid ((hb.block _ (heap_lt HX.out)).trans HX.out)
  clear HX
  have HX := HX'
  clear HX'
  have HY' := Lib.hid ((hb.block _ (heap_lt HY.out)).trans HY.out)
  clear HY
  have HY := HY'
  clear HY'
  have HB3 := Lib.hid (HB2.out.trans (hb.mono HB2.out.size))
  clear hb
  go_wp2_with fail
  go_ret
  exact ⟨rfl, HB3.out⟩
set_option maxRecDepth 100000 in
set_option maxHeartbeats 8000000 in
theorem apart_g (f s g r : Int) (b : ByteArray) (g' r' : Int) (b' : ByteArray) (w : World) (hb : b.size ≤ 140737488351232) (hb' : b'.size ≤ 140737488351232) (hG : Gd w) (hl : ¬ 20000 < b.size + b'.size) (X Y : ByteArray) (hX : putS f s g r b = X) (hY : putS f s g' r' b' = Y) (hE : chk f s g r b = 0) (hE' : chk f s g' r' b' = 0) (hXY : X ≠ Y) (hne : g ≠ g') : Calls Tryd.prog 5 #[.agg #[.int .i64 f, .int .i64 s, .int .i64 g, .int .i64 r, .string b], .agg #[.int .i64 f, .int .i64 s, .int .i64 g', .int .i64 r', .string b']] w (OkL w) := by
  obtain ⟨hb0, hx0, hy0⟩ := two_boxes w #[.int .i64 f, .int .i64 s, .int .i64 g, .int .i64 r, .string b] #[.int .i64 f, .int .i64 s, .int .i64 g', .int .i64 r', .string b']
  have HB0 := Lib.hid hb0
  have HX := Lib.hid hx0
  have HY := Lib.hid hy0
  clear hb0 hx0 hy0
  have HG := Lib.hid hG.all
  have L := Lib.hid (fun W (h : Gd W) => live_any W h)
  clear hG
  have CA : Hid (∀ W, Gd W → Calls Tryd.prog 8 #[.agg #[.int .i64 f, .int .i64 s, .int .i64 g, .int .i64 r, .string b]] W (Gives (.tuple #[.string X, .int .i64 0]) W)) := fun W h => by
    have c := put_any f s g r b W hb h
    rw [hX, hE] at c
    exact c
  have CB : Hid (∀ W, Gd W → Calls Tryd.prog 8 #[.agg #[.int .i64 f, .int .i64 s, .int .i64 g', .int .i64 r', .string b']] W (Gives (.tuple #[.string Y, .int .i64 0]) W)) := fun W h => by
    have c := put_any f s g' r' b' W hb' h
    rw [hY, hE'] at c
    exact c
  clear hE hE' hX hY
  have eX : (X.toList == Y.toList) = false := by simpa using fun h => hXY (toList_inj h)
  have ne : (g == g') = false := by simpa using hne
  clear hXY hne
  have q1 : ¬ ((20000 : Int) < (b.size : Int) + (b'.size : Int)) := by omega
  clear hl
  obtain ⟨cX0, cX1, cX2, cX3, cX4⟩ := bx5 HX.out
  obtain ⟨cY0, cY1, cY2, cY3, cY4⟩ := bx5 HY.out
  go_enter Tryd.func5, Tryd.ntmps5
  go_wp2_with fail
  refine (CA.out _ (HG.out _ HB0.out)).mono ?_
  rintro e w1 ⟨rfl, hb⟩
  clear cX0 cX1 cX2 cX3 cX4
  clear cY0 cY1 cY2 cY3 cY4
  have HX' := Lib.hid ((hb.block _ (heap_lt HX.out)).trans HX.out)
  clear HX
  have HX := HX'
  clear HX'
  have HY' := Lib.hid ((hb.block _ (heap_lt HY.out)).trans HY.out)
  clear HY
  have HY := HY'
  clear HY'
  have HB1 := Lib.hid (HB0.out.trans (hb.mono HB0.out.size))
  clear hb
  obtain ⟨cX0, cX1, cX2, cX3, cX4⟩ := bx5 HX.out
  obtain ⟨cY0, cY1, cY2, cY3, cY4⟩ := bx5 HY.out
  go_wp2_with fail
  refine (CB.out _ (HG.out _ HB1.out)).mono ?_
  rintro e w2 ⟨rfl, hb⟩
  clear cX0 cX1 cX2 cX3 cX4
  clear cY0 cY1 cY2 cY3 cY4
  have HX' := Lib.hid ((hb.block _ (heap_lt HX.out)).trans HX.out)
  clear HX
  have HX := HX'
  clear HX'
  have HY' := Lib.hid ((hb.block _ (heap_lt HY.out)).trans HY.out)
  clear HY
  have HY := HY'
  clear HY'
  have HB2 := Lib.hid (HB1.out.trans (hb.mono HB1.out.size))
  clear hb
  obtain ⟨cX0, cX1, cX2, cX3, cX4⟩ := bx5 HX.out
  obtain ⟨cY0, cY1, cY2, cY3, cY4⟩ := bx5 HY.out
  go_wp2_with fail
  refine (lnum_any _ _).mono ?_
  rintro e wz ⟨rfl, hw⟩
  have hw := hw.symm
  subst hw
  go_wp2_with fail
  refine (lnum_any _ _).mono ?_
  rintro e wz ⟨rfl, hw⟩
  have hw := hw.symm
  subst hw
  go_wp2_with fail
  refine (L.out _ (HG.out _ HB2.out)).mono ?_
  rintro e w3 ⟨rfl, hb⟩
  clear cX0 cX1 cX2 cX3 cX4
  clear cY0 cY1 cY2 cY3 cY4
  have HX' := Lib.hid ((hb.block _ (heap_lt HX.out)).trans HX.out)
  clear HX
  have HX := HX'
  clear HX'
  have HY' := Lib.hid ((hb.block _ (heap_lt HY.out)).trans HY.out)
  clear HY
  have HY := HY'
  clear HY'
  have HB3 := Lib.hid (HB2.out.trans (hb.mono HB2.out.size))
  clear hb
  go_wp2_with fail
  go_ret
  exact ⟨rfl, HB3.out⟩
set_option maxRecDepth 100000 in
set_option maxHeartbeats 8000000 in
theorem apart_r (f s g r : Int) (b : ByteArray) (r' : Int) (b' : ByteArray) (w : World) (hb : b.size ≤ 140737488351232) (hb' : b'.size ≤ 140737488351232) (hG : Gd w) (hl : ¬ 20000 < b.size + b'.size) (X Y : ByteArray) (hX : putS f s g r b = X) (hY : putS f s g r' b' = Y) (hE : chk f s g r b = 0) (hE' : chk f s g r' b' = 0) (hXY : X ≠ Y) (hne : r ≠ r') : Calls Tryd.prog 5 #[.agg #[.int .i64 f, .int .i64 s, .int .i64 g, .int .i64 r, .string b], .agg #[.int .i64 f, .int .i64 s, .int .i64 g, .int .i64 r', .string b']] w (OkL w) := by
  obtain ⟨hb0, hx0, hy0⟩ := two_boxes w #[.int .i64 f, .int .i64 s, .int .i64 g, .int .i64 r, .string b] #[.int .i64 f, .int .i64 s, .int .i64 g, .int .i64 r', .string b']
  have HB0 := Lib.hid hb0
  have HX := Lib.hid hx0
  have HY := Lib.hid hy0
  clear hb0 hx0 hy0
  have HG := Lib.hid hG.all
  have L := Lib.hid (fun W (h : Gd W) => live_any W h)
  clear hG
  have CA : Hid (∀ W, Gd W → Calls Tryd.prog 8 #[.agg #[.int .i64 f, .int .i64 s, .int .i64 g, .int .i64 r, .string b]] W (Gives (.tuple #[.string X, .int .i64 0]) W)) := fun W h => by
    have c := put_any f s g r b W hb h
    rw [hX, hE] at c
    exact c
  have CB : Hid (∀ W, Gd W → Calls Tryd.prog 8 #[.agg #[.int .i64 f, .int .i64 s, .int .i64 g, .int .i64 r', .string b']] W (Gives (.tuple #[.string Y, .int .i64 0]) W)) := fun W h => by
    have c := put_any f s g r' b' W hb' h
    rw [hY, hE'] at c
    exact c
  clear hE hE' hX hY
  have eX : (X.toList == Y.toList) = false := by simpa using fun h => hXY (toList_inj h)
  have ne : (r == r') = false := by simpa using hne
  clear hXY hne
  have q1 : ¬ ((20000 : Int) < (b.size : Int) + (b'.size : Int)) := by omega
  clear hl
  obtain ⟨cX0, cX1, cX2, cX3, cX4⟩ := bx5 HX.out
  obtain ⟨cY0, cY1, cY2, cY3, cY4⟩ := bx5 HY.out
  go_enter Tryd.func5, Tryd.ntmps5
  go_wp2_with fail
  refine (CA.out _ (HG.out _ HB0.out)).mono ?_
  rintro e w1 ⟨rfl, hb⟩
  clear cX0 cX1 cX2 cX3 cX4
  clear cY0 cY1 cY2 cY3 cY4
  have HX' := Lib.hid ((hb.block _ (heap_lt HX.out)).trans HX.out)
  clear HX
  have HX := HX'
  clear HX'
  have HY' := Lib.hid ((hb.block _ (heap_lt HY.out)).trans HY.out)
  clear HY
  have HY := HY'
  clear HY'
  have HB1 := Lib.hid (HB0.out.trans (hb.mono HB0.out.size))
  clear hb
  obtain ⟨cX0, cX1, cX2, cX3, cX4⟩ := bx5 HX.out
  obtain ⟨cY0, cY1, cY2, cY3, cY4⟩ := bx5 HY.out
  go_wp2_with fail
  refine (CB.out _ (HG.out _ HB1.out)).mono ?_
  rintro e w2 ⟨rfl, hb⟩
  clear cX0 cX1 cX2 cX3 cX4
  clear cY0 cY1 cY2 cY3 cY4
  have HX' := Lib.hid ((hb.block _ (heap_lt HX.out)).trans HX.out)
  clear HX
  have HX := HX'
  clear HX'
  have HY' := Lib.hid ((hb.block _ (heap_lt HY.out)).trans HY.out)
  clear HY
  have HY := HY'
  clear HY'
  have HB2 := Lib.hid (HB1.out.trans (hb.mono HB1.out.size))
  clear hb
  obtain ⟨cX0, cX1, cX2, cX3, cX4⟩ := bx5 HX.out
  obtain ⟨cY0, cY1, cY2, cY3, cY4⟩ := bx5 HY.out
  go_wp2_with fail
  refine (lnum_any _ _).mono ?_
  rintro e wz ⟨rfl, hw⟩
  have hw := hw.symm
  subst hw
  go_wp2_with fail
  refine (lnum_any _ _).mono ?_
  rintro e wz ⟨rfl, hw⟩
  have hw := hw.symm
  subst hw
  go_wp2_with fail
  refine (L.out _ (HG.out _ HB2.out)).mono ?_
  rintro e w3 ⟨rfl, hb⟩
  clear cX0 cX1 cX2 cX3 cX4
  clear cY0 cY1 cY2 cY3 cY4
  have HX' := Lib.hid ((hb.block _ (heap_lt HX.out)).trans HX.out)
  clear HX
  have HX := HX'
  clear HX'
  have HY' := Lib.hid ((hb.block _ (heap_lt HY.out)).trans HY.out)
  clear HY
  have HY := HY'
  clear HY'
  have HB3 := Lib.hid (HB2.out.trans (hb.mono HB2.out.size))
  clear hb
  go_wp2_with fail
  go_ret
  exact ⟨rfl, HB3.out⟩
set_option maxRecDepth 100000 in
set_option maxHeartbeats 8000000 in
theorem apart_b (f s g r : Int) (b : ByteArray) (b' : ByteArray) (w : World) (hb : b.size ≤ 140737488351232) (hb' : b'.size ≤ 140737488351232) (hG : Gd w) (hl : ¬ 20000 < b.size + b'.size) (X Y : ByteArray) (hX : putS f s g r b = X) (hY : putS f s g r b' = Y) (hE : chk f s g r b = 0) (hE' : chk f s g r b' = 0) (hXY : X ≠ Y) (hne : b ≠ b') : Calls Tryd.prog 5 #[.agg #[.int .i64 f, .int .i64 s, .int .i64 g, .int .i64 r, .string b], .agg #[.int .i64 f, .int .i64 s, .int .i64 g, .int .i64 r, .string b']] w (OkL w) := by
  obtain ⟨hb0, hx0, hy0⟩ := two_boxes w #[.int .i64 f, .int .i64 s, .int .i64 g, .int .i64 r, .string b] #[.int .i64 f, .int .i64 s, .int .i64 g, .int .i64 r, .string b']
  have HB0 := Lib.hid hb0
  have HX := Lib.hid hx0
  have HY := Lib.hid hy0
  clear hb0 hx0 hy0
  have HG := Lib.hid hG.all
  have L := Lib.hid (fun W (h : Gd W) => live_any W h)
  clear hG
  have CA : Hid (∀ W, Gd W → Calls Tryd.prog 8 #[.agg #[.int .i64 f, .int .i64 s, .int .i64 g, .int .i64 r, .string b]] W (Gives (.tuple #[.string X, .int .i64 0]) W)) := fun W h => by
    have c := put_any f s g r b W hb h
    rw [hX, hE] at c
    exact c
  have CB : Hid (∀ W, Gd W → Calls Tryd.prog 8 #[.agg #[.int .i64 f, .int .i64 s, .int .i64 g, .int .i64 r, .string b']] W (Gives (.tuple #[.string Y, .int .i64 0]) W)) := fun W h => by
    have c := put_any f s g r b' W hb' h
    rw [hY, hE'] at c
    exact c
  clear hE hE' hX hY
  have eX : (X.toList == Y.toList) = false := by simpa using fun h => hXY (toList_inj h)
  have ne : (b.toList == b'.toList) = false := by simpa using fun h => hne (toList_inj h)
  have ne2 : ¬ b.toList = b'.toList := fun h => hne (toList_inj h)
  clear hXY hne
  have q1 : ¬ ((20000 : Int) < (b.size : Int) + (b'.size : Int)) := by omega
  clear hl
  obtain ⟨cX0, cX1, cX2, cX3, cX4⟩ := bx5 HX.out
  obtain ⟨cY0, cY1, cY2, cY3, cY4⟩ := bx5 HY.out
  go_enter Tryd.func5, Tryd.ntmps5
  go_wp2_with fail
  refine (CA.out _ (HG.out _ HB0.out)).mono ?_
  rintro e w1 ⟨rfl, hb⟩
  clear cX0 cX1 cX2 cX3 cX4
  clear cY0 cY1 cY2 cY3 cY4
  have HX' := Lib.hid ((hb.block _ (heap_lt HX.out)).trans HX.out)
  clear HX
  have HX := HX'
  clear HX'
  have HY' := Lib.hid ((hb.block _ (heap_lt HY.out)).trans HY.out)
  clear HY
  have HY := HY'
  clear HY'
  have HB1 := Lib.hid (HB0.out.trans (hb.mono HB0.out.size))
  clear hb
  obtain ⟨cX0, cX1, cX2, cX3, cX4⟩ := bx5 HX.out
  obtain ⟨cY0, cY1, cY2, cY3, cY4⟩ := bx5 HY.out
  go_wp2_with fail
  refine (CB.out _ (HG.out _ HB1.out)).mono ?_
  rintro e w2 ⟨rfl, hb⟩
  clear cX0 cX1 cX2 cX3 cX4
  clear cY0 cY1 cY2 cY3 cY4
  have HX' := Lib.hid ((hb.block _ (heap_lt HX.out)).trans HX.out)
  clear HX
  have HX := HX'
  clear HX'
  have HY' := Lib.hid ((hb.block _ (heap_lt HY.out)).trans HY.out)
  clear HY
  have HY := HY'
  clear HY'
  have HB2 := Lib.hid (HB1.out.trans (hb.mono HB1.out.size))
  clear hb
  obtain ⟨cX0, cX1, cX2, cX3, cX4⟩ := bx5 HX.out
  obtain ⟨cY0, cY1, cY2, cY3, cY4⟩ := bx5 HY.out
  go_wp2_with fail
  refine (lnum_any _ _).mono ?_
  rintro e wz ⟨rfl, hw⟩
  have hw := hw.symm
  subst hw
  go_wp2_with fail
  refine (lnum_any _ _).mono ?_
  rintro e wz ⟨rfl, hw⟩
  have hw := hw.symm
  subst hw
  go_wp2_with fail
  refine (L.out _ (HG.out _ HB2.out)).mono ?_
  rintro e w3 ⟨rfl, hb⟩
  clear cX0 cX1 cX2 cX3 cX4
  clear cY0 cY1 cY2 cY3 cY4
  have HX' := Lib.hid ((hb.block _ (heap_lt HX.out)).trans HX.out)
  clear HX
  have HX := HX'
  clear HX'
  have HY' := Lib.hid ((hb.block _ (heap_lt HY.out)).trans HY.out)
  clear HY
  have HY := HY'
  clear HY'
  have HB3 := Lib.hid (HB2.out.trans (hb.mono HB2.out.size))
  clear hb
  go_wp2_with fail
  go_ret
  exact ⟨rfl, HB3.out⟩
theorem snacApart_walk (f s g r : Int) (b : ByteArray) (f' s' g' r' : Int) (b' : ByteArray) (w : World) (hb : b.size ≤ 140737488351232) (hb' : b'.size ≤ 140737488351232) (hG : Gd w) : Calls Tryd.prog 5 #[.agg #[.int .i64 f, .int .i64 s, .int .i64 g, .int .i64 r, .string b], .agg #[.int .i64 f', .int .i64 s', .int .i64 g', .int .i64 r', .string b']] w (OkL w) := by
  by_cases hl : 20000 < b.size + b'.size
  · exact apart_big f s g r b f' s' g' r' b' w hb hb' hG hl
  rcases chk_cases f s g r b with h | h | h
  · rcases chk_cases f' s' g' r' b' with h' | h' | h'
    · have HI := fun e => put_inj (t := ⟨f, s, g, r, b⟩) (u := ⟨f', s', g', r', b'⟩) h h' e
      by_cases h0 : f = f'
      · subst h0
        by_cases h1 : s = s'
        · subst h1
          by_cases h2 : g = g'
          · subst h2
            by_cases h3 : r = r'
            · subst h3
              by_cases h4 : b = b'
              · subst h4
                exact apart_same f s g r b w hb hG hl _ rfl h
              · exact apart_b f s g r b b' w hb hb' hG hl _ _ rfl rfl h h' (fun e => h4 (congrArg Sn.b (HI e))) h4
            · exact apart_r f s g r b r' b' w hb hb' hG hl _ _ rfl rfl h h' (fun e => h3 (congrArg Sn.r (HI e))) h3
          · exact apart_g f s g r b g' r' b' w hb hb' hG hl _ _ rfl rfl h h' (fun e => h2 (congrArg Sn.g (HI e))) h2
        · exact apart_s f s g r b s' g' r' b' w hb hb' hG hl _ _ rfl rfl h h' (fun e => h1 (congrArg Sn.s (HI e))) h1
      · exact apart_f f s g r b f' s' g' r' b' w hb hb' hG hl _ _ rfl rfl h h' (fun e => h0 (congrArg Sn.f (HI e))) h0
    · exact apart_01 f s g r b f' s' g' r' b' w hb hb' hG hl _ _ rfl rfl h h'
    · exact apart_02 f s g r b f' s' g' r' b' w hb hb' hG hl _ _ rfl rfl h h'
  · rcases chk_cases f' s' g' r' b' with h' | h' | h'
    · exact apart_10 f s g r b f' s' g' r' b' w hb hb' hG hl _ _ rfl rfl h h'
    · exact apart_11 f s g r b f' s' g' r' b' w hb hb' hG hl _ _ rfl rfl h h'
    · exact apart_12 f s g r b f' s' g' r' b' w hb hb' hG hl _ _ rfl rfl h h'
  · rcases chk_cases f' s' g' r' b' with h' | h' | h'
    · exact apart_20 f s g r b f' s' g' r' b' w hb hb' hG hl _ _ rfl rfl h h'
    · exact apart_21 f s g r b f' s' g' r' b' w hb hb' hG hl _ _ rfl rfl h h'
    · exact apart_22 f s g r b f' s' g' r' b' w hb hb' hG hl _ _ rfl rfl h h'
end Go.Proofs.YthbpkdcjfcbngaaDoor
