/- Contracts: the document's own two, Check, Put, Parse, whatever the arguments. Condition: a text takes at most what a machine can hold. -/
import Derived.Test.YthbpkdcjfcbngaaDoorVf
namespace Go.Proofs.YthbpkdcjfcbngaaDoor
open Go.RowKit Go.Lib

set_option maxRecDepth 100000 in
set_option maxHeartbeats 8000000 in
theorem rtwo_any (n : Int) (w : World) : Calls Tryd.prog 24 #[.int .i64 n] w (Pure (.bool (two n)) w) := by
  unfold two
  by_cases h0 : n < 0
  · rw [decide_eq_false (show ¬ 0 ≤ n by omega)]
    go_enter Tryd.func24, Tryd.ntmps24
    go_wp2_with fail
    go_ret
    exact ⟨rfl, rfl⟩
  · rw [decide_eq_true (show 0 ≤ n by omega)]
    by_cases h1 : n ≤ 65535
    · rw [decide_eq_true h1]
      go_enter Tryd.func24, Tryd.ntmps24
      go_wp2_with fail
      go_ret
      exact ⟨rfl, rfl⟩
    · rw [decide_eq_false h1]
      go_enter Tryd.func24, Tryd.ntmps24
      go_wp2_with fail
      go_ret
      exact ⟨rfl, rfl⟩
set_option maxRecDepth 100000 in
set_option maxHeartbeats 8000000 in
theorem rcheck_a (f s g r : Int) (b : ByteArray) (w : World) (_hb : b.size ≤ 140737488351232) (h0 : two f = false) : Calls Tryd.prog 14 #[.agg #[.int .i64 f, .int .i64 s, .int .i64 g, .int .i64 r, .string b]] w (Gives (.int .i64 2) w) := by
  have HB : Hid (Below w.heap.size w (w.alloc (.cells #[.int .i64 f, .int .i64 s, .int .i64 g, .int .i64 r, .string b] 23))) := (Below.refl _ w).alloc (Nat.le_refl _) _
  obtain ⟨c0, c1, c2, c3, c4⟩ := bx5 (box_new w #[.int .i64 f, .int .i64 s, .int .i64 g, .int .i64 r, .string b] 23)
  have T0 := Lib.hid (fun W => rtwo_any f W)
  rw [h0] at T0
  clear h0
  go_enter Tryd.func14, Tryd.ntmps14
  go_wp2_with fail
  refine (T0.out _).mono ?_
  rintro e wz ⟨rfl, hw⟩
  have hw := hw.symm
  subst hw
  go_wp2_with fail
  go_ret
  exact ⟨rfl, HB.out⟩
set_option maxRecDepth 100000 in
set_option maxHeartbeats 8000000 in
theorem rcheck_b (f s g r : Int) (b : ByteArray) (w : World) (_hb : b.size ≤ 140737488351232) (h0 : two f = true) (h1 : two s = false) : Calls Tryd.prog 14 #[.agg #[.int .i64 f, .int .i64 s, .int .i64 g, .int .i64 r, .string b]] w (Gives (.int .i64 2) w) := by
  have HB : Hid (Below w.heap.size w (w.alloc (.cells #[.int .i64 f, .int .i64 s, .int .i64 g, .int .i64 r, .string b] 23))) := (Below.refl _ w).alloc (Nat.le_refl _) _
  obtain ⟨c0, c1, c2, c3, c4⟩ := bx5 (box_new w #[.int .i64 f, .int .i64 s, .int .i64 g, .int .i64 r, .string b] 23)
  have T0 := Lib.hid (fun W => rtwo_any f W)
  rw [h0] at T0
  have T1 := Lib.hid (fun W => rtwo_any s W)
  rw [h1] at T1
  clear h0 h1
  go_enter Tryd.func14, Tryd.ntmps14
  go_wp2_with fail
  refine (T0.out _).mono ?_
  rintro e wz ⟨rfl, hw⟩
  have hw := hw.symm
  subst hw
  go_wp2_with fail
  refine (T1.out _).mono ?_
  rintro e wz ⟨rfl, hw⟩
  have hw := hw.symm
  subst hw
  go_wp2_with fail
  go_ret
  exact ⟨rfl, HB.out⟩
set_option maxRecDepth 100000 in
set_option maxHeartbeats 8000000 in
theorem rcheck_c (f s g r : Int) (b : ByteArray) (w : World) (_hb : b.size ≤ 140737488351232) (h0 : two f = true) (h1 : two s = true) (h2 : two g = false) : Calls Tryd.prog 14 #[.agg #[.int .i64 f, .int .i64 s, .int .i64 g, .int .i64 r, .string b]] w (Gives (.int .i64 2) w) := by
  have HB : Hid (Below w.heap.size w (w.alloc (.cells #[.int .i64 f, .int .i64 s, .int .i64 g, .int .i64 r, .string b] 23))) := (Below.refl _ w).alloc (Nat.le_refl _) _
  obtain ⟨c0, c1, c2, c3, c4⟩ := bx5 (box_new w #[.int .i64 f, .int .i64 s, .int .i64 g, .int .i64 r, .string b] 23)
  have T0 := Lib.hid (fun W => rtwo_any f W)
  rw [h0] at T0
  have T1 := Lib.hid (fun W => rtwo_any s W)
  rw [h1] at T1
  have T2 := Lib.hid (fun W => rtwo_any g W)
  rw [h2] at T2
  clear h0 h1 h2
  go_enter Tryd.func14, Tryd.ntmps14
  go_wp2_with fail
  refine (T0.out _).mono ?_
  rintro e wz ⟨rfl, hw⟩
  have hw := hw.symm
  subst hw
  go_wp2_with fail
  refine (T1.out _).mono ?_
  rintro e wz ⟨rfl, hw⟩
  have hw := hw.symm
  subst hw
  go_wp2_with fail
  refine (T2.out _).mono ?_
  rintro e wz ⟨rfl, hw⟩
  have hw := hw.symm
  subst hw
  go_wp2_with fail
  go_ret
  exact ⟨rfl, HB.out⟩
set_option maxRecDepth 100000 in
set_option maxHeartbeats 8000000 in
theorem rcheck_d (f s g r : Int) (b : ByteArray) (w : World) (_hb : b.size ≤ 140737488351232) (h0 : two f = true) (h1 : two s = true) (h2 : two g = true) (_h3 : r < 0) : Calls Tryd.prog 14 #[.agg #[.int .i64 f, .int .i64 s, .int .i64 g, .int .i64 r, .string b]] w (Gives (.int .i64 2) w) := by
  have HB : Hid (Below w.heap.size w (w.alloc (.cells #[.int .i64 f, .int .i64 s, .int .i64 g, .int .i64 r, .string b] 23))) := (Below.refl _ w).alloc (Nat.le_refl _) _
  obtain ⟨c0, c1, c2, c3, c4⟩ := bx5 (box_new w #[.int .i64 f, .int .i64 s, .int .i64 g, .int .i64 r, .string b] 23)
  have T0 := Lib.hid (fun W => rtwo_any f W)
  rw [h0] at T0
  have T1 := Lib.hid (fun W => rtwo_any s W)
  rw [h1] at T1
  have T2 := Lib.hid (fun W => rtwo_any g W)
  rw [h2] at T2
  clear h0 h1 h2
  go_enter Tryd.func14, Tryd.ntmps14
  go_wp2_with fail
  refine (T0.out _).mono ?_
  rintro e wz ⟨rfl, hw⟩
  have hw := hw.symm
  subst hw
  go_wp2_with fail
  refine (T1.out _).mono ?_
  rintro e wz ⟨rfl, hw⟩
  have hw := hw.symm
  subst hw
  go_wp2_with fail
  refine (T2.out _).mono ?_
  rintro e wz ⟨rfl, hw⟩
  have hw := hw.symm
  subst hw
  go_wp2_with fail
  go_ret
  exact ⟨rfl, HB.out⟩
set_option maxRecDepth 100000 in
set_option maxHeartbeats 8000000 in
theorem rcheck_e (f s g r : Int) (b : ByteArray) (w : World) (_hb : b.size ≤ 140737488351232) (h0 : two f = true) (h1 : two s = true) (h2 : two g = true) (_h3 : ¬ r < 0) (h4 : 4294967295 < r) : Calls Tryd.prog 14 #[.agg #[.int .i64 f, .int .i64 s, .int .i64 g, .int .i64 r, .string b]] w (Gives (.int .i64 2) w) := by
  have HB : Hid (Below w.heap.size w (w.alloc (.cells #[.int .i64 f, .int .i64 s, .int .i64 g, .int .i64 r, .string b] 23))) := (Below.refl _ w).alloc (Nat.le_refl _) _
  obtain ⟨c0, c1, c2, c3, c4⟩ := bx5 (box_new w #[.int .i64 f, .int .i64 s, .int .i64 g, .int .i64 r, .string b] 23)
  have T0 := Lib.hid (fun W => rtwo_any f W)
  rw [h0] at T0
  have T1 := Lib.hid (fun W => rtwo_any s W)
  rw [h1] at T1
  have T2 := Lib.hid (fun W => rtwo_any g W)
  rw [h2] at T2
  clear h0 h1 h2
  have q4 : decide ((4294967295 : Int) < r) = true := by simp; omega
  clear h4
  go_enter Tryd.func14, Tryd.ntmps14
  go_wp2_with fail
  refine (T0.out _).mono ?_
  rintro e wz ⟨rfl, hw⟩
  have hw := hw.symm
  subst hw
  go_wp2_with fail
  refine (T1.out _).mono ?_
  rintro e wz ⟨rfl, hw⟩
  have hw := hw.symm
  subst hw
  go_wp2_with fail
  refine (T2.out _).mono ?_
  rintro e wz ⟨rfl, hw⟩
  have hw := hw.symm
  subst hw
  go_wp2_with fail
  go_ret
  exact ⟨rfl, HB.out⟩
set_option maxRecDepth 100000 in
set_option maxHeartbeats 8000000 in
theorem rcheck_l (f s g r : Int) (b : ByteArray) (w : World) (_hb : b.size ≤ 140737488351232) (h0 : two f = true) (h1 : two s = true) (h2 : two g = true) (_h3 : ¬ r < 0) (h4 : ¬ 4294967295 < r) (hl : 8182 < b.size) : Calls Tryd.prog 14 #[.agg #[.int .i64 f, .int .i64 s, .int .i64 g, .int .i64 r, .string b]] w (Gives (.int .i64 1) w) := by
  have HB : Hid (Below w.heap.size w (w.alloc (.cells #[.int .i64 f, .int .i64 s, .int .i64 g, .int .i64 r, .string b] 23))) := (Below.refl _ w).alloc (Nat.le_refl _) _
  obtain ⟨c0, c1, c2, c3, c4⟩ := bx5 (box_new w #[.int .i64 f, .int .i64 s, .int .i64 g, .int .i64 r, .string b] 23)
  have T0 := Lib.hid (fun W => rtwo_any f W)
  rw [h0] at T0
  have T1 := Lib.hid (fun W => rtwo_any s W)
  rw [h1] at T1
  have T2 := Lib.hid (fun W => rtwo_any g W)
  rw [h2] at T2
  clear h0 h1 h2
  have q4 : decide ((4294967295 : Int) < r) = false := by simp; omega
  have q1 : ((8182 : Int) < (b.size : Int)) := by omega
  clear h4
  go_enter Tryd.func14, Tryd.ntmps14
  go_wp2_with fail
  refine (T0.out _).mono ?_
  rintro e wz ⟨rfl, hw⟩
  have hw := hw.symm
  subst hw
  go_wp2_with fail
  refine (T1.out _).mono ?_
  rintro e wz ⟨rfl, hw⟩
  have hw := hw.symm
  subst hw
  go_wp2_with fail
  refine (T2.out _).mono ?_
  rintro e wz ⟨rfl, hw⟩
  have hw := hw.symm
  subst hw
  go_wp2_with fail
  go_ret
  exact ⟨rfl, HB.out⟩
set_option maxRecDepth 100000 in
set_option maxHeartbeats 8000000 in
theorem rcheck_y (f s g r : Int) (b : ByteArray) (w : World) (_hb : b.size ≤ 140737488351232) (h0 : two f = true) (h1 : two s = true) (h2 : two g = true) (_h3 : ¬ r < 0) (h4 : ¬ 4294967295 < r) (hl : ¬ 8182 < b.size) : Calls Tryd.prog 14 #[.agg #[.int .i64 f, .int .i64 s, .int .i64 g, .int .i64 r, .string b]] w (Gives (.int .i64 0) w) := by
  have HB : Hid (Below w.heap.size w (w.alloc (.cells #[.int .i64 f, .int .i64 s, .int .i64 g, .int .i64 r, .string b] 23))) := (Below.refl _ w).alloc (Nat.le_refl _) _
  obtain ⟨c0, c1, c2, c3, c4⟩ := bx5 (box_new w #[.int .i64 f, .int .i64 s, .int .i64 g, .int .i64 r, .string b] 23)
  have T0 := Lib.hid (fun W => rtwo_any f W)
  rw [h0] at T0
  have T1 := Lib.hid (fun W => rtwo_any s W)
  rw [h1] at T1
  have T2 := Lib.hid (fun W => rtwo_any g W)
  rw [h2] at T2
  clear h0 h1 h2
  have q4 : decide ((4294967295 : Int) < r) = false := by simp; omega
  have q1 : ¬ ((8182 : Int) < (b.size : Int)) := by omega
  clear h4
  go_enter Tryd.func14, Tryd.ntmps14
  go_wp2_with fail
  refine (T0.out _).mono ?_
  rintro e wz ⟨rfl, hw⟩
  have hw := hw.symm
  subst hw
  go_wp2_with fail
  refine (T1.out _).mono ?_
  rintro e wz ⟨rfl, hw⟩
  have hw := hw.symm
  subst hw
  go_wp2_with fail
  refine (T2.out _).mono ?_
  rintro e wz ⟨rfl, hw⟩
  have hw := hw.symm
  subst hw
  go_wp2_with fail
  go_ret
  exact ⟨rfl, HB.out⟩
theorem rcheck_any (f s g r : Int) (b : ByteArray) (w : World) (hb : b.size ≤ 140737488351232) : Calls Tryd.prog 14 #[.agg #[.int .i64 f, .int .i64 s, .int .i64 g, .int .i64 r, .string b]] w (Gives (.int .i64 (chk f s g r b)) w) := by
  unfold chk fit
  cases h0 : two f
  · exact rcheck_a f s g r b w hb h0
  cases h1 : two s
  · exact rcheck_b f s g r b w hb h0 h1
  cases h2 : two g
  · exact rcheck_c f s g r b w hb h0 h1 h2
  by_cases h3 : r < 0
  · rw [show four r = false by unfold four; rw [decide_eq_false (by omega)]; rfl]
    exact rcheck_d f s g r b w hb h0 h1 h2 h3
  by_cases h4 : 4294967295 < r
  · rw [show four r = false by unfold four; rw [decide_eq_false (show ¬ r ≤ 4294967295 by omega)]; simp]
    exact rcheck_e f s g r b w hb h0 h1 h2 h3 h4
  rw [show four r = true from four_iff.2 ⟨by omega, by omega⟩]
  by_cases hl : 8182 < b.size
  · rw [if_pos (show (true && true && true && true) = true from rfl), if_pos hl]
    exact rcheck_l f s g r b w hb h0 h1 h2 h3 h4 hl
  · rw [if_pos (show (true && true && true && true) = true from rfl), if_neg hl]
    exact rcheck_y f s g r b w hb h0 h1 h2 h3 h4 hl
set_option maxRecDepth 100000 in
set_option maxHeartbeats 8000000 in
theorem rput_e (f s g r : Int) (b : ByteArray) (w : World) (hb : b.size ≤ 140737488351232) (E : Int) (hE : chk f s g r b = E) (h0 : E ≠ 0) : Calls Tryd.prog 9 #[.agg #[.int .i64 f, .int .i64 s, .int .i64 g, .int .i64 r, .string b]] w (Gives (.tuple #[.string ⟨#[]⟩, .int .i64 E]) w) := by
  have HB : Hid (Below w.heap.size w (w.alloc (.cells #[.int .i64 f, .int .i64 s, .int .i64 g, .int .i64 r, .string b] 23))) := (Below.refl _ w).alloc (Nat.le_refl _) _
  have CC := Lib.hid (rcheck_any f s g r b (w.alloc (.cells #[.int .i64 f, .int .i64 s, .int .i64 g, .int .i64 r, .string b] 23)) hb)
  obtain ⟨c0, c1, c2, c3, c4⟩ := bx5 (box_new w #[.int .i64 f, .int .i64 s, .int .i64 g, .int .i64 r, .string b] 23)
  rw [hE] at CC
  have e0 : (E == 0) = false := by simpa using h0
  clear hE h0
  go_enter Tryd.func9, Tryd.ntmps9
  go_wp2_with fail
  refine CC.out.mono ?_
  rintro e w1 ⟨rfl, hb1⟩
  have HB1 := Lib.hid (HB.out.trans (hb1.mono HB.out.size))
  clear hb1 CC c0 c1 c2 c3 c4
  go_wp2_with fail
  go_ret2
  exact ⟨rfl, HB1.out⟩
set_option maxRecDepth 100000 in
set_option maxHeartbeats 8000000 in
theorem rput_y (f s g r : Int) (b : ByteArray) (w : World) (hb : b.size ≤ 140737488351232) (hE : chk f s g r b = 0) : Calls Tryd.prog 9 #[.agg #[.int .i64 f, .int .i64 s, .int .i64 g, .int .i64 r, .string b]] w (Gives (.tuple #[.string (hdS f s g r ++ b), .int .i64 0]) w) := by
  have HB : Hid (Below w.heap.size w (w.alloc (.cells #[.int .i64 f, .int .i64 s, .int .i64 g, .int .i64 r, .string b] 23))) := (Below.refl _ w).alloc (Nat.le_refl _) _
  have CC := Lib.hid (rcheck_any f s g r b (w.alloc (.cells #[.int .i64 f, .int .i64 s, .int .i64 g, .int .i64 r, .string b] 23)) hb)
  have hl := (chk_zero.1 hE).2
  obtain ⟨c0, c1, c2, c3, c4⟩ := bx5 (box_new w #[.int .i64 f, .int .i64 s, .int .i64 g, .int .i64 r, .string b] 23)
  rw [hE] at CC
  clear hE
  unfold hdS
  have C0 := Lib.hid (fun W => rint_any f 2 W)
  have z0 := intS_len f 2
  have C1 := Lib.hid (fun W => rint_any s 2 W)
  have z1 := intS_len s 2
  have C2 := Lib.hid (fun W => rint_any g 2 W)
  have z2 := intS_len g 2
  have C3 := Lib.hid (fun W => rint_any r 4 W)
  have z3 := intS_len r 4
  generalize intS f 2 = A0 at C0 z0 ⊢
  generalize intE f 2 = E0 at C0
  generalize intS s 2 = A1 at C1 z1 ⊢
  generalize intE s 2 = E1 at C1
  generalize intS g 2 = A2 at C2 z2 ⊢
  generalize intE g 2 = E2 at C2
  generalize intS r 4 = A3 at C3 z3 ⊢
  generalize intE r 4 = E3 at C3
  go_enter Tryd.func9, Tryd.ntmps9
  go_wp2_with fail
  refine CC.out.mono ?_
  rintro e w1 ⟨rfl, hb1⟩
  have HB1 := Lib.hid (HB.out.trans (hb1.mono HB.out.size))
  have d0 := (hb1.cell (p := ⟨w.heap.size, 0, none⟩) (World.block_lt_of_cell? _ _ c0)).trans c0
  have d1 := (hb1.cell (p := ⟨w.heap.size, 1, none⟩) (World.block_lt_of_cell? _ _ c1)).trans c1
  have d2 := (hb1.cell (p := ⟨w.heap.size, 2, none⟩) (World.block_lt_of_cell? _ _ c2)).trans c2
  have d3 := (hb1.cell (p := ⟨w.heap.size, 3, none⟩) (World.block_lt_of_cell? _ _ c3)).trans c3
  have d4 := (hb1.cell (p := ⟨w.heap.size, 4, none⟩) (World.block_lt_of_cell? _ _ c4)).trans c4
  clear hb1 CC c0 c1 c2 c3 c4
  go_wp2_with fail
  refine (C0.out _).mono ?_
  rintro e w2 ⟨rfl, hb2⟩
  have HB2 := Lib.hid (HB1.out.trans (hb2.mono HB1.out.size))
  have c0 := (hb2.cell (p := ⟨w.heap.size, 0, none⟩) (World.block_lt_of_cell? _ _ d0)).trans d0
  have c1 := (hb2.cell (p := ⟨w.heap.size, 1, none⟩) (World.block_lt_of_cell? _ _ d1)).trans d1
  have c2 := (hb2.cell (p := ⟨w.heap.size, 2, none⟩) (World.block_lt_of_cell? _ _ d2)).trans d2
  have c3 := (hb2.cell (p := ⟨w.heap.size, 3, none⟩) (World.block_lt_of_cell? _ _ d3)).trans d3
  have c4 := (hb2.cell (p := ⟨w.heap.size, 4, none⟩) (World.block_lt_of_cell? _ _ d4)).trans d4
  clear hb2 d0 d1 d2 d3 d4
  go_wp2_with fail
  refine (C1.out _).mono ?_
  rintro e w3 ⟨rfl, hb3⟩
  have HB3 := Lib.hid (HB2.out.trans (hb3.mono HB2.out.size))
  have d0 := (hb3.cell (p := ⟨w.heap.size, 0, none⟩) (World.block_lt_of_cell? _ _ c0)).trans c0
  have d1 := (hb3.cell (p := ⟨w.heap.size, 1, none⟩) (World.block_lt_of_cell? _ _ c1)).trans c1
  have d2 := (hb3.cell (p := ⟨w.heap.size, 2, none⟩) (World.block_lt_of_cell? _ _ c2)).trans c2
  have d3 := (hb3.cell (p := ⟨w.heap.size, 3, none⟩) (World.block_lt_of_cell? _ _ c3)).trans c3
  have d4 := (hb3.cell (p := ⟨w.heap.size, 4, none⟩) (World.block_lt_of_cell? _ _ c4)).trans c4
  clear hb3 c0 c1 c2 c3 c4
  go_wp2_with fail
  refine (C2.out _).mono ?_
  rintro e w4 ⟨rfl, hb4⟩
  have HB4 := Lib.hid (HB3.out.trans (hb4.mono HB3.out.size))
  have c0 := (hb4.cell (p := ⟨w.heap.size, 0, none⟩) (World.block_lt_of_cell? _ _ d0)).trans d0
  have c1 := (hb4.cell (p := ⟨w.heap.size, 1, none⟩) (World.block_lt_of_cell? _ _ d1)).trans d1
  have c2 := (hb4.cell (p := ⟨w.heap.size, 2, none⟩) (World.block_lt_of_cell? _ _ d2)).trans d2
  have c3 := (hb4.cell (p := ⟨w.heap.size, 3, none⟩) (World.block_lt_of_cell? _ _ d3)).trans d3
  have c4 := (hb4.cell (p := ⟨w.heap.size, 4, none⟩) (World.block_lt_of_cell? _ _ d4)).trans d4
  clear hb4 d0 d1 d2 d3 d4
  go_wp2_with fail
  refine (C3.out _).mono ?_
  rintro e w5 ⟨rfl, hb5⟩
  have HB5 := Lib.hid (HB4.out.trans (hb5.mono HB4.out.size))
  have d0 := (hb5.cell (p := ⟨w.heap.size, 0, none⟩) (World.block_lt_of_cell? _ _ c0)).trans c0
  have d1 := (hb5.cell (p := ⟨w.heap.size, 1, none⟩) (World.block_lt_of_cell? _ _ c1)).trans c1
  have d2 := (hb5.cell (p := ⟨w.heap.size, 2, none⟩) (World.block_lt_of_cell? _ _ c2)).trans c2
  have d3 := (hb5.cell (p := ⟨w.heap.size, 3, none⟩) (World.block_lt_of_cell? _ _ c3)).trans c3
  have d4 := (hb5.cell (p := ⟨w.heap.size, 4, none⟩) (World.block_lt_of_cell? _ _ c4)).trans c4
  clear hb5 c0 c1 c2 c3 c4
  go_wp2_with fail
  go_ret2
  exact ⟨rfl, HB5.out⟩
theorem rput_any (f s g r : Int) (b : ByteArray) (w : World) (hb : b.size ≤ 140737488351232) : Calls Tryd.prog 9 #[.agg #[.int .i64 f, .int .i64 s, .int .i64 g, .int .i64 r, .string b]] w (Gives (.tuple #[.string (putS f s g r b), .int .i64 (chk f s g r b)]) w) := by
  by_cases h : chk f s g r b = 0
  · rw [(put_ok h).1, h]
    exact rput_y f s g r b w hb h
  · rw [put_not h]
    exact rput_e f s g r b w hb _ rfl h
set_option maxRecDepth 100000 in
set_option maxHeartbeats 8000000 in
theorem rparse_no (b : ByteArray) (w : World) (hm : b.size ≤ 140737488351232) (h : ¬ (10 ≤ b.size ∧ b.size ≤ 8192)) : Calls Tryd.prog 11 #[.string b] w (PsP b w) := by
  unfold PsP
  rw [(prs_no h).1, (prs_no h).2]
  have HB : Hid (Below w.heap.size w (w.alloc (.cells #[.int .i64 0, .int .i64 0, .int .i64 0, .int .i64 0, .string ⟨#[]⟩] 23))) := (Below.refl _ w).alloc (Nat.le_refl _) _
  have HX := Lib.hid (box_new w #[.int .i64 0, .int .i64 0, .int .i64 0, .int .i64 0, .string ⟨#[]⟩] 23)
  by_cases h1 : b.size < 10
  · have q1 : ((b.size : Int) < 10) := by omega
    clear h
    go_enter Tryd.func11, Tryd.ntmps11
    go_wp2_with fail
    exact bodyPost_ret (results_load_tmp Tryd.results11 _ _ w.heap.size _ rfl (load_snac HX.out)) rfl ⟨rfl, HB.out⟩
  · have q1 : ¬ ((b.size : Int) < 10) := by omega
    have q2 : ((8192 : Int) < (b.size : Int)) := by omega
    clear h
    go_enter Tryd.func11, Tryd.ntmps11
    go_wp2_with fail
    exact bodyPost_ret (results_load_tmp Tryd.results11 _ _ w.heap.size _ rfl (load_snac HX.out)) rfl ⟨rfl, HB.out⟩
theorem cut_val (s : ByteArray) (K : Nat) (hK : wid K = true) (i : Nat) (h : i + K ≤ s.size) : numV (s.extract i (i + K)) = n2 s i (i + K) ∧ numE (s.extract i (i + K)) = 0 := by
  have hz : (s.extract i (i + K)).size = K := by rw [cut_size s i (i + K) h]; omega
  unfold numV numE n2
  rw [hz, if_pos hK, if_pos hK]
  exact ⟨rfl, rfl⟩
set_option maxRecDepth 100000 in
set_option maxHeartbeats 8000000 in
theorem rparse_yes (b : ByteArray) (w : World) (h : 10 ≤ b.size ∧ b.size ≤ 8192) : Calls Tryd.prog 11 #[.string b] w (PsP b w) := by
  unfold PsP
  rw [(prs_yes h).1, (prs_yes h).2]
  dsimp only
  obtain ⟨h1, h2⟩ := h
  have q1 : ¬ ((b.size : Int) < 10) := by omega
  have q2 : ¬ ((8192 : Int) < (b.size : Int)) := by omega
  have D0 : Hid (∀ W, Calls Tryd.prog 22 #[.string (b.extract 0 2)] W (Pure (.tuple #[.int .i64 (n2 b 0 2), .int .i64 0]) W)) := fun W => by
    have h := rnum_any (b.extract 0 2) W
    rw [(cut_val b 2 rfl 0 (by omega)).1, (cut_val b 2 rfl 0 (by omega)).2] at h
    exact h
  have D1 : Hid (∀ W, Calls Tryd.prog 22 #[.string (b.extract 2 4)] W (Pure (.tuple #[.int .i64 (n2 b 2 4), .int .i64 0]) W)) := fun W => by
    have h := rnum_any (b.extract 2 4) W
    rw [(cut_val b 2 rfl 2 (by omega)).1, (cut_val b 2 rfl 2 (by omega)).2] at h
    exact h
  have D2 : Hid (∀ W, Calls Tryd.prog 22 #[.string (b.extract 4 6)] W (Pure (.tuple #[.int .i64 (n2 b 4 6), .int .i64 0]) W)) := fun W => by
    have h := rnum_any (b.extract 4 6) W
    rw [(cut_val b 2 rfl 4 (by omega)).1, (cut_val b 2 rfl 4 (by omega)).2] at h
    exact h
  have D3 : Hid (∀ W, Calls Tryd.prog 22 #[.string (b.extract 6 10)] W (Pure (.tuple #[.int .i64 (n2 b 6 10), .int .i64 0]) W)) := fun W => by
    have h := rnum_any (b.extract 6 10) W
    rw [(cut_val b 4 rfl 6 (by omega)).1, (cut_val b 4 rfl 6 (by omega)).2] at h
    exact h
  generalize n2 b 0 2 = N0 at D0 ⊢
  generalize n2 b 2 4 = N1 at D1 ⊢
  generalize n2 b 4 6 = N2 at D2 ⊢
  generalize n2 b 6 10 = N3 at D3 ⊢
  go_enter Tryd.func11, Tryd.ntmps11
  go_wp2_with fail
  refine (D0.out _).mono ?_
  rintro e wz ⟨rfl, hw⟩
  have hw := hw.symm
  subst hw
  go_wp2_with fail
  refine (D1.out _).mono ?_
  rintro e wz ⟨rfl, hw⟩
  have hw := hw.symm
  subst hw
  go_wp2_with fail
  refine (D2.out _).mono ?_
  rintro e wz ⟨rfl, hw⟩
  have hw := hw.symm
  subst hw
  go_wp2_with fail
  refine (D3.out _).mono ?_
  rintro e wz ⟨rfl, hw⟩
  have hw := hw.symm
  subst hw
  go_wp2_with fail
  exact bodyPost_ret (results_load_tmp Tryd.results11 _ _ w.heap.size _ rfl (load_snac (box_new w _ _))) rfl ⟨rfl, (Below.refl _ w).alloc (Nat.le_refl _) _⟩
theorem rparse_any (b : ByteArray) (w : World) (hm : b.size ≤ 140737488351232) : Calls Tryd.prog 11 #[.string b] w (PsP b w) := by
  by_cases h : 10 ≤ b.size ∧ b.size ≤ 8192
  · exact rparse_yes b w h
  · exact rparse_no b w hm h
end Go.Proofs.YthbpkdcjfcbngaaDoor
