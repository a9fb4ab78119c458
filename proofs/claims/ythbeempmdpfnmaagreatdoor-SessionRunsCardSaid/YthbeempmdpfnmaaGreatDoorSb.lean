/- Contracts: Stop, Tick of package session. Conditions: those of each theorem's head. -/
import Derived.Test.YthbeempmdpfnmaaGreatDoorS7
namespace Go.Proofs.YthbeempmdpfnmaaGreatDoor.T
open Go.RowKit Go.Lib

set_option maxRecDepth 100000 in
set_option maxHeartbeats 8000000 in
theorem stop_off (s : Ss) (code : Int) (w : World) (hu : undr s.p = false) : Calls Tryz.prog 23 #[.agg #[.int .i64 s.p, .string s.n, .string s.d, .int .i64 s.s, .int .i64 s.t, .int .i64 s.c, .int .i64 s.h, .int .i64 s.a, .int .i64 s.e], .int .i64 code] w (Gives (.tuple #[.agg #[.int .i64 s.p, .string s.n, .string s.d, .int .i64 s.s, .int .i64 s.t, .int .i64 s.c, .int .i64 s.h, .int .i64 s.a, .int .i64 s.e], .agg #[.slice none 0 0, .bool false, .slice none 0 0]]) w) := by
  have CU := Lib.hid (fun W => undr_any s W)
  rw [hu] at CU
  clear hu
  obtain ⟨HB, HX, HZ, HO⟩ := bxThree w #[.int .i64 s.p, .string s.n, .string s.d, .int .i64 s.s, .int .i64 s.t, .int .i64 s.c, .int .i64 s.h, .int .i64 s.a, .int .i64 s.e] 28 #[.int .i64 0, .string ⟨#[]⟩, .string ⟨#[]⟩, .int .i64 0, .int .i64 0, .int .i64 0, .int .i64 0, .int .i64 0, .int .i64 0] 28 #[.slice none 0 0, .bool false, .slice none 0 0] 31
  obtain ⟨m0, m1, m2, m3, m4, m5, m6, m7, m8⟩ := bx9 HX.out
  go_enter Tryz.func23, Tryz.ntmps23
  go_wp2_with fail
  refine (CU.out _).mono ?_
  rintro e w1 ⟨rfl, hb⟩
  clear m0 m1 m2 m3 m4 m5 m6 m7 m8
  have HX1 := kpB hb HX
  have HZ1 := kpB hb HZ
  have HO1 := kpB hb HO
  have HB1 := Lib.hid (HB.out.trans (hb.mono HB.out.size))
  clear hb HB HX HZ HO CU
  obtain ⟨m0, m1, m2, m3, m4, m5, m6, m7, m8⟩ := bx9 HX1.out
  obtain ⟨z0, z1, z2, z3, z4, z5, z6, z7, z8⟩ := bx9 HZ1.out
  obtain ⟨zf0, zf1, zf2, zf3, zf4, zf5, zf6, zf7, zf8⟩ := bx9f HZ1.out
  obtain ⟨y0, y1, y2⟩ := bx3 HO1.out
  obtain ⟨yf0, yf1, yf2⟩ := bx3f HO1.out
  have hP : w.heap.size + 2 < w1.heap.size := heap_lt HO1.out
  have hPa : w.heap.size + 1 < w1.heap.size := heap_lt HZ1.out
  have hPb : w.heap.size < w1.heap.size := heap_lt HX1.out
  go_wp2_with fail
  exact bodyPost_ret (results_two Tryz.results23 _ _ (w.heap.size + 1) (w.heap.size + 2) _ _ rfl rfl (load_s ((st3k (by omega) (.slice none 0 0) (.bool false) (.slice none 0 0)).trans (st9 HZ1.out (.int .i64 s.p) (.string s.n) (.string s.d) (.int .i64 s.s) (.int .i64 s.t) (.int .i64 s.c) (.int .i64 s.h) (.int .i64 s.a) (.int .i64 s.e)))) (load_o (st3 ((st9k (by omega) (.int .i64 s.p) (.string s.n) (.string s.d) (.int .i64 s.s) (.int .i64 s.t) (.int .i64 s.c) (.int .i64 s.h) (.int .i64 s.a) (.int .i64 s.e)).trans HO1.out) (.slice none 0 0) (.bool false) (.slice none 0 0)))) rfl ⟨rfl, st3b (st9b HB1.out (by omega) (.int .i64 s.p) (.string s.n) (.string s.d) (.int .i64 s.s) (.int .i64 s.t) (.int .i64 s.c) (.int .i64 s.h) (.int .i64 s.a) (.int .i64 s.e)) (by omega) (.slice none 0 0) (.bool false) (.slice none 0 0)⟩
set_option maxRecDepth 100000 in
set_option maxHeartbeats 8000000 in
theorem stop_on (s : Ss) (code : Int) (w : World) (hu : undr s.p = true) : Calls Tryz.prog 23 #[.agg #[.int .i64 s.p, .string s.n, .string s.d, .int .i64 s.s, .int .i64 s.t, .int .i64 s.c, .int .i64 s.h, .int .i64 s.a, .int .i64 s.e], .int .i64 code] w fun e w' => ∃ g, e = .returned (.tuple #[.agg #[.int .i64 6, .string s.n, .string s.d, .int .i64 s.s, .int .i64 s.t, .int .i64 s.c, .int .i64 s.h, .int .i64 0, .int .i64 code], .agg #[.slice (some ⟨g, 0, none⟩) 1 1, .bool false, .slice none 0 0]]) ∧ Below w.heap.size w w' ∧ w'.heap[g]? = some (.cells #[.int .i64 3, .string ⟨#[]⟩, .string ⟨#[]⟩, .string ⟨#[]⟩, .int .i64 0, .int .i64 0, .int .i64 0, .int .i64 0, .bool false, .slice none 0 0, .slice none 0 0] 42 (0, 0)) ∧ w.heap.size ≤ g := by
  have CO : Hid (∀ W, Calls Tryz.prog 35 #[.agg #[.int .i64 s.p, .string s.n, .string s.d, .int .i64 s.s, .int .i64 s.t, .int .i64 s.c, .int .i64 s.h, .int .i64 s.a, .int .i64 s.e], .int .i64 code] W (Gives (.agg #[.int .i64 6, .string s.n, .string s.d, .int .i64 s.s, .int .i64 s.t, .int .i64 s.c, .int .i64 s.h, .int .i64 s.a, .int .i64 code]) W)) := fun W => over_any s code W
  have CY : Hid (∀ (a : Option Addr) (k e : Nat) (W : World), Calls Tryz.prog 33 #[.agg #[.int .i64 6, .string s.n, .string s.d, .int .i64 s.s, .int .i64 s.t, .int .i64 s.c, .int .i64 s.h, .int .i64 s.a, .int .i64 code], .slice a k e] W (Gives (.tuple #[.agg #[.int .i64 6, .string s.n, .string s.d, .int .i64 s.s, .int .i64 s.t, .int .i64 s.c, .int .i64 s.h, .int .i64 0, .int .i64 code], .agg #[.slice a k e, .bool false, .slice none 0 0]]) W)) := fun a k e W => say_any { s with p := 6, e := code } a k e W
  have CU := Lib.hid (fun W => undr_any s W)
  rw [hu] at CU
  clear hu
  obtain ⟨HB, HX, HZ, HO⟩ := bxThree w #[.int .i64 s.p, .string s.n, .string s.d, .int .i64 s.s, .int .i64 s.t, .int .i64 s.c, .int .i64 s.h, .int .i64 s.a, .int .i64 s.e] 28 #[.int .i64 0, .string ⟨#[]⟩, .string ⟨#[]⟩, .int .i64 0, .int .i64 0, .int .i64 0, .int .i64 0, .int .i64 0, .int .i64 0] 28 #[.slice none 0 0, .bool false, .slice none 0 0] 31
  obtain ⟨m0, m1, m2, m3, m4, m5, m6, m7, m8⟩ := bx9 HX.out
  go_enter Tryz.func23, Tryz.ntmps23
  go_wp2_with fail
  refine (CU.out _).mono ?_
  rintro e w1 ⟨rfl, hb⟩
  clear m0 m1 m2 m3 m4 m5 m6 m7 m8
  have HX1 := kpB hb HX
  have HZ1 := kpB hb HZ
  have HO1 := kpB hb HO
  have HB1 := Lib.hid (HB.out.trans (hb.mono HB.out.size))
  clear hb HB HX HZ HO CU
  obtain ⟨m0, m1, m2, m3, m4, m5, m6, m7, m8⟩ := bx9 HX1.out
  go_wp2_with fail
  refine (CO.out _).mono ?_
  rintro e w2 ⟨rfl, hb⟩
  clear m0 m1 m2 m3 m4 m5 m6 m7 m8
  have HX2 := kpB hb HX1
  have HZ2 := kpB hb HZ1
  have HO2 := kpB hb HO1
  have HB2 := Lib.hid (HB1.out.trans (hb.mono HB1.out.size))
  clear hb HB1 HX1 HZ1 HO1 CO
  have HA := bxOne w2 #[.int .i64 3, .string ⟨#[]⟩, .string ⟨#[]⟩, .string ⟨#[]⟩, .int .i64 0, .int .i64 0, .int .i64 0, .int .i64 0, .bool false, .slice none 0 0, .slice none 0 0] 42
  go_wp2_with fail
  refine (CY.out _ _ _ _).mono ?_
  rintro e w3 ⟨rfl, hb⟩
  have hba := HA.2.out.trans (hb.mono HA.2.out.size)
  have HX3 := kpB hba HX2
  have HZ3 := kpB hba HZ2
  have HO3 := kpB hba HO2
  have HR3 := kpB hb HA.1
  have HB3 := Lib.hid (HB2.out.trans (hba.mono HB2.out.size))
  have h2 : w.heap.size + 2 < w2.heap.size := heap_lt HO2.out
  have hs2 : w2.heap.size ≤ w3.heap.size := hba.size
  clear hb hba HA HX2 HZ2 HO2 CY
  obtain ⟨z0, z1, z2, z3, z4, z5, z6, z7, z8⟩ := bx9 HZ3.out
  obtain ⟨zf0, zf1, zf2, zf3, zf4, zf5, zf6, zf7, zf8⟩ := bx9f HZ3.out
  obtain ⟨y0, y1, y2⟩ := bx3 HO3.out
  obtain ⟨yf0, yf1, yf2⟩ := bx3f HO3.out
  have hP : w.heap.size + 2 < w3.heap.size := heap_lt HO3.out
  have hPa : w.heap.size + 1 < w3.heap.size := heap_lt HZ3.out
  have hPb : w.heap.size < w3.heap.size := heap_lt HX3.out
  go_wp2_with fail
  exact bodyPost_ret (results_two Tryz.results23 _ _ (w.heap.size + 1) (w.heap.size + 2) _ _ rfl rfl (load_s ((st3k (by omega) (.slice (some ⟨w2.heap.size, 0, none⟩) 1 1) (.bool false) (.slice none 0 0)).trans (st9 HZ3.out (.int .i64 6) (.string s.n) (.string s.d) (.int .i64 s.s) (.int .i64 s.t) (.int .i64 s.c) (.int .i64 s.h) (.int .i64 0) (.int .i64 code)))) (load_o (st3 ((st9k (by omega) (.int .i64 6) (.string s.n) (.string s.d) (.int .i64 s.s) (.int .i64 s.t) (.int .i64 s.c) (.int .i64 s.h) (.int .i64 0) (.int .i64 code)).trans HO3.out) (.slice (some ⟨w2.heap.size, 0, none⟩) 1 1) (.bool false) (.slice none 0 0)))) rfl ⟨w2.heap.size, rfl, st3b (st9b HB3.out (by omega) (.int .i64 6) (.string s.n) (.string s.d) (.int .i64 s.s) (.int .i64 s.t) (.int .i64 s.c) (.int .i64 s.h) (.int .i64 0) (.int .i64 code)) (by omega) (.slice (some ⟨w2.heap.size, 0, none⟩) 1 1) (.bool false) (.slice none 0 0), (st3k (by omega) (.slice (some ⟨w2.heap.size, 0, none⟩) 1 1) (.bool false) (.slice none 0 0)).trans ((st9k (by omega) (.int .i64 6) (.string s.n) (.string s.d) (.int .i64 s.s) (.int .i64 s.t) (.int .i64 s.c) (.int .i64 s.h) (.int .i64 0) (.int .i64 code)).trans HR3.out), by omega⟩
set_option maxRecDepth 100000 in
set_option maxHeartbeats 8000000 in
theorem tick_off (s : Ss) (w : World) (hu : undr s.p = false) : Calls Tryz.prog 22 #[.agg #[.int .i64 s.p, .string s.n, .string s.d, .int .i64 s.s, .int .i64 s.t, .int .i64 s.c, .int .i64 s.h, .int .i64 s.a, .int .i64 s.e]] w (Gives (.tuple #[.agg #[.int .i64 s.p, .string s.n, .string s.d, .int .i64 s.s, .int .i64 s.t, .int .i64 s.c, .int .i64 s.h, .int .i64 s.a, .int .i64 s.e], .agg #[.slice none 0 0, .bool false, .slice none 0 0]]) w) := by
  have CU := Lib.hid (fun W => undr_any s W)
  rw [hu] at CU
  clear hu
  obtain ⟨HB, HX, HZ, HO⟩ := bxThree w #[.int .i64 s.p, .string s.n, .string s.d, .int .i64 s.s, .int .i64 s.t, .int .i64 s.c, .int .i64 s.h, .int .i64 s.a, .int .i64 s.e] 28 #[.int .i64 0, .string ⟨#[]⟩, .string ⟨#[]⟩, .int .i64 0, .int .i64 0, .int .i64 0, .int .i64 0, .int .i64 0, .int .i64 0] 28 #[.slice none 0 0, .bool false, .slice none 0 0] 31
  obtain ⟨m0, m1, m2, m3, m4, m5, m6, m7, m8⟩ := bx9 HX.out
  go_enter Tryz.func22, Tryz.ntmps22
  go_wp2_with fail
  refine (CU.out _).mono ?_
  rintro e w1 ⟨rfl, hb⟩
  clear m0 m1 m2 m3 m4 m5 m6 m7 m8
  have HX1 := kpB hb HX
  have HZ1 := kpB hb HZ
  have HO1 := kpB hb HO
  have HB1 := Lib.hid (HB.out.trans (hb.mono HB.out.size))
  clear hb HB HX HZ HO CU
  obtain ⟨m0, m1, m2, m3, m4, m5, m6, m7, m8⟩ := bx9 HX1.out
  obtain ⟨z0, z1, z2, z3, z4, z5, z6, z7, z8⟩ := bx9 HZ1.out
  obtain ⟨zf0, zf1, zf2, zf3, zf4, zf5, zf6, zf7, zf8⟩ := bx9f HZ1.out
  obtain ⟨y0, y1, y2⟩ := bx3 HO1.out
  obtain ⟨yf0, yf1, yf2⟩ := bx3f HO1.out
  have hP : w.heap.size + 2 < w1.heap.size := heap_lt HO1.out
  have hPa : w.heap.size + 1 < w1.heap.size := heap_lt HZ1.out
  have hPb : w.heap.size < w1.heap.size := heap_lt HX1.out
  go_wp2_with fail
  exact bodyPost_ret (results_two Tryz.results22 _ _ (w.heap.size + 1) (w.heap.size + 2) _ _ rfl rfl (load_s ((st3k (by omega) (.slice none 0 0) (.bool false) (.slice none 0 0)).trans (st9 HZ1.out (.int .i64 s.p) (.string s.n) (.string s.d) (.int .i64 s.s) (.int .i64 s.t) (.int .i64 s.c) (.int .i64 s.h) (.int .i64 s.a) (.int .i64 s.e)))) (load_o (st3 ((st9k (by omega) (.int .i64 s.p) (.string s.n) (.string s.d) (.int .i64 s.s) (.int .i64 s.t) (.int .i64 s.c) (.int .i64 s.h) (.int .i64 s.a) (.int .i64 s.e)).trans HO1.out) (.slice none 0 0) (.bool false) (.slice none 0 0)))) rfl ⟨rfl, st3b (st9b HB1.out (by omega) (.int .i64 s.p) (.string s.n) (.string s.d) (.int .i64 s.s) (.int .i64 s.t) (.int .i64 s.c) (.int .i64 s.h) (.int .i64 s.a) (.int .i64 s.e)) (by omega) (.slice none 0 0) (.bool false) (.slice none 0 0)⟩
set_option maxRecDepth 100000 in
set_option maxHeartbeats 8000000 in
theorem tick_n1 (s : Ss) (w : World) (hu : undr s.p = true) (hh : 0 ≤ s.h ∧ s.h ≤ 1000000000) (ha : 0 ≤ s.a ∧ s.a ≤ 1000000000) (h1 : ¬ 90 ≤ s.h + 1) (h2 : ¬ 30 ≤ s.a + 1) : Calls Tryz.prog 22 #[.agg #[.int .i64 s.p, .string s.n, .string s.d, .int .i64 s.s, .int .i64 s.t, .int .i64 s.c, .int .i64 s.h, .int .i64 s.a, .int .i64 s.e]] w (Gives (.tuple #[.agg #[.int .i64 s.p, .string s.n, .string s.d, .int .i64 s.s, .int .i64 s.t, .int .i64 s.c, .int .i64 (s.h + 1), .int .i64 (s.a + 1), .int .i64 s.e], .agg #[.slice none 0 0, .bool false, .slice none 0 0]]) w) := by
  have CLh : Hid (∀ W, Calls Tryz.prog 48 #[.int .i64 s.h] W (Pure (.int .i64 (s.h + 1)) W)) := fun W => later_any s.h W hh.1 hh.2
  have CLa : Hid (∀ W, Calls Tryz.prog 48 #[.int .i64 s.a] W (Pure (.int .i64 (s.a + 1)) W)) := fun W => later_any s.a W ha.1 ha.2
  have CU := Lib.hid (fun W => undr_any s W)
  rw [hu] at CU
  clear hu
  obtain ⟨HB, HX, HZ, HO⟩ := bxThree w #[.int .i64 s.p, .string s.n, .string s.d, .int .i64 s.s, .int .i64 s.t, .int .i64 s.c, .int .i64 s.h, .int .i64 s.a, .int .i64 s.e] 28 #[.int .i64 0, .string ⟨#[]⟩, .string ⟨#[]⟩, .int .i64 0, .int .i64 0, .int .i64 0, .int .i64 0, .int .i64 0, .int .i64 0] 28 #[.slice none 0 0, .bool false, .slice none 0 0] 31
  obtain ⟨m0, m1, m2, m3, m4, m5, m6, m7, m8⟩ := bx9 HX.out
  go_enter Tryz.func22, Tryz.ntmps22
  go_wp2_with fail
  refine (CU.out _).mono ?_
  rintro e w1 ⟨rfl, hb⟩
  clear m0 m1 m2 m3 m4 m5 m6 m7 m8
  have HX1 := kpB hb HX
  have HZ1 := kpB hb HZ
  have HO1 := kpB hb HO
  have HB1 := Lib.hid (HB.out.trans (hb.mono HB.out.size))
  clear hb HB HX HZ HO CU
  obtain ⟨m0, m1, m2, m3, m4, m5, m6, m7, m8⟩ := bx9 HX1.out
  go_upto_region 3 with fail
  clear m0 m1 m2 m3 m4 m5 m6 m7 m8
  obtain ⟨g0, g1, g2, g3, g4, g5, g6, g7, g8⟩ := bx9 HX1.out
  have x0 : ∀ y : Ext w1, y.to.cell? ⟨w.heap.size, 0, none⟩ = _ := fun y => ext_cell y g0
  have x1 : ∀ y : Ext w1, y.to.cell? ⟨w.heap.size, 1, none⟩ = _ := fun y => ext_cell y g1
  have x2 : ∀ y : Ext w1, y.to.cell? ⟨w.heap.size, 2, none⟩ = _ := fun y => ext_cell y g2
  have x3 : ∀ y : Ext w1, y.to.cell? ⟨w.heap.size, 3, none⟩ = _ := fun y => ext_cell y g3
  have x4 : ∀ y : Ext w1, y.to.cell? ⟨w.heap.size, 4, none⟩ = _ := fun y => ext_cell y g4
  have x5 : ∀ y : Ext w1, y.to.cell? ⟨w.heap.size, 5, none⟩ = _ := fun y => ext_cell y g5
  have x6 : ∀ y : Ext w1, y.to.cell? ⟨w.heap.size, 6, none⟩ = _ := fun y => ext_cell y g6
  have x7 : ∀ y : Ext w1, y.to.cell? ⟨w.heap.size, 7, none⟩ = _ := fun y => ext_cell y g7
  have x8 : ∀ y : Ext w1, y.to.cell? ⟨w.heap.size, 8, none⟩ = _ := fun y => ext_cell y g8
  have Xh : Hid (Xc w1 48 #[.int .i64 s.h] (.int .i64 (s.h + 1))) := xc_pure fun W => CLh.out W
  have Xa : Hid (Xc w1 48 #[.int .i64 s.a] (.int .i64 (s.a + 1))) := xc_pure fun W => CLa.out W
  have hsome := extSome w1
  clear CLh CLa g0 g1 g2 g3 g4 g5 g6 g7 g8
  refine ext_tail 7 (by kernel_rfl) (by kernel_rfl) ?_
  simp only [List.take_succ_cons, List.take_zero, List.drop_succ_cons, List.drop_zero]
  repeat (go_big_quiet_step ((first | (go_at_call 48; with_reducible exact ext_call _ (Xh.out _)) | (go_at_call 48; with_reducible exact ext_call _ (Xa.out _)))))
  refine wpQuiet_nil ?_
  rintro _ ⟨y, hy⟩
  subst hy
  have HX2 := kpB y.below HX1
  have HZ2 := kpB y.below HZ1
  have HO2 := kpB y.below HO1
  have HB2 := Lib.hid (HB1.out.trans (y.below.mono HB1.out.size))
  clear Xh Xa hsome HX1 HZ1 HO1 HB1 x0 x1 x2 x3 x4 x5 x6 x7 x8
  generalize y.to = w2 at HX2 HZ2 HO2 HB2 ⊢
  clear y
  obtain ⟨m0, m1, m2, m3, m4, m5, m6, m7, m8⟩ := bx9 HX2.out
  obtain ⟨f0, f1, f2, f3, f4, f5, f6, f7, f8⟩ := bx9f HX2.out
  have hQ : w.heap.size < w2.heap.size := heap_lt HX2.out
  go_upto_region 4 with fail
  have HX3 : Hid (((w2.setCell ⟨w.heap.size, 6, none⟩ (.int .i64 (s.h + 1))).setCell ⟨w.heap.size, 7, none⟩ (.int .i64 (s.a + 1))).heap[w.heap.size]? = some (.cells #[.int .i64 s.p, .string s.n, .string s.d, .int .i64 s.s, .int .i64 s.t, .int .i64 s.c, .int .i64 (s.h + 1), .int .i64 (s.a + 1), .int .i64 s.e] 28 (0, 0))) := by
    show _ = _
    simp [World.setCell, Array.getElem?_modify, HX2.out]
  have HZ3 := Lib.hid (kp1 (A := w.heap.size) (i := 7) (u := .int .i64 (s.a + 1)) (b := w.heap.size + 1) (by omega) (kp1 (A := w.heap.size) (i := 6) (u := .int .i64 (s.h + 1)) (by omega) HZ2.out))
  have HO3 := Lib.hid (kp1 (A := w.heap.size) (i := 7) (u := .int .i64 (s.a + 1)) (b := w.heap.size + 2) (by omega) (kp1 (A := w.heap.size) (i := 6) (u := .int .i64 (s.h + 1)) (by omega) HO2.out))
  have HB3 := Lib.hid ((HB2.out.setCell (p := ⟨w.heap.size, 6, none⟩) (Nat.le_refl _) (.int .i64 (s.h + 1))).setCell (p := ⟨w.heap.size, 7, none⟩) (Nat.le_refl _) (.int .i64 (s.a + 1)))
  clear m0 m1 m2 m3 m4 m5 m6 m7 m8 f0 f1 f2 f3 f4 f5 f6 f7 f8
  clear HX2 HZ2 HO2 HB2 hQ
  generalize ((w2.setCell ⟨w.heap.size, 6, none⟩ (.int .i64 (s.h + 1))).setCell ⟨w.heap.size, 7, none⟩ (.int .i64 (s.a + 1))) = w3 at HX3 HZ3 HO3 HB3 ⊢
  obtain ⟨m0, m1, m2, m3, m4, m5, m6, m7, m8⟩ := bx9 HX3.out
  obtain ⟨z0, z1, z2, z3, z4, z5, z6, z7, z8⟩ := bx9 HZ3.out
  obtain ⟨zf0, zf1, zf2, zf3, zf4, zf5, zf6, zf7, zf8⟩ := bx9f HZ3.out
  obtain ⟨y0, y1, y2⟩ := bx3 HO3.out
  obtain ⟨yf0, yf1, yf2⟩ := bx3f HO3.out
  have hP : w.heap.size + 2 < w3.heap.size := heap_lt HO3.out
  have hPa : w.heap.size + 1 < w3.heap.size := heap_lt HZ3.out
  have hPb : w.heap.size < w3.heap.size := heap_lt HX3.out
  go_wp2_with fail
  exact bodyPost_ret (results_two Tryz.results22 _ _ (w.heap.size + 1) (w.heap.size + 2) _ _ rfl rfl (load_s ((st3k (by omega) (.slice none 0 0) (.bool false) (.slice none 0 0)).trans (st9 HZ3.out (.int .i64 s.p) (.string s.n) (.string s.d) (.int .i64 s.s) (.int .i64 s.t) (.int .i64 s.c) (.int .i64 (s.h + 1)) (.int .i64 (s.a + 1)) (.int .i64 s.e)))) (load_o (st3 ((st9k (by omega) (.int .i64 s.p) (.string s.n) (.string s.d) (.int .i64 s.s) (.int .i64 s.t) (.int .i64 s.c) (.int .i64 (s.h + 1)) (.int .i64 (s.a + 1)) (.int .i64 s.e)).trans HO3.out) (.slice none 0 0) (.bool false) (.slice none 0 0)))) rfl ⟨rfl, st3b (st9b HB3.out (by omega) (.int .i64 s.p) (.string s.n) (.string s.d) (.int .i64 s.s) (.int .i64 s.t) (.int .i64 s.c) (.int .i64 (s.h + 1)) (.int .i64 (s.a + 1)) (.int .i64 s.e)) (by omega) (.slice none 0 0) (.bool false) (.slice none 0 0)⟩
set_option maxRecDepth 100000 in
set_option maxHeartbeats 8000000 in
theorem tick_n2 (s : Ss) (w : World) (hu : undr s.p = true) (hh : 0 ≤ s.h ∧ s.h ≤ 1000000000) (ha : 0 ≤ s.a ∧ s.a ≤ 1000000000) (h1 : ¬ 90 ≤ s.h + 1) (h2 : 30 ≤ s.a + 1) (h3 : (s.p == 5) = false) : Calls Tryz.prog 22 #[.agg #[.int .i64 s.p, .string s.n, .string s.d, .int .i64 s.s, .int .i64 s.t, .int .i64 s.c, .int .i64 s.h, .int .i64 s.a, .int .i64 s.e]] w (Gives (.tuple #[.agg #[.int .i64 s.p, .string s.n, .string s.d, .int .i64 s.s, .int .i64 s.t, .int .i64 s.c, .int .i64 (s.h + 1), .int .i64 (s.a + 1), .int .i64 s.e], .agg #[.slice none 0 0, .bool false, .slice none 0 0]]) w) := by
  have CLh : Hid (∀ W, Calls Tryz.prog 48 #[.int .i64 s.h] W (Pure (.int .i64 (s.h + 1)) W)) := fun W => later_any s.h W hh.1 hh.2
  have CLa : Hid (∀ W, Calls Tryz.prog 48 #[.int .i64 s.a] W (Pure (.int .i64 (s.a + 1)) W)) := fun W => later_any s.a W ha.1 ha.2
  have CU := Lib.hid (fun W => undr_any s W)
  rw [hu] at CU
  clear hu
  obtain ⟨HB, HX, HZ, HO⟩ := bxThree w #[.int .i64 s.p, .string s.n, .string s.d, .int .i64 s.s, .int .i64 s.t, .int .i64 s.c, .int .i64 s.h, .int .i64 s.a, .int .i64 s.e] 28 #[.int .i64 0, .string ⟨#[]⟩, .string ⟨#[]⟩, .int .i64 0, .int .i64 0, .int .i64 0, .int .i64 0, .int .i64 0, .int .i64 0] 28 #[.slice none 0 0, .bool false, .slice none 0 0] 31
  obtain ⟨m0, m1, m2, m3, m4, m5, m6, m7, m8⟩ := bx9 HX.out
  go_enter Tryz.func22, Tryz.ntmps22
  go_wp2_with fail
  refine (CU.out _).mono ?_
  rintro e w1 ⟨rfl, hb⟩
  clear m0 m1 m2 m3 m4 m5 m6 m7 m8
  have HX1 := kpB hb HX
  have HZ1 := kpB hb HZ
  have HO1 := kpB hb HO
  have HB1 := Lib.hid (HB.out.trans (hb.mono HB.out.size))
  clear hb HB HX HZ HO CU
  obtain ⟨m0, m1, m2, m3, m4, m5, m6, m7, m8⟩ := bx9 HX1.out
  go_upto_region 3 with fail
  clear m0 m1 m2 m3 m4 m5 m6 m7 m8
  obtain ⟨g0, g1, g2, g3, g4, g5, g6, g7, g8⟩ := bx9 HX1.out
  have x0 : ∀ y : Ext w1, y.to.cell? ⟨w.heap.size, 0, none⟩ = _ := fun y => ext_cell y g0
  have x1 : ∀ y : Ext w1, y.to.cell? ⟨w.heap.size, 1, none⟩ = _ := fun y => ext_cell y g1
  have x2 : ∀ y : Ext w1, y.to.cell? ⟨w.heap.size, 2, none⟩ = _ := fun y => ext_cell y g2
  have x3 : ∀ y : Ext w1, y.to.cell? ⟨w.heap.size, 3, none⟩ = _ := fun y => ext_cell y g3
  have x4 : ∀ y : Ext w1, y.to.cell? ⟨w.heap.size, 4, none⟩ = _ := fun y => ext_cell y g4
  have x5 : ∀ y : Ext w1, y.to.cell? ⟨w.heap.size, 5, none⟩ = _ := fun y => ext_cell y g5
  have x6 : ∀ y : Ext w1, y.to.cell? ⟨w.heap.size, 6, none⟩ = _ := fun y => ext_cell y g6
  have x7 : ∀ y : Ext w1, y.to.cell? ⟨w.heap.size, 7, none⟩ = _ := fun y => ext_cell y g7
  have x8 : ∀ y : Ext w1, y.to.cell? ⟨w.heap.size, 8, none⟩ = _ := fun y => ext_cell y g8
  have Xh : Hid (Xc w1 48 #[.int .i64 s.h] (.int .i64 (s.h + 1))) := xc_pure fun W => CLh.out W
  have Xa : Hid (Xc w1 48 #[.int .i64 s.a] (.int .i64 (s.a + 1))) := xc_pure fun W => CLa.out W
  have hsome := extSome w1
  clear CLh CLa g0 g1 g2 g3 g4 g5 g6 g7 g8
  refine ext_tail 7 (by kernel_rfl) (by kernel_rfl) ?_
  simp only [List.take_succ_cons, List.take_zero, List.drop_succ_cons, List.drop_zero]
  repeat (go_big_quiet_step ((first | (go_at_call 48; with_reducible exact ext_call _ (Xh.out _)) | (go_at_call 48; with_reducible exact ext_call _ (Xa.out _)))))
  refine wpQuiet_nil ?_
  rintro _ ⟨y, hy⟩
  subst hy
  have HX2 := kpB y.below HX1
  have HZ2 := kpB y.below HZ1
  have HO2 := kpB y.below HO1
  have HB2 := Lib.hid (HB1.out.trans (y.below.mono HB1.out.size))
  clear Xh Xa hsome HX1 HZ1 HO1 HB1 x0 x1 x2 x3 x4 x5 x6 x7 x8
  generalize y.to = w2 at HX2 HZ2 HO2 HB2 ⊢
  clear y
  obtain ⟨m0, m1, m2, m3, m4, m5, m6, m7, m8⟩ := bx9 HX2.out
  obtain ⟨f0, f1, f2, f3, f4, f5, f6, f7, f8⟩ := bx9f HX2.out
  have hQ : w.heap.size < w2.heap.size := heap_lt HX2.out
  go_upto_region 4 with fail
  have HX3 : Hid (((w2.setCell ⟨w.heap.size, 6, none⟩ (.int .i64 (s.h + 1))).setCell ⟨w.heap.size, 7, none⟩ (.int .i64 (s.a + 1))).heap[w.heap.size]? = some (.cells #[.int .i64 s.p, .string s.n, .string s.d, .int .i64 s.s, .int .i64 s.t, .int .i64 s.c, .int .i64 (s.h + 1), .int .i64 (s.a + 1), .int .i64 s.e] 28 (0, 0))) := by
    show _ = _
    simp [World.setCell, Array.getElem?_modify, HX2.out]
  have HZ3 := Lib.hid (kp1 (A := w.heap.size) (i := 7) (u := .int .i64 (s.a + 1)) (b := w.heap.size + 1) (by omega) (kp1 (A := w.heap.size) (i := 6) (u := .int .i64 (s.h + 1)) (by omega) HZ2.out))
  have HO3 := Lib.hid (kp1 (A := w.heap.size) (i := 7) (u := .int .i64 (s.a + 1)) (b := w.heap.size + 2) (by omega) (kp1 (A := w.heap.size) (i := 6) (u := .int .i64 (s.h + 1)) (by omega) HO2.out))
  have HB3 := Lib.hid ((HB2.out.setCell (p := ⟨w.heap.size, 6, none⟩) (Nat.le_refl _) (.int .i64 (s.h + 1))).setCell (p := ⟨w.heap.size, 7, none⟩) (Nat.le_refl _) (.int .i64 (s.a + 1)))
  clear m0 m1 m2 m3 m4 m5 m6 m7 m8 f0 f1 f2 f3 f4 f5 f6 f7 f8
  clear HX2 HZ2 HO2 HB2 hQ
  generalize ((w2.setCell ⟨w.heap.size, 6, none⟩ (.int .i64 (s.h + 1))).setCell ⟨w.heap.size, 7, none⟩ (.int .i64 (s.a + 1))) = w3 at HX3 HZ3 HO3 HB3 ⊢
  obtain ⟨m0, m1, m2, m3, m4, m5, m6, m7, m8⟩ := bx9 HX3.out
  obtain ⟨z0, z1, z2, z3, z4, z5, z6, z7, z8⟩ := bx9 HZ3.out
  obtain ⟨zf0, zf1, zf2, zf3, zf4, zf5, zf6, zf7, zf8⟩ := bx9f HZ3.out
  obtain ⟨y0, y1, y2⟩ := bx3 HO3.out
  obtain ⟨yf0, yf1, yf2⟩ := bx3f HO3.out
  have hP : w.heap.size + 2 < w3.heap.size := heap_lt HO3.out
  have hPa : w.heap.size + 1 < w3.heap.size := heap_lt HZ3.out
  have hPb : w.heap.size < w3.heap.size := heap_lt HX3.out
  go_wp2_with fail
  exact bodyPost_ret (results_two Tryz.results22 _ _ (w.heap.size + 1) (w.heap.size + 2) _ _ rfl rfl (load_s ((st3k (by omega) (.slice none 0 0) (.bool false) (.slice none 0 0)).trans (st9 HZ3.out (.int .i64 s.p) (.string s.n) (.string s.d) (.int .i64 s.s) (.int .i64 s.t) (.int .i64 s.c) (.int .i64 (s.h + 1)) (.int .i64 (s.a + 1)) (.int .i64 s.e)))) (load_o (st3 ((st9k (by omega) (.int .i64 s.p) (.string s.n) (.string s.d) (.int .i64 s.s) (.int .i64 s.t) (.int .i64 s.c) (.int .i64 (s.h + 1)) (.int .i64 (s.a + 1)) (.int .i64 s.e)).trans HO3.out) (.slice none 0 0) (.bool false) (.slice none 0 0)))) rfl ⟨rfl, st3b (st9b HB3.out (by omega) (.int .i64 s.p) (.string s.n) (.string s.d) (.int .i64 s.s) (.int .i64 s.t) (.int .i64 s.c) (.int .i64 (s.h + 1)) (.int .i64 (s.a + 1)) (.int .i64 s.e)) (by omega) (.slice none 0 0) (.bool false) (.slice none 0 0)⟩
set_option maxRecDepth 100000 in
set_option maxHeartbeats 8000000 in
theorem tick_b (s : Ss) (w : World) (hu : undr s.p = true) (hh : 0 ≤ s.h ∧ s.h ≤ 1000000000) (ha : 0 ≤ s.a ∧ s.a ≤ 1000000000) (h1 : ¬ 90 ≤ s.h + 1) (h2 : 30 ≤ s.a + 1) (h3 : (s.p == 5) = true) : Calls Tryz.prog 22 #[.agg #[.int .i64 s.p, .string s.n, .string s.d, .int .i64 s.s, .int .i64 s.t, .int .i64 s.c, .int .i64 s.h, .int .i64 s.a, .int .i64 s.e]] w fun e w' => ∃ g, e = .returned (.tuple #[.agg #[.int .i64 s.p, .string s.n, .string s.d, .int .i64 s.s, .int .i64 s.t, .int .i64 s.c, .int .i64 (s.h + 1), .int .i64 0, .int .i64 s.e], .agg #[.slice (some ⟨g, 0, none⟩) 1 1, .bool false, .slice none 0 0]]) ∧ Below w.heap.size w w' ∧ w'.heap[g]? = some (.cells #[.int .i64 4, .string ⟨#[]⟩, .string ⟨#[]⟩, .string ⟨#[]⟩, .int .i64 0, .int .i64 0, .int .i64 0, .int .i64 0, .bool false, .slice none 0 0, .slice none 0 0] 42 (0, 0)) ∧ w.heap.size ≤ g := by
  have CY : Hid (∀ (a : Option Addr) (k e : Nat) (W : World), Calls Tryz.prog 33 #[.agg #[.int .i64 s.p, .string s.n, .string s.d, .int .i64 s.s, .int .i64 s.t, .int .i64 s.c, .int .i64 (s.h + 1), .int .i64 (s.a + 1), .int .i64 s.e], .slice a k e] W (Gives (.tuple #[.agg #[.int .i64 s.p, .string s.n, .string s.d, .int .i64 s.s, .int .i64 s.t, .int .i64 s.c, .int .i64 (s.h + 1), .int .i64 0, .int .i64 s.e], .agg #[.slice a k e, .bool false, .slice none 0 0]]) W)) := fun a k e W => say_any { s with h := s.h + 1, a := s.a + 1 } a k e W
  have CLh : Hid (∀ W, Calls Tryz.prog 48 #[.int .i64 s.h] W (Pure (.int .i64 (s.h + 1)) W)) := fun W => later_any s.h W hh.1 hh.2
  have CLa : Hid (∀ W, Calls Tryz.prog 48 #[.int .i64 s.a] W (Pure (.int .i64 (s.a + 1)) W)) := fun W => later_any s.a W ha.1 ha.2
  have CU := Lib.hid (fun W => undr_any s W)
  rw [hu] at CU
  clear hu
  obtain ⟨HB, HX, HZ, HO⟩ := bxThree w #[.int .i64 s.p, .string s.n, .string s.d, .int .i64 s.s, .int .i64 s.t, .int .i64 s.c, .int .i64 s.h, .int .i64 s.a, .int .i64 s.e] 28 #[.int .i64 0, .string ⟨#[]⟩, .string ⟨#[]⟩, .int .i64 0, .int .i64 0, .int .i64 0, .int .i64 0, .int .i64 0, .int .i64 0] 28 #[.slice none 0 0, .bool false, .slice none 0 0] 31
  obtain ⟨m0, m1, m2, m3, m4, m5, m6, m7, m8⟩ := bx9 HX.out
  go_enter Tryz.func22, Tryz.ntmps22
  go_wp2_with fail
  refine (CU.out _).mono ?_
  rintro e w1 ⟨rfl, hb⟩
  clear m0 m1 m2 m3 m4 m5 m6 m7 m8
  have HX1 := kpB hb HX
  have HZ1 := kpB hb HZ
  have HO1 := kpB hb HO
  have HB1 := Lib.hid (HB.out.trans (hb.mono HB.out.size))
  clear hb HB HX HZ HO CU
  obtain ⟨m0, m1, m2, m3, m4, m5, m6, m7, m8⟩ := bx9 HX1.out
  go_upto_region 3 with fail
  clear m0 m1 m2 m3 m4 m5 m6 m7 m8
  obtain ⟨g0, g1, g2, g3, g4, g5, g6, g7, g8⟩ := bx9 HX1.out
  have x0 : ∀ y : Ext w1, y.to.cell? ⟨w.heap.size, 0, none⟩ = _ := fun y => ext_cell y g0
  have x1 : ∀ y : Ext w1, y.to.cell? ⟨w.heap.size, 1, none⟩ = _ := fun y => ext_cell y g1
  have x2 : ∀ y : Ext w1, y.to.cell? ⟨w.heap.size, 2, none⟩ = _ := fun y => ext_cell y g2
  have x3 : ∀ y : Ext w1, y.to.cell? ⟨w.heap.size, 3, none⟩ = _ := fun y => ext_cell y g3
  have x4 : ∀ y : Ext w1, y.to.cell? ⟨w.heap.size, 4, none⟩ = _ := fun y => ext_cell y g4
  have x5 : ∀ y : Ext w1, y.to.cell? ⟨w.heap.size, 5, none⟩ = _ := fun y => ext_cell y g5
  have x6 : ∀ y : Ext w1, y.to.cell? ⟨w.heap.size, 6, none⟩ = _ := fun y => ext_cell y g6
  have x7 : ∀ y : Ext w1, y.to.cell? ⟨w.heap.size, 7, none⟩ = _ := fun y => ext_cell y g7
  have x8 : ∀ y : Ext w1, y.to.cell? ⟨w.heap.size, 8, none⟩ = _ := fun y => ext_cell y g8
  have Xh : Hid (Xc w1 48 #[.int .i64 s.h] (.int .i64 (s.h + 1))) := xc_pure fun W => CLh.out W
  have Xa : Hid (Xc w1 48 #[.int .i64 s.a] (.int .i64 (s.a + 1))) := xc_pure fun W => CLa.out W
  have hsome := extSome w1
  clear CLh CLa g0 g1 g2 g3 g4 g5 g6 g7 g8
  refine ext_tail 7 (by kernel_rfl) (by kernel_rfl) ?_
  simp only [List.take_succ_cons, List.take_zero, List.drop_succ_cons, List.drop_zero]
  repeat (go_big_quiet_step ((first | (go_at_call 48; with_reducible exact ext_call _ (Xh.out _)) | (go_at_call 48; with_reducible exact ext_call _ (Xa.out _)))))
  refine wpQuiet_nil ?_
  rintro _ ⟨y, hy⟩
  subst hy
  have HX2 := kpB y.below HX1
  have HZ2 := kpB y.below HZ1
  have HO2 := kpB y.below HO1
  have HB2 := Lib.hid (HB1.out.trans (y.below.mono HB1.out.size))
  clear Xh Xa hsome HX1 HZ1 HO1 HB1 x0 x1 x2 x3 x4 x5 x6 x7 x8
  generalize y.to = w2 at HX2 HZ2 HO2 HB2 ⊢
  clear y
  obtain ⟨m0, m1, m2, m3, m4, m5, m6, m7, m8⟩ := bx9 HX2.out
  obtain ⟨f0, f1, f2, f3, f4, f5, f6, f7, f8⟩ := bx9f HX2.out
  have hQ : w.heap.size < w2.heap.size := heap_lt HX2.out
  go_upto_region 4 with fail
  have HX3 : Hid (((w2.setCell ⟨w.heap.size, 6, none⟩ (.int .i64 (s.h + 1))).setCell ⟨w.heap.size, 7, none⟩ (.int .i64 (s.a + 1))).heap[w.heap.size]? = some (.cells #[.int .i64 s.p, .string s.n, .string s.d, .int .i64 s.s, .int .i64 s.t, .int .i64 s.c, .int .i64 (s.h + 1), .int .i64 (s.a + 1), .int .i64 s.e] 28 (0, 0))) := by
    show _ = _
    simp [World.setCell, Array.getElem?_modify, HX2.out]
  have HZ3 := Lib.hid (kp1 (A := w.heap.size) (i := 7) (u := .int .i64 (s.a + 1)) (b := w.heap.size + 1) (by omega) (kp1 (A := w.heap.size) (i := 6) (u := .int .i64 (s.h + 1)) (by omega) HZ2.out))
  have HO3 := Lib.hid (kp1 (A := w.heap.size) (i := 7) (u := .int .i64 (s.a + 1)) (b := w.heap.size + 2) (by omega) (kp1 (A := w.heap.size) (i := 6) (u := .int .i64 (s.h + 1)) (by omega) HO2.out))
  have HB3 := Lib.hid ((HB2.out.setCell (p := ⟨w.heap.size, 6, none⟩) (Nat.le_refl _) (.int .i64 (s.h + 1))).setCell (p := ⟨w.heap.size, 7, none⟩) (Nat.le_refl _) (.int .i64 (s.a + 1)))
  clear m0 m1 m2 m3 m4 m5 m6 m7 m8 f0 f1 f2 f3 f4 f5 f6 f7 f8
  clear HX2 HZ2 HO2 HB2 hQ
  generalize ((w2.setCell ⟨w.heap.size, 6, none⟩ (.int .i64 (s.h + 1))).setCell ⟨w.heap.size, 7, none⟩ (.int .i64 (s.a + 1))) = w3 at HX3 HZ3 HO3 HB3 ⊢
  obtain ⟨m0, m1, m2, m3, m4, m5, m6, m7, m8⟩ := bx9 HX3.out
  have HA := bxOne w3 #[.int .i64 4, .string ⟨#[]⟩, .string ⟨#[]⟩, .string ⟨#[]⟩, .int .i64 0, .int .i64 0, .int .i64 0, .int .i64 0, .bool false, .slice none 0 0, .slice none 0 0] 42
  go_wp2_with fail
  refine (CY.out _ _ _ _).mono ?_
  rintro e w4 ⟨rfl, hb⟩
  clear m0 m1 m2 m3 m4 m5 m6 m7 m8
  have hba := HA.2.out.trans (hb.mono HA.2.out.size)
  have HX4 := kpB hba HX3
  have HZ4 := kpB hba HZ3
  have HO4 := kpB hba HO3
  have HR4 := kpB hb HA.1
  have HB4 := Lib.hid (HB3.out.trans (hba.mono HB3.out.size))
  have h3s : w.heap.size + 2 < w3.heap.size := heap_lt HO3.out
  have hs3 : w3.heap.size ≤ w4.heap.size := hba.size
  clear hb hba HA HX3 HZ3 HO3 CY
  obtain ⟨z0, z1, z2, z3, z4, z5, z6, z7, z8⟩ := bx9 HZ4.out
  obtain ⟨zf0, zf1, zf2, zf3, zf4, zf5, zf6, zf7, zf8⟩ := bx9f HZ4.out
  obtain ⟨y0, y1, y2⟩ := bx3 HO4.out
  obtain ⟨yf0, yf1, yf2⟩ := bx3f HO4.out
  have hP : w.heap.size + 2 < w4.heap.size := heap_lt HO4.out
  have hPa : w.heap.size + 1 < w4.heap.size := heap_lt HZ4.out
  have hPb : w.heap.size < w4.heap.size := heap_lt HX4.out
  go_wp2_with fail
  exact bodyPost_ret (results_two Tryz.results22 _ _ (w.heap.size + 1) (w.heap.size + 2) _ _ rfl rfl (load_s ((st3k (by omega) (.slice (some ⟨w3.heap.size, 0, none⟩) 1 1) (.bool false) (.slice none 0 0)).trans (st9 HZ4.out (.int .i64 s.p) (.string s.n) (.string s.d) (.int .i64 s.s) (.int .i64 s.t) (.int .i64 s.c) (.int .i64 (s.h + 1)) (.int .i64 0) (.int .i64 s.e)))) (load_o (st3 ((st9k (by omega) (.int .i64 s.p) (.string s.n) (.string s.d) (.int .i64 s.s) (.int .i64 s.t) (.int .i64 s.c) (.int .i64 (s.h + 1)) (.int .i64 0) (.int .i64 s.e)).trans HO4.out) (.slice (some ⟨w3.heap.size, 0, none⟩) 1 1) (.bool false) (.slice none 0 0)))) rfl ⟨w3.heap.size, rfl, st3b (st9b HB4.out (by omega) (.int .i64 s.p) (.string s.n) (.string s.d) (.int .i64 s.s) (.int .i64 s.t) (.int .i64 s.c) (.int .i64 (s.h + 1)) (.int .i64 0) (.int .i64 s.e)) (by omega) (.slice (some ⟨w3.heap.size, 0, none⟩) 1 1) (.bool false) (.slice none 0 0), (st3k (by omega) (.slice (some ⟨w3.heap.size, 0, none⟩) 1 1) (.bool false) (.slice none 0 0)).trans ((st9k (by omega) (.int .i64 s.p) (.string s.n) (.string s.d) (.int .i64 s.s) (.int .i64 s.t) (.int .i64 s.c) (.int .i64 (s.h + 1)) (.int .i64 0) (.int .i64 s.e)).trans HR4.out), by omega⟩
end Go.Proofs.YthbeempmdpfnmaaGreatDoor.T
