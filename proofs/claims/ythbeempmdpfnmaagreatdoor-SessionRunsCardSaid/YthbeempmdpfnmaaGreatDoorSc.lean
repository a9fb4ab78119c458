/- Contract: Tick of package session at a silence. Conditions: those of the theorem's head. -/
import Derived.Test.YthbeempmdpfnmaaGreatDoorSb
namespace Go.Proofs.YthbeempmdpfnmaaGreatDoor.T
open Go.RowKit Go.Lib

set_option maxRecDepth 100000 in
set_option maxHeartbeats 8000000 in
theorem tick_s (s : Ss) (w : World) (hu : undr s.p = true) (hh : 0 ≤ s.h ∧ s.h ≤ 1000000000) (ha : 0 ≤ s.a ∧ s.a ≤ 1000000000) (h1 : 90 ≤ s.h + 1) : Calls Tryz.prog 22 #[.agg #[.int .i64 s.p, .string s.n, .string s.d, .int .i64 s.s, .int .i64 s.t, .int .i64 s.c, .int .i64 s.h, .int .i64 s.a, .int .i64 s.e]] w fun e w' => ∃ g k, e = .returned (.tuple #[.agg #[.int .i64 6, .string s.n, .string s.d, .int .i64 s.s, .int .i64 s.t, .int .i64 s.c, .int .i64 (s.h + 1), .int .i64 0, .int .i64 200], .agg #[.slice (some ⟨g, 0, none⟩) 1 1, .bool false, .slice (some ⟨k, 0, none⟩) 1 1]]) ∧ Below w.heap.size w w' ∧ w'.heap[g]? = some (.cells #[.int .i64 3, .string ⟨#[]⟩, .string ⟨#[]⟩, .string ⟨#[]⟩, .int .i64 0, .int .i64 0, .int .i64 0, .int .i64 0, .bool false, .slice none 0 0, .slice none 0 0] 42 (0, 0)) ∧ w'.heap[k]? = some (.cells #[.int .i64 3, .string ⟨#[]⟩, .string ⟨#[]⟩, .string ⟨#[]⟩, .int .i64 200, .int .i64 0, .int .i64 0, .int .i64 0, .bool false, .slice none 0 0, .slice none 0 0] 42 (0, 0)) ∧ w.heap.size ≤ g ∧ w.heap.size ≤ k := by
  have CO : Hid (∀ W, Calls Tryz.prog 35 #[.agg #[.int .i64 s.p, .string s.n, .string s.d, .int .i64 s.s, .int .i64 s.t, .int .i64 s.c, .int .i64 (s.h + 1), .int .i64 (s.a + 1), .int .i64 s.e], .int .i64 200] W (Gives (.agg #[.int .i64 6, .string s.n, .string s.d, .int .i64 s.s, .int .i64 s.t, .int .i64 s.c, .int .i64 (s.h + 1), .int .i64 (s.a + 1), .int .i64 200]) W)) := fun W => over_any { s with h := s.h + 1, a := s.a + 1 } 200 W
  have CY : Hid (∀ (a : Option Addr) (k e : Nat) (W : World), Calls Tryz.prog 33 #[.agg #[.int .i64 6, .string s.n, .string s.d, .int .i64 s.s, .int .i64 s.t, .int .i64 s.c, .int .i64 (s.h + 1), .int .i64 (s.a + 1), .int .i64 200], .slice a k e] W (Gives (.tuple #[.agg #[.int .i64 6, .string s.n, .string s.d, .int .i64 s.s, .int .i64 s.t, .int .i64 s.c, .int .i64 (s.h + 1), .int .i64 0, .int .i64 200], .agg #[.slice a k e, .bool false, .slice none 0 0]]) W)) := fun a k e W => say_any { s with h := s.h + 1, a := s.a + 1, p := 6, e := 200 } a k e W
  have CLh : Hid (∀ W, Calls Tryz.prog 48 #[.int .i64 s.h] W (Pure (.int .i64 (s.h + 1)) W)) := fun W => later_any s.h W hh.1 hh.2
  have CLa : Hid (∀ W, Calls Tryz.prog 48 #[.int .i64 s.a] W (Pure (.int .i64 (s.a + 1)) W)) := fun W => later_any s.a W ha.1 ha.2
  have CU := Lib.hid (fun W => undr_any s W)
  rw [hu] at CU
  clear hu
  obtain ⟨HB, HX, HZ, HO⟩ := bxThree w #[.int .i64 s.p, .string s.n, .string s.d, .int .i64 s.s, .int .i64 s.t, .int .i64 s.c, .int .i64 s.h, .int .i64 s.a, .int .i64 s.e] 28 #[.int .i64 0, .string ⟨#[]⟩, .string ⟨#[]⟩, .int .i64 0, .int .i64 0, .int .i64 0, .int .i64 0, .int .i64 0, .int .i64 0] 28 #[.slice none 0 0, .bool false, .slice none 0 0] 31
  obtain ⟨m0, m1, m2, m3, m4, m5, m6, m7, m8⟩ := bx9 HX.out
  go_enter Tryz.func22, Tryz.ntmps22
  go_wp2_with fail
  refine (CU.out _).mono ?_
  rintro e w1 ⟨rfl, hb⟩
  clear m0 m1 m2 m3 m4 m5 m6 m7 m8
  have HX1 := kpB hb HX
  have HZ1 := kpB hb HZ
  have HO1 := kpB hb HO
  have HB1 := Lib.hid (HB.out.trans (hb.mono HB.out.size))
  clear hb HB HX HZ HO CU
  obtain ⟨m0, m1, m2, m3, m4, m5, m6, m7, m8⟩ := bx9 HX1.out
  go_upto_region 3 with fail
  clear m0 m1 m2 m3 m4 m5 m6 m7 m8
  obtain ⟨g0, g1, g2, g3, g4, g5, g6, g7, g8⟩ := bx9 HX1.out
  have x0 : ∀ y : Ext w1, y.to.cell? ⟨w.heap.size, 0, none⟩ = _ := fun y => ext_cell y g0
  have x1 : ∀ y : Ext w1, y.to.cell? ⟨w.heap.size, 1, none⟩ = _ := fun y => ext_cell y g1
  have x2 : ∀ y : Ext w1, y.to.cell? ⟨w.heap.size, 2, none⟩ = _ := fun y => ext_cell y g2
  have x3 : ∀ y : Ext w1, y.to.cell? ⟨w.heap.size, 3, none⟩ = _ := fun y => ext_cell y g3
  have x4 : ∀ y : Ext w1, y.to.cell? ⟨w.heap.size, 4, none⟩ = _ := fun y => ext_cell y g4
  have x5 : ∀ y : Ext w1, y.to.cell? ⟨w.heap.size, 5, none⟩ = _ := fun y => ext_cell y g5
  have x6 : ∀ y : Ext w1, y.to.cell? ⟨w.heap.size, 6, none⟩ = _ := fun y => ext_cell y g6
  have x7 : ∀ y : Ext w1, y.to.cell? ⟨w.heap.size, 7, none⟩ = _ := fun y => ext_cell y g7
  have x8 : ∀ y : Ext w1, y.to.cell? ⟨w.heap.size, 8, none⟩ = _ := fun y => ext_cell y g8
  have Xh : Hid (Xc w1 48 #[.int .i64 s.h] (.int .i64 (s.h + 1))) := xc_pure fun W => CLh.out W
  have Xa : Hid (Xc w1 48 #[.int .i64 s.a] (.int .i64 (s.a + 1))) := xc_pure fun W => CLa.out W
  have hsome := extSome w1
  clear CLh CLa g0 g1 g2 g3 g4 g5 g6 g7 g8
  refine ext_tail 7 (by kernel_rfl) (by kernel_rfl) ?_
  simp only [List.take_succ_cons, List.take_zero, List.drop_succ_cons, List.drop_zero]
  repeat (go_big_quiet_step ((first | (go_at_call 48; with_reducible exact ext_call _ (Xh.out _)) | (go_at_call 48; with_reducible exact ext_call _ (Xa.out _)))))
  refine wpQuiet_nil ?_
  rintro _ ⟨y, hy⟩
  subst hy
  have HX2 := kpB y.below HX1
  have HZ2 := kpB y.below HZ1
  have HO2 := kpB y.below HO1
  have HB2 := Lib.hid (HB1.out.trans (y.below.mono HB1.out.size))
  clear Xh Xa hsome HX1 HZ1 HO1 HB1 x0 x1 x2 x3 x4 x5 x6 x7 x8
  generalize y.to = w2 at HX2 HZ2 HO2 HB2 ⊢
  clear y
  obtain ⟨m0, m1, m2, m3, m4, m5, m6, m7, m8⟩ := bx9 HX2.out
  obtain ⟨f0, f1, f2, f3, f4, f5, f6, f7, f8⟩ := bx9f HX2.out
  have hQ : w.heap.size < w2.heap.size := heap_lt HX2.out
  go_upto_region 4 with fail
  have HX3 : Hid (((w2.setCell ⟨w.heap.size, 6, none⟩ (.int .i64 (s.h + 1))).setCell ⟨w.heap.size, 7, none⟩ (.int .i64 (s.a + 1))).heap[w.heap.size]? = some (.cells #[.int .i64 s.p, .string s.n, .string s.d, .int .i64 s.s, .int .i64 s.t, .int .i64 s.c, .int .i64 (s.h + 1), .int .i64 (s.a + 1), .int .i64 s.e] 28 (0, 0))) := by
    show _ = _
    simp [World.setCell, Array.getElem?_modify, HX2.out]
  have HZ3 := Lib.hid (kp1 (A := w.heap.size) (i := 7) (u := .int .i64 (s.a + 1)) (b := w.heap.size + 1) (by omega) (kp1 (A := w.heap.size) (i := 6) (u := .int .i64 (s.h + 1)) (by omega) HZ2.out))
  have HO3 := Lib.hid (kp1 (A := w.heap.size) (i := 7) (u := .int .i64 (s.a + 1)) (b := w.heap.size + 2) (by omega) (kp1 (A := w.heap.size) (i := 6) (u := .int .i64 (s.h + 1)) (by omega) HO2.out))
  have HB3 := Lib.hid ((HB2.out.setCell (p := ⟨w.heap.size, 6, none⟩) (Nat.le_refl _) (.int .i64 (s.h + 1))).setCell (p := ⟨w.heap.size, 7, none⟩) (Nat.le_refl _) (.int .i64 (s.a + 1)))
  clear m0 m1 m2 m3 m4 m5 m6 m7 m8 f0 f1 f2 f3 f4 f5 f6 f7 f8
  clear HX2 HZ2 HO2 HB2 hQ
  generalize ((w2.setCell ⟨w.heap.size, 6, none⟩ (.int .i64 (s.h + 1))).setCell ⟨w.heap.size, 7, none⟩ (.int .i64 (s.a + 1))) = w3 at HX3 HZ3 HO3 HB3 ⊢
  obtain ⟨m0, m1, m2, m3, m4, m5, m6, m7, m8⟩ := bx9 HX3.out
  go_wp2_with fail
  refine (CO.out _).mono ?_
  rintro e w4 ⟨rfl, hb⟩
  clear m0 m1 m2 m3 m4 m5 m6 m7 m8
  have HX4 := kpB hb HX3
  have HZ4 := kpB hb HZ3
  have HO4 := kpB hb HO3
  have HB4 := Lib.hid (HB3.out.trans (hb.mono HB3.out.size))
  clear hb HX3 HZ3 HO3 HB3 CO
  have HA := bxOne w4 #[.int .i64 3, .string ⟨#[]⟩, .string ⟨#[]⟩, .string ⟨#[]⟩, .int .i64 0, .int .i64 0, .int .i64 0, .int .i64 0, .bool false, .slice none 0 0, .slice none 0 0] 42
  go_wp2_with fail
  refine (CY.out _ _ _ _).mono ?_
  rintro e w5 ⟨rfl, hb⟩
  have hba := HA.2.out.trans (hb.mono HA.2.out.size)
  have HX5 := kpB hba HX4
  have HZ5 := kpB hba HZ4
  have HO5 := kpB hba HO4
  have HR5 := kpB hb HA.1
  have HB5 := Lib.hid (HB4.out.trans (hba.mono HB4.out.size))
  have h4 : w.heap.size + 2 < w4.heap.size := heap_lt HO4.out
  have hs4 : w4.heap.size < w5.heap.size := heap_lt HR5.out
  clear hb hba HA HX4 HZ4 HO4 HB4 CY
  obtain ⟨-, G4, G5⟩ := bxTwo w5 #[.int .i64 6, .string s.n, .string s.d, .int .i64 s.s, .int .i64 s.t, .int .i64 s.c, .int .i64 (s.h + 1), .int .i64 0, .int .i64 200] 28 #[.slice (some ⟨w4.heap.size, 0, none⟩) 1 1, .bool false, .slice none 0 0] 31
  obtain ⟨x0, x1, x2, x3, x4, x5, x6, x7, x8⟩ := bx9 G4.out
  obtain ⟨xf0, xf1, xf2, xf3, xf4, xf5, xf6, xf7, xf8⟩ := bx9f G4.out
  obtain ⟨y0, y1, y2⟩ := bx3 G5.out
  obtain ⟨yf0, yf1, yf2⟩ := bx3f G5.out
  obtain ⟨HBa, HA4, HA5, HR2⟩ := bxThree w5 #[.int .i64 6, .string s.n, .string s.d, .int .i64 s.s, .int .i64 s.t, .int .i64 s.c, .int .i64 (s.h + 1), .int .i64 0, .int .i64 200] 28 #[.slice (some ⟨w4.heap.size, 0, none⟩) 1 1, .bool false, .slice (some ⟨w5.heap.size + 1 + 1, 0, none⟩) 1 1] 31 #[.int .i64 3, .string ⟨#[]⟩, .string ⟨#[]⟩, .string ⟨#[]⟩, .int .i64 200, .int .i64 0, .int .i64 0, .int .i64 0, .bool false, .slice none 0 0, .slice none 0 0] 42
  go_upto_region 7 with fail
  clear x0 x1 x2 x3 x4 x5 x6 x7 x8 xf0 xf1 xf2 xf3 xf4 xf5 xf6 xf7 xf8
  clear y0 y1 y2 yf0 yf1 yf2
  clear G4 G5
  have HZ := kpB HBa.out HZ5
  have HO := kpB HBa.out HO5
  have HR1 := kpB HBa.out HR5
  have HB := Lib.hid (HB5.out.trans (HBa.out.mono HB5.out.size))
  clear HBa HX5 HZ5 HO5 HR5 HB5
  generalize (((w5.alloc (.cells #[.int .i64 6, .string s.n, .string s.d, .int .i64 s.s, .int .i64 s.t, .int .i64 s.c, .int .i64 (s.h + 1), .int .i64 0, .int .i64 200] 28)).alloc (.cells #[.slice (some ⟨w4.heap.size, 0, none⟩) 1 1, .bool false, .slice (some ⟨w5.heap.size + 1 + 1, 0, none⟩) 1 1] 31)).alloc (.cells #[.int .i64 3, .string ⟨#[]⟩, .string ⟨#[]⟩, .string ⟨#[]⟩, .int .i64 200, .int .i64 0, .int .i64 0, .int .i64 0, .bool false, .slice none 0 0, .slice none 0 0] 42)) = W1 at HA4 HA5 HR2 HZ HO HR1 HB ⊢
  have HR2 : Hid (W1.heap[w5.heap.size + 1 + 1]? = _) := HR2
  have hZN : w.heap.size + 1 < W1.heap.size := heap_lt HZ.out
  refine region_Z (w := w) (Z := w.heap.size + 1) 3 2 (fun j => [36, 37, 100002].getD j 0) [36, 37] [.eq (.agg #[.int .i64 6, .string s.n, .string s.d, .int .i64 s.s, .int .i64 s.t, .int .i64 s.c, .int .i64 (s.h + 1), .int .i64 0, .int .i64 200]), .eq (.agg #[.slice (some ⟨w4.heap.size, 0, none⟩) 1 1, .bool false, .slice (some ⟨w5.heap.size + 1 + 1, 0, none⟩) 1 1]), .st #[.int .i64 6, .string s.n, .string s.d, .int .i64 s.s, .int .i64 s.t, .int .i64 s.c, .int .i64 (s.h + 1), .int .i64 0, .int .i64 200]] (by kernel_rfl) (by kernel_rfl) (by kernel_rfl) (by kernel_rfl) (by decide) (by kernel_rfl) (by kernel_rfl) (by kernel_rfl) (by kernel_rfl) (fun h => absurd (show 2 < 3 by decide) h) HB.out HZ.out ?_ ?_
  · intro i o hi ho q W hsz hout hJ hZ0 hdep
    have HAW := oldJ hJ (by omega) HA4
    obtain ⟨x0, x1, x2, x3, x4, x5, x6, x7, x8⟩ := bx9 HAW.out
    have HCW := oldJ hJ (by omega) HA5
    obtain ⟨y0, y1, y2⟩ := bx3 HCW.out
    have hc : i = 0 ∨ i = 1 ∨ i = 2 := by omega
    rcases hc with rfl | rfl | rfl
    · -- 0
      cases ho
      refine plainR (by decide) ?_
      have e4 : q.eval (.tmp 4) = .pointer (some ⟨w5.heap.size, 0, none⟩) := (hout 4 (by decide)).trans rfl
      refine gives_read (v := .agg #[.int .i64 6, .string s.n, .string s.d, .int .i64 s.s, .int .i64 s.t, .int .i64 s.c, .int .i64 (s.h + 1), .int .i64 0, .int .i64 200]) ?_ rfl
      unfold execOp
      dsimp only
      rw [e4]
      go_simp
    · -- 1
      cases ho
      refine plainR (by decide) ?_
      have e5 : q.eval (.tmp 5) = .pointer (some ⟨w5.heap.size + 1, 0, none⟩) := (hout 5 (by decide)).trans rfl
      refine gives_read (v := .agg #[.slice (some ⟨w4.heap.size, 0, none⟩) 1 1, .bool false, .slice (some ⟨w5.heap.size + 1 + 1, 0, none⟩) 1 1]) ?_ rfl
      unfold execOp
      dsimp only
      rw [e5]
      go_simp
    · -- 2
      cases ho
      have e2 : q.eval (.tmp 2) = .pointer (some ⟨w.heap.size + 1, 0, none⟩) := (hout 2 (by decide)).trans rfl
      have e36 : q.eval (.tmp 36) = .agg #[.int .i64 6, .string s.n, .string s.d, .int .i64 s.s, .int .i64 s.t, .int .i64 s.c, .int .i64 (s.h + 1), .int .i64 0, .int .i64 200] := hdep ⟨0, .data⟩ (by simp) rfl (by decide)
      have hz := hZ0 (by kernel_rfl)
      obtain ⟨zc0, zc1, zc2, zc3, zc4, zc5, zc6, zc7, zc8⟩ := bx9 hz
      obtain ⟨zf0, zf1, zf2, zf3, zf4, zf5, zf6, zf7, zf8⟩ := bx9f hz
      refine givesR_skip ?_ (stZ_of (by omega) hz (.int .i64 6) (.string s.n) (.string s.d) (.int .i64 s.s) (.int .i64 s.t) (.int .i64 s.c) (.int .i64 (s.h + 1)) (.int .i64 0) (.int .i64 200)) (st9 hz (.int .i64 6) (.string s.n) (.string s.d) (.int .i64 s.s) (.int .i64 s.t) (.int .i64 s.c) (.int .i64 (s.h + 1)) (.int .i64 0) (.int .i64 200))
      unfold execOp
      dsimp only
      rw [e2, e36]
      go_simp
  · intro q W hq hJ hv
    have e37 : q.eval (.tmp 37) = .agg #[.slice (some ⟨w4.heap.size, 0, none⟩) 1 1, .bool false, .slice (some ⟨w5.heap.size + 1 + 1, 0, none⟩) 1 1] := hv 1 (by decide)
    have hZW : W.heap[w.heap.size + 1]? = some (.cells #[.int .i64 6, .string s.n, .string s.d, .int .i64 s.s, .int .i64 s.t, .int .i64 s.c, .int .i64 (s.h + 1), .int .i64 0, .int .i64 200] 28 (0, 0)) := hv 2 (by decide)
    have HBW := Lib.hid hJ.bel
    have HOW := oldJ hJ (by omega) HO
    have HZW := Lib.hid hZW
    have HRW := oldJ hJ (by omega) HR1
    have HSW := oldJ hJ (by omega) HR2
    clear hJ HA4 HA5 HO HR1 HR2 hZW
    have hq2 : q = canonL q [36, 37] _ := hq
    simp only [canonL] at hq2
    rw [e37] at hq2
    clear hq hv e37
    generalize q.eval (.tmp 36) = u36 at hq2
    subst hq2
    obtain ⟨y0, y1, y2⟩ := bx3 HOW.out
    obtain ⟨v0, v1, v2⟩ := bx3f HOW.out
    simp only [List.drop_succ_cons, List.drop_zero]
    go_wp2_with fail
    exact bodyPost_ret (results_two Tryz.results22 _ _ (w.heap.size + 1) (w.heap.size + 2) _ _ rfl rfl (load_s ((st3k (by omega) (.slice (some ⟨w4.heap.size, 0, none⟩) 1 1) (.bool false) (.slice (some ⟨w5.heap.size + 1 + 1, 0, none⟩) 1 1)).trans HZW.out)) (load_o (st3 HOW.out (.slice (some ⟨w4.heap.size, 0, none⟩) 1 1) (.bool false) (.slice (some ⟨w5.heap.size + 1 + 1, 0, none⟩) 1 1)))) rfl ⟨w4.heap.size, w5.heap.size + 1 + 1, rfl, st3b HBW.out (by omega) (.slice (some ⟨w4.heap.size, 0, none⟩) 1 1) (.bool false) (.slice (some ⟨w5.heap.size + 1 + 1, 0, none⟩) 1 1), (st3k (by omega) (.slice (some ⟨w4.heap.size, 0, none⟩) 1 1) (.bool false) (.slice (some ⟨w5.heap.size + 1 + 1, 0, none⟩) 1 1)).trans HRW.out, (st3k (by omega) (.slice (some ⟨w4.heap.size, 0, none⟩) 1 1) (.bool false) (.slice (some ⟨w5.heap.size + 1 + 1, 0, none⟩) 1 1)).trans HSW.out, by omega, by omega⟩
end Go.Proofs.YthbeempmdpfnmaaGreatDoor.T
