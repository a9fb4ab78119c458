/- The document's Take: what is not under way, a bye, a host, a list, a let. Conditions: those of each theorem's head. -/
import Derived.Test.YthbeempmdpfnmaaGreatDoorUb
namespace Go.Proofs.YthbeempmdpfnmaaGreatDoor.T
open Go.RowKit Go.Lib

set_option maxRecDepth 100000 in
set_option maxHeartbeats 8000000 in
theorem rtake_off (s : Ss) (n : Nt) (ai az : Option Addr) (ci cz : Nat) (w : World) (hu : undr s.p = false) : Calls Tryz.prog 25 #[.agg #[.int .i64 s.p, .string s.n, .string s.d, .int .i64 s.s, .int .i64 s.t, .int .i64 s.c, .int .i64 s.h, .int .i64 s.a, .int .i64 s.e], .agg #[.int .i64 n.k, .string n.n, .string n.x, .string n.d, .int .i64 n.c, .int .i64 n.s, .int .i64 n.e, .int .i64 n.t, .bool n.o, .slice ai n.l.length ci, .slice az n.z.length cz]] w (StV ai az n (s, zO) w) := by
  have CU : Hid (∀ W, Calls Tryz.prog 49 #[.agg #[.int .i64 s.p, .string s.n, .string s.d, .int .i64 s.s, .int .i64 s.t, .int .i64 s.c, .int .i64 s.h, .int .i64 s.a, .int .i64 s.e]] W (Gives (.bool false) W)) := fun W => by
    have q := rundr_any s W
    rw [show undr _ = false from hu] at q
    exact q
  clear hu
  obtain ⟨HB, HX, HN, HZ, HO⟩ := bxFour w #[.int .i64 s.p, .string s.n, .string s.d, .int .i64 s.s, .int .i64 s.t, .int .i64 s.c, .int .i64 s.h, .int .i64 s.a, .int .i64 s.e] 28 #[.int .i64 n.k, .string n.n, .string n.x, .string n.d, .int .i64 n.c, .int .i64 n.s, .int .i64 n.e, .int .i64 n.t, .bool n.o, .slice ai n.l.length ci, .slice az n.z.length cz] 42 #[.int .i64 0, .string ⟨#[]⟩, .string ⟨#[]⟩, .int .i64 0, .int .i64 0, .int .i64 0, .int .i64 0, .int .i64 0, .int .i64 0] 28 #[.slice none 0 0, .bool false, .slice none 0 0] 31
  obtain ⟨m0, m1, m2, m3, m4, m5, m6, m7, m8⟩ := bx9 HX.out
  go_enter Tryz.func25, Tryz.ntmps25
  go_wp2_with fail
  refine (CU.out _).mono ?_
  rintro e w1 ⟨rfl, hb⟩
  clear m0 m1 m2 m3 m4 m5 m6 m7 m8
  have HX1 := kpB hb HX
  have HN1 := kpB hb HN
  have HZ1 := kpB hb HZ
  have HO1 := kpB hb HO
  have HB1 := Lib.hid (HB.out.trans (hb.mono HB.out.size))
  clear hb HB HX HN HZ HO CU
  obtain ⟨m0, m1, m2, m3, m4, m5, m6, m7, m8⟩ := bx9 HX1.out
  obtain ⟨z0, z1, z2, z3, z4, z5, z6, z7, z8⟩ := bx9 HZ1.out
  obtain ⟨zf0, zf1, zf2, zf3, zf4, zf5, zf6, zf7, zf8⟩ := bx9f HZ1.out
  obtain ⟨y0, y1, y2⟩ := bx3 HO1.out
  obtain ⟨yf0, yf1, yf2⟩ := bx3f HO1.out
  have hPz : w.heap.size + 3 < w1.heap.size := heap_lt HO1.out
  have hPza : w.heap.size + 2 < w1.heap.size := heap_lt HZ1.out
  have hPx1 : w.heap.size < w1.heap.size := by omega
  go_wp2_with fail
  exact bodyPost_ret (results_two Tryz.results25 _ _ (w.heap.size + 2) (w.heap.size + 3) _ _ rfl rfl (load_s ((st3k (by omega) (.slice none 0 0) (.bool false) (.slice none 0 0)).trans (st9 HZ1.out (.int .i64 s.p) (.string s.n) (.string s.d) (.int .i64 s.s) (.int .i64 s.t) (.int .i64 s.c) (.int .i64 s.h) (.int .i64 s.a) (.int .i64 s.e)))) (load_o (st3 ((st9k (by omega) (.int .i64 s.p) (.string s.n) (.string s.d) (.int .i64 s.s) (.int .i64 s.t) (.int .i64 s.c) (.int .i64 s.h) (.int .i64 s.a) (.int .i64 s.e)).trans HO1.out) (.slice none 0 0) (.bool false) (.slice none 0 0)))) rfl ⟨none, none, 0, 0, rfl, st3b (st9b HB1.out (by omega) (.int .i64 s.p) (.string s.n) (.string s.d) (.int .i64 s.s) (.int .i64 s.t) (.int .i64 s.c) (.int .i64 s.h) (.int .i64 s.a) (.int .i64 s.e)) (by omega) (.slice none 0 0) (.bool false) (.slice none 0 0), fr_nil _ _ _, (fr_nil _ _ _).v⟩
set_option maxRecDepth 100000 in
set_option maxHeartbeats 8000000 in
theorem rtake_host (s : Ss) (n : Nt) (ai az : Option Addr) (ci cz : Nat) (w : World) (hk : n.k = 9) : Calls Tryz.prog 25 #[.agg #[.int .i64 3, .string s.n, .string s.d, .int .i64 s.s, .int .i64 s.t, .int .i64 s.c, .int .i64 s.h, .int .i64 s.a, .int .i64 s.e], .agg #[.int .i64 n.k, .string n.n, .string n.x, .string n.d, .int .i64 n.c, .int .i64 n.s, .int .i64 n.e, .int .i64 n.t, .bool n.o, .slice ai n.l.length ci, .slice az n.z.length cz]] w (StV ai az n ({ s with p := 4, h := 0, a := 0 }, ⟨[{ nK 17 with t := s.t, c := s.c }], false, []⟩) w) := by
  have hu : undr 3 = true := rfl
  have q3 : (n.k == 3) = false := by rw [hk]; rfl
  have q6 : (n.k == 6) = false := by rw [hk]; rfl
  have q8 : (n.k == 8) = false := by rw [hk]; rfl
  have q9 : (n.k == 9) = true := by rw [hk]; rfl
  have q18 : (n.k == 18) = false := by rw [hk]; rfl
  have q19 : (n.k == 19) = false := by rw [hk]; rfl
  clear hk
  have CU : Hid (∀ W, Calls Tryz.prog 49 #[.agg #[.int .i64 3, .string s.n, .string s.d, .int .i64 s.s, .int .i64 s.t, .int .i64 s.c, .int .i64 s.h, .int .i64 s.a, .int .i64 s.e]] W (Gives (.bool true) W)) := fun W => by
    have q := rundr_any { s with p := 3 } W
    rw [show undr _ = true from hu] at q
    exact q
  clear hu
  obtain ⟨HB, HX, HN, HZ, HO⟩ := bxFour w #[.int .i64 3, .string s.n, .string s.d, .int .i64 s.s, .int .i64 s.t, .int .i64 s.c, .int .i64 s.h, .int .i64 s.a, .int .i64 s.e] 28 #[.int .i64 n.k, .string n.n, .string n.x, .string n.d, .int .i64 n.c, .int .i64 n.s, .int .i64 n.e, .int .i64 n.t, .bool n.o, .slice ai n.l.length ci, .slice az n.z.length cz] 42 #[.int .i64 0, .string ⟨#[]⟩, .string ⟨#[]⟩, .int .i64 0, .int .i64 0, .int .i64 0, .int .i64 0, .int .i64 0, .int .i64 0] 28 #[.slice none 0 0, .bool false, .slice none 0 0] 31
  obtain ⟨m0, m1, m2, m3, m4, m5, m6, m7, m8⟩ := bx9 HX.out
  go_enter Tryz.func25, Tryz.ntmps25
  go_wp2_with fail
  refine (CU.out _).mono ?_
  rintro e w1 ⟨rfl, hb⟩
  clear m0 m1 m2 m3 m4 m5 m6 m7 m8
  have HX1 := kpB hb HX
  have HN1 := kpB hb HN
  have HZ1 := kpB hb HZ
  have HO1 := kpB hb HO
  have HB1 := Lib.hid (HB.out.trans (hb.mono HB.out.size))
  clear hb HB HX HN HZ HO CU
  obtain ⟨m0, m1, m2, m3, m4, m5, m6, m7, m8⟩ := bx9 HX1.out
  obtain ⟨k0, k1, k2, k3, k4, k5, k6, k7, k8, k9, k10⟩ := bx11 HN1.out
  obtain ⟨f0, f1, f2, f3, f4, f5, f6, f7, f8⟩ := bx9f HX1.out
  have hPx : w.heap.size + 3 < w1.heap.size := heap_lt HO1.out
  go_upto_region 4 with fail
  clear m0 m1 m2 m3 m4 m5 m6 m7 m8 f0 f1 f2 f3 f4 f5 f6 f7 f8
  clear k0 k1 k2 k3 k4 k5 k6 k7 k8 k9 k10
  have HX2 : Hid ((w1.setCell ⟨w.heap.size, 6, none⟩ (.int .i64 0)).heap[w.heap.size]? = some (.cells #[.int .i64 3, .string s.n, .string s.d, .int .i64 s.s, .int .i64 s.t, .int .i64 s.c, .int .i64 0, .int .i64 s.a, .int .i64 s.e] 28 (0, 0))) := by
    show _ = _
    simp [World.setCell, Array.getElem?_modify, HX1.out]
  have HN2 := Lib.hid (kp1 (A := w.heap.size) (i := 6) (u := .int .i64 0) (b := w.heap.size + 1) (by omega) HN1.out)
  have HZ2 := Lib.hid (kp1 (A := w.heap.size) (i := 6) (u := .int .i64 0) (b := w.heap.size + 2) (by omega) HZ1.out)
  have HO2 := Lib.hid (kp1 (A := w.heap.size) (i := 6) (u := .int .i64 0) (b := w.heap.size + 3) (by omega) HO1.out)
  have HB2 := Lib.hid (HB1.out.setCell (p := ⟨w.heap.size, 6, none⟩) (Nat.le_refl _) (.int .i64 0))
  clear HX1 HN1 HZ1 HO1 HB1 hPx
  generalize (w1.setCell ⟨w.heap.size, 6, none⟩ (.int .i64 0)) = w2 at HX2 HN2 HZ2 HO2 HB2 ⊢
  obtain ⟨HD3, HBp⟩ := bxOne w2 #[.slice none 0 0, .bool false, .slice none 0 0] 31
  have HX3 := kpB HBp.out HX2
  have HN3 := kpB HBp.out HN2
  have HZ3 := kpB HBp.out HZ2
  have HO3 := kpB HBp.out HO2
  have HB3 := Lib.hid (HB2.out.trans (HBp.out.mono HB2.out.size))
  have hPy : w.heap.size + 3 < w2.heap.size := heap_lt HO2.out
  go_upto_region 5 with fail
  clear HX2 HN2 HZ2 HO2 HB2 HBp
  generalize (w2.alloc (.cells #[.slice none 0 0, .bool false, .slice none 0 0] 31)) = w3 at HX3 HN3 HZ3 HO3 HD3 HB3 ⊢
  generalize w2.heap.size = A6 at hPy HD3 ⊢
  have hA3 : A6 < w3.heap.size := heap_lt HD3.out
  obtain ⟨m0, m1, m2, m3, m4, m5, m6, m7, m8⟩ := bx9 HX3.out
  obtain ⟨k0, k1, k2, k3, k4, k5, k6, k7, k8, k9, k10⟩ := bx11 HN3.out
  obtain ⟨d0, d1, d2⟩ := bx3 HD3.out
  go_upto_region 11 with fail
  have r0 : ∀ y : Ext w3, y.to.cell? _ = _ := fun y => ext_cell y k0
  have r1 : ∀ y : Ext w3, y.to.cell? _ = _ := fun y => ext_cell y m0
  have hsome := extSome w3
  clear m0 m1 m2 m3 m4 m5 m6 m7 m8
  clear k0 k1 k2 k3 k4 k5 k6 k7 k8 k9 k10
  clear d0 d1 d2
  clear hA3
  refine ext_region (by kernel_rfl) (by kernel_rfl) ?_
  repeat (go_big_quiet_step (fail))
  refine wpQuiet_nil ?_
  rintro _ ⟨y, hy⟩
  subst hy
  have HX4 := kpB y.below HX3
  have HN4 := kpB y.below HN3
  have HZ4 := kpB y.below HZ3
  have HO4 := kpB y.below HO3
  have HD4 := kpB y.below HD3
  have HB4 := Lib.hid (HB3.out.trans (y.below.mono HB3.out.size))
  clear hsome r0 r1 HX3 HN3 HZ3 HO3 HD3 HB3
  generalize y.to = w4 at HX4 HN4 HZ4 HO4 HD4 HB4 ⊢
  clear y
  have hA4 : A6 < w4.heap.size := heap_lt HD4.out
  obtain ⟨m0, m1, m2, m3, m4, m5, m6, m7, m8⟩ := bx9 HX4.out
  obtain ⟨k0, k1, k2, k3, k4, k5, k6, k7, k8, k9, k10⟩ := bx11 HN4.out
  obtain ⟨d0, d1, d2⟩ := bx3 HD4.out
  obtain ⟨f0, f1, f2, f3, f4, f5, f6, f7, f8⟩ := bx9f HX4.out
  go_upto_region 20 with fail
  clear f0 f1 f2 f3 f4 f5 f6 f7 f8
  have HX5 : Hid ((w4.setCell ⟨w.heap.size, 0, none⟩ (.int .i64 4)).heap[w.heap.size]? = some (.cells #[.int .i64 4, .string s.n, .string s.d, .int .i64 s.s, .int .i64 s.t, .int .i64 s.c, .int .i64 0, .int .i64 s.a, .int .i64 s.e] 28 (0, 0))) := by
    show _ = _
    simp only [World.setCell, Array.getElem?_modify, HX4.out]
    simp
  have HN5 := Lib.hid (kp1 (A := w.heap.size) (i := 0) (u := .int .i64 4) (b := w.heap.size + 1) (by omega) HN4.out)
  have HZ5 := Lib.hid (kp1 (A := w.heap.size) (i := 0) (u := .int .i64 4) (b := w.heap.size + 2) (by omega) HZ4.out)
  have HO5 := Lib.hid (kp1 (A := w.heap.size) (i := 0) (u := .int .i64 4) (b := w.heap.size + 3) (by omega) HO4.out)
  have HD5 := Lib.hid (kp1 (A := w.heap.size) (i := 0) (u := .int .i64 4) (b := A6) (by omega) HD4.out)
  have HB5 := Lib.hid (HB4.out.setCell (p := ⟨w.heap.size, 0, none⟩) (show w.heap.size ≤ w.heap.size by omega) (.int .i64 4))
  clear m0 m1 m2 m3 m4 m5 m6 m7 m8
  clear k0 k1 k2 k3 k4 k5 k6 k7 k8 k9 k10
  clear d0 d1 d2
  clear hA4
  clear HX4 HN4 HZ4 HO4 HD4 HB4
  generalize (w4.setCell ⟨w.heap.size, 0, none⟩ (.int .i64 4)) = w5 at HX5 HN5 HZ5 HO5 HD5 HB5 ⊢
  have hA5 : A6 < w5.heap.size := heap_lt HD5.out
  obtain ⟨m0, m1, m2, m3, m4, m5, m6, m7, m8⟩ := bx9 HX5.out
  obtain ⟨k0, k1, k2, k3, k4, k5, k6, k7, k8, k9, k10⟩ := bx11 HN5.out
  obtain ⟨d0, d1, d2⟩ := bx3 HD5.out
  obtain ⟨f0, f1, f2⟩ := bx3f HD5.out
  go_upto_region 27 with fail
  clear f0 f1 f2
  have HDg : Hid ((w5.setCell ⟨A6, 0, none⟩ (.slice (some ⟨w5.heap.size, 0, none⟩) 1 1)).heap[A6]? = some (.cells #[.slice (some ⟨w5.heap.size, 0, none⟩) 1 1, .bool false, .slice none 0 0] 31 (0, 0))) := by
    show _ = _
    simp only [World.setCell, Array.getElem?_modify, HD5.out]
    simp
  have HXg := Lib.hid (kp1 (A := A6) (i := 0) (u := .slice (some ⟨w5.heap.size, 0, none⟩) 1 1) (b := w.heap.size) (by omega) HX5.out)
  have HNg := Lib.hid (kp1 (A := A6) (i := 0) (u := .slice (some ⟨w5.heap.size, 0, none⟩) 1 1) (b := w.heap.size + 1) (by omega) HN5.out)
  have HZg := Lib.hid (kp1 (A := A6) (i := 0) (u := .slice (some ⟨w5.heap.size, 0, none⟩) 1 1) (b := w.heap.size + 2) (by omega) HZ5.out)
  have HOg := Lib.hid (kp1 (A := A6) (i := 0) (u := .slice (some ⟨w5.heap.size, 0, none⟩) 1 1) (b := w.heap.size + 3) (by omega) HO5.out)
  have HBg := Lib.hid (HB5.out.setCell (p := ⟨A6, 0, none⟩) (show w.heap.size ≤ A6 by omega) (.slice (some ⟨w5.heap.size, 0, none⟩) 1 1))
  obtain ⟨HRn, HBn⟩ := bxOne (w5.setCell ⟨A6, 0, none⟩ (.slice (some ⟨w5.heap.size, 0, none⟩) 1 1)) #[.int .i64 17, .string ⟨#[]⟩, .string ⟨#[]⟩, .string ⟨#[]⟩, .int .i64 s.c, .int .i64 0, .int .i64 0, .int .i64 s.t, .bool false, .slice none 0 0, .slice none 0 0] 42
  have HR16 : Hid (((w5.setCell ⟨A6, 0, none⟩ (.slice (some ⟨w5.heap.size, 0, none⟩) 1 1)).alloc (.cells #[.int .i64 17, .string ⟨#[]⟩, .string ⟨#[]⟩, .string ⟨#[]⟩, .int .i64 s.c, .int .i64 0, .int .i64 0, .int .i64 s.t, .bool false, .slice none 0 0, .slice none 0 0] 42)).heap[w5.heap.size]? = some (.cells #[.int .i64 17, .string ⟨#[]⟩, .string ⟨#[]⟩, .string ⟨#[]⟩, .int .i64 s.c, .int .i64 0, .int .i64 0, .int .i64 s.t, .bool false, .slice none 0 0, .slice none 0 0] 42 (0, 0))) := by
    have h := HRn.out
    rw [st_size] at h
    exact h
  have HX6 := kpB HBn.out HXg
  have HN6 := kpB HBn.out HNg
  have HZ6 := kpB HBn.out HZg
  have HO6 := kpB HBn.out HOg
  have HD6 := kpB HBn.out HDg
  have HB6 := Lib.hid (HBg.out.trans (HBn.out.mono (by rw [st_size]; exact HB5.out.size)))
  have hR1 : A6 < w5.heap.size := hA5
  clear m0 m1 m2 m3 m4 m5 m6 m7 m8
  clear k0 k1 k2 k3 k4 k5 k6 k7 k8 k9 k10
  clear d0 d1 d2
  clear hA5
  clear HRn HBn HXg HNg HZg HOg HDg HBg HX5 HN5 HZ5 HO5 HD5 HB5
  generalize ((w5.setCell ⟨A6, 0, none⟩ (.slice (some ⟨w5.heap.size, 0, none⟩) 1 1)).alloc (.cells #[.int .i64 17, .string ⟨#[]⟩, .string ⟨#[]⟩, .string ⟨#[]⟩, .int .i64 s.c, .int .i64 0, .int .i64 0, .int .i64 s.t, .bool false, .slice none 0 0, .slice none 0 0] 42)) = w6 at HX6 HN6 HZ6 HO6 HD6 HR16 HB6 ⊢
  generalize w5.heap.size = R1 at HD6 HR16 hR1 ⊢
  have hA6 : A6 < w6.heap.size := heap_lt HD6.out
  obtain ⟨m0, m1, m2, m3, m4, m5, m6, m7, m8⟩ := bx9 HX6.out
  obtain ⟨k0, k1, k2, k3, k4, k5, k6, k7, k8, k9, k10⟩ := bx11 HN6.out
  obtain ⟨d0, d1, d2⟩ := bx3 HD6.out
  obtain ⟨f0, f1, f2, f3, f4, f5, f6, f7, f8⟩ := bx9f HX6.out
  go_upto_region 29 with fail
  clear f0 f1 f2 f3 f4 f5 f6 f7 f8
  have HX7 : Hid ((w6.setCell ⟨w.heap.size, 7, none⟩ (.int .i64 0)).heap[w.heap.size]? = some (.cells #[.int .i64 4, .string s.n, .string s.d, .int .i64 s.s, .int .i64 s.t, .int .i64 s.c, .int .i64 0, .int .i64 0, .int .i64 s.e] 28 (0, 0))) := by
    show _ = _
    simp only [World.setCell, Array.getElem?_modify, HX6.out]
    simp
  have HN7 := Lib.hid (kp1 (A := w.heap.size) (i := 7) (u := .int .i64 0) (b := w.heap.size + 1) (by omega) HN6.out)
  have HZ7 := Lib.hid (kp1 (A := w.heap.size) (i := 7) (u := .int .i64 0) (b := w.heap.size + 2) (by omega) HZ6.out)
  have HO7 := Lib.hid (kp1 (A := w.heap.size) (i := 7) (u := .int .i64 0) (b := w.heap.size + 3) (by omega) HO6.out)
  have HD7 := Lib.hid (kp1 (A := w.heap.size) (i := 7) (u := .int .i64 0) (b := A6) (by omega) HD6.out)
  have HR17 := Lib.hid (kp1 (A := w.heap.size) (i := 7) (u := .int .i64 0) (b := R1) (by omega) HR16.out)
  have HB7 := Lib.hid (HB6.out.setCell (p := ⟨w.heap.size, 7, none⟩) (show w.heap.size ≤ w.heap.size by omega) (.int .i64 0))
  clear m0 m1 m2 m3 m4 m5 m6 m7 m8
  clear k0 k1 k2 k3 k4 k5 k6 k7 k8 k9 k10
  clear d0 d1 d2
  clear hA6
  clear HX6 HN6 HZ6 HO6 HD6 HR16 HB6
  generalize (w6.setCell ⟨w.heap.size, 7, none⟩ (.int .i64 0)) = w7 at HX7 HN7 HZ7 HO7 HD7 HR17 HB7 ⊢
  have hA7 : A6 < w7.heap.size := heap_lt HD7.out
  obtain ⟨m0, m1, m2, m3, m4, m5, m6, m7, m8⟩ := bx9 HX7.out
  obtain ⟨k0, k1, k2, k3, k4, k5, k6, k7, k8, k9, k10⟩ := bx11 HN7.out
  obtain ⟨d0, d1, d2⟩ := bx3 HD7.out
  clear m0 m1 m2 m3 m4 m5 m6 m7 m8
  clear k0 k1 k2 k3 k4 k5 k6 k7 k8 k9 k10
  clear d0 d1 d2
  clear hA7
  have hZN : w.heap.size + 1 + 1 < w7.heap.size := heap_lt HZ7.out
  have hAN : A6 < w7.heap.size := heap_lt HD7.out
  refine region_Z (w := w) (Z := w.heap.size + 1 + 1) 3 2 (fun j => [140, 141, 100002].getD j 0) [140, 141] [.eq (.agg #[.int .i64 4, .string s.n, .string s.d, .int .i64 s.s, .int .i64 s.t, .int .i64 s.c, .int .i64 0, .int .i64 0, .int .i64 s.e]), .eq (.agg #[.slice (some ⟨R1, 0, none⟩) 1 1, .bool false, .slice none 0 0]), .st #[.int .i64 4, .string s.n, .string s.d, .int .i64 s.s, .int .i64 s.t, .int .i64 s.c, .int .i64 0, .int .i64 0, .int .i64 s.e]] (by kernel_rfl) (by kernel_rfl) (by kernel_rfl) (by kernel_rfl) (by decide) (by kernel_rfl) (by kernel_rfl) (by kernel_rfl) (by kernel_rfl) (fun h => absurd (show 2 < 3 by decide) h) HB7.out HZ7.out ?_ ?_
  · intro i o hi ho q W hsz hout hJ hZ0 hdep
    have HXW := oldJ hJ (by omega) HX7
    obtain ⟨x0, x1, x2, x3, x4, x5, x6, x7, x8⟩ := bx9 HXW.out
    have HDW := oldJ hJ (by omega) HD7
    obtain ⟨y0, y1, y2⟩ := bx3 HDW.out
    have hc : i = 0 ∨ i = 1 ∨ i = 2 := by omega
    rcases hc with rfl | rfl | rfl
    · -- 0
      cases ho
      refine plainR (by decide) ?_
      have e2 : q.eval (.tmp 2) = .pointer (some ⟨w.heap.size, 0, none⟩) := (hout 2 (by decide)).trans rfl
      refine gives_read (v := .agg #[.int .i64 4, .string s.n, .string s.d, .int .i64 s.s, .int .i64 s.t, .int .i64 s.c, .int .i64 0, .int .i64 0, .int .i64 s.e]) ?_ rfl
      unfold execOp
      dsimp only
      rw [e2]
      go_simp
    · -- 1
      cases ho
      refine plainR (by decide) ?_
      have e6 : q.eval (.tmp 6) = .pointer (some ⟨A6, 0, none⟩) := (hout 6 (by decide)).trans rfl
      refine gives_read (v := .agg #[.slice (some ⟨R1, 0, none⟩) 1 1, .bool false, .slice none 0 0]) ?_ rfl
      unfold execOp
      dsimp only
      rw [e6]
      go_simp
    · -- 2
      cases ho
      have e4 : q.eval (.tmp 4) = .pointer (some ⟨w.heap.size + 1 + 1, 0, none⟩) := (hout 4 (by decide)).trans rfl
      have e140 : q.eval (.tmp 140) = .agg #[.int .i64 4, .string s.n, .string s.d, .int .i64 s.s, .int .i64 s.t, .int .i64 s.c, .int .i64 0, .int .i64 0, .int .i64 s.e] := hdep ⟨0, .data⟩ (by simp) rfl (by decide)
      have hz := hZ0 (by kernel_rfl)
      obtain ⟨zc0, zc1, zc2, zc3, zc4, zc5, zc6, zc7, zc8⟩ := bx9 hz
      obtain ⟨zf0, zf1, zf2, zf3, zf4, zf5, zf6, zf7, zf8⟩ := bx9f hz
      refine givesR_skip ?_ (stZ_of (by omega) hz (.int .i64 4) (.string s.n) (.string s.d) (.int .i64 s.s) (.int .i64 s.t) (.int .i64 s.c) (.int .i64 0) (.int .i64 0) (.int .i64 s.e)) (st9 hz (.int .i64 4) (.string s.n) (.string s.d) (.int .i64 s.s) (.int .i64 s.t) (.int .i64 s.c) (.int .i64 0) (.int .i64 0) (.int .i64 s.e))
      unfold execOp
      dsimp only
      rw [e4, e140]
      go_simp
  · intro q W hq hJ hv
    have e141 : q.eval (.tmp 141) = .agg #[.slice (some ⟨R1, 0, none⟩) 1 1, .bool false, .slice none 0 0] := hv 1 (by decide)
    have hZW : W.heap[w.heap.size + 1 + 1]? = some (.cells #[.int .i64 4, .string s.n, .string s.d, .int .i64 s.s, .int .i64 s.t, .int .i64 s.c, .int .i64 0, .int .i64 0, .int .i64 s.e] 28 (0, 0)) := hv 2 (by decide)
    have HBW := Lib.hid hJ.bel
    have HOW := oldJ hJ (by omega) HO7
    have HZW := Lib.hid hZW
    have HR1W := oldJ hJ (by omega) HR17
    clear hJ hZW HX7 HN7 HZ7 HO7 HD7 HR17
    have hq2 : q = canonL q [140, 141] _ := hq
    simp only [canonL] at hq2
    rw [e141] at hq2
    clear hq hv e141
    generalize q.eval (.tmp 140) = u140 at hq2
    subst hq2
    obtain ⟨y0, y1, y2⟩ := bx3 HOW.out
    obtain ⟨v0, v1, v2⟩ := bx3f HOW.out
    simp only [List.drop_succ_cons, List.drop_zero]
    go_wp2_with fail
    exact bodyPost_ret (results_two Tryz.results25 _ _ (w.heap.size + 2) (w.heap.size + 3) _ _ rfl rfl (load_s ((st3k (by omega) (.slice (some ⟨R1, 0, none⟩) 1 1) (.bool false) (.slice none 0 0)).trans HZW.out)) (load_o (st3 HOW.out (.slice (some ⟨R1, 0, none⟩) 1 1) (.bool false) (.slice none 0 0)))) rfl ⟨some ⟨R1, 0, none⟩, none, 1, 0, rfl, st3b HBW.out (by omega) (.slice (some ⟨R1, 0, none⟩) 1 1) (.bool false) (.slice none 0 0), fr_one { nK 17 with t := s.t, c := s.c } (by omega) ((st3k (by omega) (.slice (some ⟨R1, 0, none⟩) 1 1) (.bool false) (.slice none 0 0)).trans HR1W.out) (fun _ _ => ntl_plain _ rfl rfl (Nat.zero_le _) (Nat.zero_le _) (Nat.zero_le _)), (fr_nil _ _ _).v⟩
set_option maxRecDepth 100000 in
set_option maxHeartbeats 8000000 in
theorem rtake_l18 (s : Ss) (n : Nt) (ai az : Option Addr) (ci cz : Nat) (w : World) (hk : n.k = 18) : Calls Tryz.prog 25 #[.agg #[.int .i64 4, .string s.n, .string s.d, .int .i64 s.s, .int .i64 s.t, .int .i64 s.c, .int .i64 s.h, .int .i64 s.a, .int .i64 s.e], .agg #[.int .i64 n.k, .string n.n, .string n.x, .string n.d, .int .i64 n.c, .int .i64 n.s, .int .i64 n.e, .int .i64 n.t, .bool n.o, .slice ai n.l.length ci, .slice az n.z.length cz]] w (StV ai az n ({ s with p := 5, h := 0, a := 0 }, ⟨[nK 10, { nK 11 with s := s.s }], false, [n]⟩) w) := by
  have hu : undr 4 = true := rfl
  have q3 : (n.k == 3) = false := by rw [hk]; rfl
  have q6 : (n.k == 6) = false := by rw [hk]; rfl
  have q8 : (n.k == 8) = false := by rw [hk]; rfl
  have q9 : (n.k == 9) = false := by rw [hk]; rfl
  have q18 : (n.k == 18) = true := by rw [hk]; rfl
  have q19 : (n.k == 19) = false := by rw [hk]; rfl
  clear hk
  have CU : Hid (∀ W, Calls Tryz.prog 49 #[.agg #[.int .i64 4, .string s.n, .string s.d, .int .i64 s.s, .int .i64 s.t, .int .i64 s.c, .int .i64 s.h, .int .i64 s.a, .int .i64 s.e]] W (Gives (.bool true) W)) := fun W => by
    have q := rundr_any { s with p := 4 } W
    rw [show undr _ = true from hu] at q
    exact q
  clear hu
  obtain ⟨HB, HX, HN, HZ, HO⟩ := bxFour w #[.int .i64 4, .string s.n, .string s.d, .int .i64 s.s, .int .i64 s.t, .int .i64 s.c, .int .i64 s.h, .int .i64 s.a, .int .i64 s.e] 28 #[.int .i64 n.k, .string n.n, .string n.x, .string n.d, .int .i64 n.c, .int .i64 n.s, .int .i64 n.e, .int .i64 n.t, .bool n.o, .slice ai n.l.length ci, .slice az n.z.length cz] 42 #[.int .i64 0, .string ⟨#[]⟩, .string ⟨#[]⟩, .int .i64 0, .int .i64 0, .int .i64 0, .int .i64 0, .int .i64 0, .int .i64 0] 28 #[.slice none 0 0, .bool false, .slice none 0 0] 31
  obtain ⟨m0, m1, m2, m3, m4, m5, m6, m7, m8⟩ := bx9 HX.out
  go_enter Tryz.func25, Tryz.ntmps25
  go_wp2_with fail
  refine (CU.out _).mono ?_
  rintro e w1 ⟨rfl, hb⟩
  clear m0 m1 m2 m3 m4 m5 m6 m7 m8
  have HX1 := kpB hb HX
  have HN1 := kpB hb HN
  have HZ1 := kpB hb HZ
  have HO1 := kpB hb HO
  have HB1 := Lib.hid (HB.out.trans (hb.mono HB.out.size))
  clear hb HB HX HN HZ HO CU
  obtain ⟨m0, m1, m2, m3, m4, m5, m6, m7, m8⟩ := bx9 HX1.out
  obtain ⟨k0, k1, k2, k3, k4, k5, k6, k7, k8, k9, k10⟩ := bx11 HN1.out
  obtain ⟨f0, f1, f2, f3, f4, f5, f6, f7, f8⟩ := bx9f HX1.out
  have hPx : w.heap.size + 3 < w1.heap.size := heap_lt HO1.out
  go_upto_region 4 with fail
  clear m0 m1 m2 m3 m4 m5 m6 m7 m8 f0 f1 f2 f3 f4 f5 f6 f7 f8
  clear k0 k1 k2 k3 k4 k5 k6 k7 k8 k9 k10
  have HX2 : Hid ((w1.setCell ⟨w.heap.size, 6, none⟩ (.int .i64 0)).heap[w.heap.size]? = some (.cells #[.int .i64 4, .string s.n, .string s.d, .int .i64 s.s, .int .i64 s.t, .int .i64 s.c, .int .i64 0, .int .i64 s.a, .int .i64 s.e] 28 (0, 0))) := by
    show _ = _
    simp [World.setCell, Array.getElem?_modify, HX1.out]
  have HN2 := Lib.hid (kp1 (A := w.heap.size) (i := 6) (u := .int .i64 0) (b := w.heap.size + 1) (by omega) HN1.out)
  have HZ2 := Lib.hid (kp1 (A := w.heap.size) (i := 6) (u := .int .i64 0) (b := w.heap.size + 2) (by omega) HZ1.out)
  have HO2 := Lib.hid (kp1 (A := w.heap.size) (i := 6) (u := .int .i64 0) (b := w.heap.size + 3) (by omega) HO1.out)
  have HB2 := Lib.hid (HB1.out.setCell (p := ⟨w.heap.size, 6, none⟩) (Nat.le_refl _) (.int .i64 0))
  clear HX1 HN1 HZ1 HO1 HB1 hPx
  generalize (w1.setCell ⟨w.heap.size, 6, none⟩ (.int .i64 0)) = w2 at HX2 HN2 HZ2 HO2 HB2 ⊢
  obtain ⟨HD3, HBp⟩ := bxOne w2 #[.slice none 0 0, .bool false, .slice none 0 0] 31
  have HX3 := kpB HBp.out HX2
  have HN3 := kpB HBp.out HN2
  have HZ3 := kpB HBp.out HZ2
  have HO3 := kpB HBp.out HO2
  have HB3 := Lib.hid (HB2.out.trans (HBp.out.mono HB2.out.size))
  have hPy : w.heap.size + 3 < w2.heap.size := heap_lt HO2.out
  go_upto_region 5 with fail
  clear HX2 HN2 HZ2 HO2 HB2 HBp
  generalize (w2.alloc (.cells #[.slice none 0 0, .bool false, .slice none 0 0] 31)) = w3 at HX3 HN3 HZ3 HO3 HD3 HB3 ⊢
  generalize w2.heap.size = A6 at hPy HD3 ⊢
  have hA3 : A6 < w3.heap.size := heap_lt HD3.out
  obtain ⟨m0, m1, m2, m3, m4, m5, m6, m7, m8⟩ := bx9 HX3.out
  obtain ⟨k0, k1, k2, k3, k4, k5, k6, k7, k8, k9, k10⟩ := bx11 HN3.out
  obtain ⟨d0, d1, d2⟩ := bx3 HD3.out
  go_upto_region 11 with fail
  have r0 : ∀ y : Ext w3, y.to.cell? _ = _ := fun y => ext_cell y k0
  have r1 : ∀ y : Ext w3, y.to.cell? _ = _ := fun y => ext_cell y m0
  have hsome := extSome w3
  clear m0 m1 m2 m3 m4 m5 m6 m7 m8
  clear k0 k1 k2 k3 k4 k5 k6 k7 k8 k9 k10
  clear d0 d1 d2
  clear hA3
  refine ext_region (by kernel_rfl) (by kernel_rfl) ?_
  repeat (go_big_quiet_step (fail))
  refine wpQuiet_nil ?_
  rintro _ ⟨y, hy⟩
  subst hy
  have HX4 := kpB y.below HX3
  have HN4 := kpB y.below HN3
  have HZ4 := kpB y.below HZ3
  have HO4 := kpB y.below HO3
  have HD4 := kpB y.below HD3
  have HB4 := Lib.hid (HB3.out.trans (y.below.mono HB3.out.size))
  clear hsome r0 r1 HX3 HN3 HZ3 HO3 HD3 HB3
  generalize y.to = w4 at HX4 HN4 HZ4 HO4 HD4 HB4 ⊢
  clear y
  have hA4 : A6 < w4.heap.size := heap_lt HD4.out
  obtain ⟨m0, m1, m2, m3, m4, m5, m6, m7, m8⟩ := bx9 HX4.out
  obtain ⟨k0, k1, k2, k3, k4, k5, k6, k7, k8, k9, k10⟩ := bx11 HN4.out
  obtain ⟨d0, d1, d2⟩ := bx3 HD4.out
  obtain ⟨f0, f1, f2, f3, f4, f5, f6, f7, f8⟩ := bx9f HX4.out
  go_upto_region 23 with fail
  clear f0 f1 f2 f3 f4 f5 f6 f7 f8
  have HX5 : Hid ((w4.setCell ⟨w.heap.size, 0, none⟩ (.int .i64 5)).heap[w.heap.size]? = some (.cells #[.int .i64 5, .string s.n, .string s.d, .int .i64 s.s, .int .i64 s.t, .int .i64 s.c, .int .i64 0, .int .i64 s.a, .int .i64 s.e] 28 (0, 0))) := by
    show _ = _
    simp only [World.setCell, Array.getElem?_modify, HX4.out]
    simp
  have HN5 := Lib.hid (kp1 (A := w.heap.size) (i := 0) (u := .int .i64 5) (b := w.heap.size + 1) (by omega) HN4.out)
  have HZ5 := Lib.hid (kp1 (A := w.heap.size) (i := 0) (u := .int .i64 5) (b := w.heap.size + 2) (by omega) HZ4.out)
  have HO5 := Lib.hid (kp1 (A := w.heap.size) (i := 0) (u := .int .i64 5) (b := w.heap.size + 3) (by omega) HO4.out)
  have HD5 := Lib.hid (kp1 (A := w.heap.size) (i := 0) (u := .int .i64 5) (b := A6) (by omega) HD4.out)
  have HB5 := Lib.hid (HB4.out.setCell (p := ⟨w.heap.size, 0, none⟩) (show w.heap.size ≤ w.heap.size by omega) (.int .i64 5))
  clear m0 m1 m2 m3 m4 m5 m6 m7 m8
  clear k0 k1 k2 k3 k4 k5 k6 k7 k8 k9 k10
  clear d0 d1 d2
  clear hA4
  clear HX4 HN4 HZ4 HO4 HD4 HB4
  generalize (w4.setCell ⟨w.heap.size, 0, none⟩ (.int .i64 5)) = w5 at HX5 HN5 HZ5 HO5 HD5 HB5 ⊢
  have hA5 : A6 < w5.heap.size := heap_lt HD5.out
  obtain ⟨m0, m1, m2, m3, m4, m5, m6, m7, m8⟩ := bx9 HX5.out
  obtain ⟨k0, k1, k2, k3, k4, k5, k6, k7, k8, k9, k10⟩ := bx11 HN5.out
  obtain ⟨d0, d1, d2⟩ := bx3 HD5.out
  obtain ⟨f0, f1, f2⟩ := bx3f HD5.out
  go_upto_region 24 with fail
  clear f0 f1 f2
  have HDg : Hid ((w5.setCell ⟨A6, 0, none⟩ (.slice (some ⟨w5.heap.size, 0, none⟩) 2 2)).heap[A6]? = some (.cells #[.slice (some ⟨w5.heap.size, 0, none⟩) 2 2, .bool false, .slice none 0 0] 31 (0, 0))) := by
    show _ = _
    simp only [World.setCell, Array.getElem?_modify, HD5.out]
    simp
  have HXg := Lib.hid (kp1 (A := A6) (i := 0) (u := .slice (some ⟨w5.heap.size, 0, none⟩) 2 2) (b := w.heap.size) (by omega) HX5.out)
  have HNg := Lib.hid (kp1 (A := A6) (i := 0) (u := .slice (some ⟨w5.heap.size, 0, none⟩) 2 2) (b := w.heap.size + 1) (by omega) HN5.out)
  have HZg := Lib.hid (kp1 (A := A6) (i := 0) (u := .slice (some ⟨w5.heap.size, 0, none⟩) 2 2) (b := w.heap.size + 2) (by omega) HZ5.out)
  have HOg := Lib.hid (kp1 (A := A6) (i := 0) (u := .slice (some ⟨w5.heap.size, 0, none⟩) 2 2) (b := w.heap.size + 3) (by omega) HO5.out)
  have HBg := Lib.hid (HB5.out.setCell (p := ⟨A6, 0, none⟩) (show w.heap.size ≤ A6 by omega) (.slice (some ⟨w5.heap.size, 0, none⟩) 2 2))
  obtain ⟨HRn, HBn⟩ := bxOne (w5.setCell ⟨A6, 0, none⟩ (.slice (some ⟨w5.heap.size, 0, none⟩) 2 2)) #[.int .i64 10, .string ⟨#[]⟩, .string ⟨#[]⟩, .string ⟨#[]⟩, .int .i64 0, .int .i64 0, .int .i64 0, .int .i64 0, .bool false, .slice none 0 0, .slice none 0 0, .int .i64 11, .string ⟨#[]⟩, .string ⟨#[]⟩, .string ⟨#[]⟩, .int .i64 0, .int .i64 s.s, .int .i64 0, .int .i64 0, .bool false, .slice none 0 0, .slice none 0 0] 42
  have HR16 : Hid (((w5.setCell ⟨A6, 0, none⟩ (.slice (some ⟨w5.heap.size, 0, none⟩) 2 2)).alloc (.cells #[.int .i64 10, .string ⟨#[]⟩, .string ⟨#[]⟩, .string ⟨#[]⟩, .int .i64 0, .int .i64 0, .int .i64 0, .int .i64 0, .bool false, .slice none 0 0, .slice none 0 0, .int .i64 11, .string ⟨#[]⟩, .string ⟨#[]⟩, .string ⟨#[]⟩, .int .i64 0, .int .i64 s.s, .int .i64 0, .int .i64 0, .bool false, .slice none 0 0, .slice none 0 0] 42)).heap[w5.heap.size]? = some (.cells #[.int .i64 10, .string ⟨#[]⟩, .string ⟨#[]⟩, .string ⟨#[]⟩, .int .i64 0, .int .i64 0, .int .i64 0, .int .i64 0, .bool false, .slice none 0 0, .slice none 0 0, .int .i64 11, .string ⟨#[]⟩, .string ⟨#[]⟩, .string ⟨#[]⟩, .int .i64 0, .int .i64 s.s, .int .i64 0, .int .i64 0, .bool false, .slice none 0 0, .slice none 0 0] 42 (0, 0))) := by
    have h := HRn.out
    rw [st_size] at h
    exact h
  have HX6 := kpB HBn.out HXg
  have HN6 := kpB HBn.out HNg
  have HZ6 := kpB HBn.out HZg
  have HO6 := kpB HBn.out HOg
  have HD6 := kpB HBn.out HDg
  have HB6 := Lib.hid (HBg.out.trans (HBn.out.mono (by rw [st_size]; exact HB5.out.size)))
  have hR1 : A6 < w5.heap.size := hA5
  clear m0 m1 m2 m3 m4 m5 m6 m7 m8
  clear k0 k1 k2 k3 k4 k5 k6 k7 k8 k9 k10
  clear d0 d1 d2
  clear hA5
  clear HRn HBn HXg HNg HZg HOg HDg HBg HX5 HN5 HZ5 HO5 HD5 HB5
  generalize ((w5.setCell ⟨A6, 0, none⟩ (.slice (some ⟨w5.heap.size, 0, none⟩) 2 2)).alloc (.cells #[.int .i64 10, .string ⟨#[]⟩, .string ⟨#[]⟩, .string ⟨#[]⟩, .int .i64 0, .int .i64 0, .int .i64 0, .int .i64 0, .bool false, .slice none 0 0, .slice none 0 0, .int .i64 11, .string ⟨#[]⟩, .string ⟨#[]⟩, .string ⟨#[]⟩, .int .i64 0, .int .i64 s.s, .int .i64 0, .int .i64 0, .bool false, .slice none 0 0, .slice none 0 0] 42)) = w6 at HX6 HN6 HZ6 HO6 HD6 HR16 HB6 ⊢
  generalize w5.heap.size = R1 at HD6 HR16 hR1 ⊢
  have hA6 : A6 < w6.heap.size := heap_lt HD6.out
  obtain ⟨m0, m1, m2, m3, m4, m5, m6, m7, m8⟩ := bx9 HX6.out
  obtain ⟨k0, k1, k2, k3, k4, k5, k6, k7, k8, k9, k10⟩ := bx11 HN6.out
  obtain ⟨d0, d1, d2⟩ := bx3 HD6.out
  obtain ⟨f0, f1, f2⟩ := bx3f HD6.out
  go_upto_region 27 with fail
  clear f0 f1 f2
  have HDg : Hid ((w6.setCell ⟨A6, 2, none⟩ (.slice (some ⟨w6.heap.size, 0, none⟩) 1 1)).heap[A6]? = some (.cells #[.slice (some ⟨R1, 0, none⟩) 2 2, .bool false, .slice (some ⟨w6.heap.size, 0, none⟩) 1 1] 31 (0, 0))) := by
    show _ = _
    simp only [World.setCell, Array.getElem?_modify, HD6.out]
    simp
  have HXg := Lib.hid (kp1 (A := A6) (i := 2) (u := .slice (some ⟨w6.heap.size, 0, none⟩) 1 1) (b := w.heap.size) (by omega) HX6.out)
  have HNg := Lib.hid (kp1 (A := A6) (i := 2) (u := .slice (some ⟨w6.heap.size, 0, none⟩) 1 1) (b := w.heap.size + 1) (by omega) HN6.out)
  have HZg := Lib.hid (kp1 (A := A6) (i := 2) (u := .slice (some ⟨w6.heap.size, 0, none⟩) 1 1) (b := w.heap.size + 2) (by omega) HZ6.out)
  have HOg := Lib.hid (kp1 (A := A6) (i := 2) (u := .slice (some ⟨w6.heap.size, 0, none⟩) 1 1) (b := w.heap.size + 3) (by omega) HO6.out)
  have HR1g := Lib.hid (kp1 (A := A6) (i := 2) (u := .slice (some ⟨w6.heap.size, 0, none⟩) 1 1) (b := R1) (by omega) HR16.out)
  have HBg := Lib.hid (HB6.out.setCell (p := ⟨A6, 2, none⟩) (show w.heap.size ≤ A6 by omega) (.slice (some ⟨w6.heap.size, 0, none⟩) 1 1))
  obtain ⟨HRn, HBn⟩ := bxOne (w6.setCell ⟨A6, 2, none⟩ (.slice (some ⟨w6.heap.size, 0, none⟩) 1 1)) #[.int .i64 n.k, .string n.n, .string n.x, .string n.d, .int .i64 n.c, .int .i64 n.s, .int .i64 n.e, .int .i64 n.t, .bool n.o, .slice ai n.l.length ci, .slice az n.z.length cz] 42
  have HR27 : Hid (((w6.setCell ⟨A6, 2, none⟩ (.slice (some ⟨w6.heap.size, 0, none⟩) 1 1)).alloc (.cells #[.int .i64 n.k, .string n.n, .string n.x, .string n.d, .int .i64 n.c, .int .i64 n.s, .int .i64 n.e, .int .i64 n.t, .bool n.o, .slice ai n.l.length ci, .slice az n.z.length cz] 42)).heap[w6.heap.size]? = some (.cells #[.int .i64 n.k, .string n.n, .string n.x, .string n.d, .int .i64 n.c, .int .i64 n.s, .int .i64 n.e, .int .i64 n.t, .bool n.o, .slice ai n.l.length ci, .slice az n.z.length cz] 42 (0, 0))) := by
    have h := HRn.out
    rw [st_size] at h
    exact h
  have HX7 := kpB HBn.out HXg
  have HN7 := kpB HBn.out HNg
  have HZ7 := kpB HBn.out HZg
  have HO7 := kpB HBn.out HOg
  have HD7 := kpB HBn.out HDg
  have HR17 := kpB HBn.out HR1g
  have HB7 := Lib.hid (HBg.out.trans (HBn.out.mono (by rw [st_size]; exact HB6.out.size)))
  have hR2 : A6 < w6.heap.size := hA6
  clear m0 m1 m2 m3 m4 m5 m6 m7 m8
  clear k0 k1 k2 k3 k4 k5 k6 k7 k8 k9 k10
  clear d0 d1 d2
  clear hA6
  clear HRn HBn HXg HNg HZg HOg HDg HR1g HBg HX6 HN6 HZ6 HO6 HD6 HR16 HB6
  generalize ((w6.setCell ⟨A6, 2, none⟩ (.slice (some ⟨w6.heap.size, 0, none⟩) 1 1)).alloc (.cells #[.int .i64 n.k, .string n.n, .string n.x, .string n.d, .int .i64 n.c, .int .i64 n.s, .int .i64 n.e, .int .i64 n.t, .bool n.o, .slice ai n.l.length ci, .slice az n.z.length cz] 42)) = w7 at HX7 HN7 HZ7 HO7 HD7 HR17 HR27 HB7 ⊢
  generalize w6.heap.size = R2 at HD7 HR27 hR2 ⊢
  have hA7 : A6 < w7.heap.size := heap_lt HD7.out
  obtain ⟨m0, m1, m2, m3, m4, m5, m6, m7, m8⟩ := bx9 HX7.out
  obtain ⟨k0, k1, k2, k3, k4, k5, k6, k7, k8, k9, k10⟩ := bx11 HN7.out
  obtain ⟨d0, d1, d2⟩ := bx3 HD7.out
  obtain ⟨f0, f1, f2, f3, f4, f5, f6, f7, f8⟩ := bx9f HX7.out
  go_upto_region 29 with fail
  clear f0 f1 f2 f3 f4 f5 f6 f7 f8
  have HX8 : Hid ((w7.setCell ⟨w.heap.size, 7, none⟩ (.int .i64 0)).heap[w.heap.size]? = some (.cells #[.int .i64 5, .string s.n, .string s.d, .int .i64 s.s, .int .i64 s.t, .int .i64 s.c, .int .i64 0, .int .i64 0, .int .i64 s.e] 28 (0, 0))) := by
    show _ = _
    simp only [World.setCell, Array.getElem?_modify, HX7.out]
    simp
  have HN8 := Lib.hid (kp1 (A := w.heap.size) (i := 7) (u := .int .i64 0) (b := w.heap.size + 1) (by omega) HN7.out)
  have HZ8 := Lib.hid (kp1 (A := w.heap.size) (i := 7) (u := .int .i64 0) (b := w.heap.size + 2) (by omega) HZ7.out)
  have HO8 := Lib.hid (kp1 (A := w.heap.size) (i := 7) (u := .int .i64 0) (b := w.heap.size + 3) (by omega) HO7.out)
  have HD8 := Lib.hid (kp1 (A := w.heap.size) (i := 7) (u := .int .i64 0) (b := A6) (by omega) HD7.out)
  have HR18 := Lib.hid (kp1 (A := w.heap.size) (i := 7) (u := .int .i64 0) (b := R1) (by omega) HR17.out)
  have HR28 := Lib.hid (kp1 (A := w.heap.size) (i := 7) (u := .int .i64 0) (b := R2) (by omega) HR27.out)
  have HB8 := Lib.hid (HB7.out.setCell (p := ⟨w.heap.size, 7, none⟩) (show w.heap.size ≤ w.heap.size by omega) (.int .i64 0))
  clear m0 m1 m2 m3 m4 m5 m6 m7 m8
  clear k0 k1 k2 k3 k4 k5 k6 k7 k8 k9 k10
  clear d0 d1 d2
  clear hA7
  clear HX7 HN7 HZ7 HO7 HD7 HR17 HR27 HB7
  generalize (w7.setCell ⟨w.heap.size, 7, none⟩ (.int .i64 0)) = w8 at HX8 HN8 HZ8 HO8 HD8 HR18 HR28 HB8 ⊢
  have hA8 : A6 < w8.heap.size := heap_lt HD8.out
  obtain ⟨m0, m1, m2, m3, m4, m5, m6, m7, m8⟩ := bx9 HX8.out
  obtain ⟨k0, k1, k2, k3, k4, k5, k6, k7, k8, k9, k10⟩ := bx11 HN8.out
  obtain ⟨d0, d1, d2⟩ := bx3 HD8.out
  clear m0 m1 m2 m3 m4 m5 m6 m7 m8
  clear k0 k1 k2 k3 k4 k5 k6 k7 k8 k9 k10
  clear d0 d1 d2
  clear hA8
  have hZN : w.heap.size + 1 + 1 < w8.heap.size := heap_lt HZ8.out
  have hAN : A6 < w8.heap.size := heap_lt HD8.out
  refine region_Z (w := w) (Z := w.heap.size + 1 + 1) 3 2 (fun j => [140, 141, 100002].getD j 0) [140, 141] [.eq (.agg #[.int .i64 5, .string s.n, .string s.d, .int .i64 s.s, .int .i64 s.t, .int .i64 s.c, .int .i64 0, .int .i64 0, .int .i64 s.e]), .eq (.agg #[.slice (some ⟨R1, 0, none⟩) 2 2, .bool false, .slice (some ⟨R2, 0, none⟩) 1 1]), .st #[.int .i64 5, .string s.n, .string s.d, .int .i64 s.s, .int .i64 s.t, .int .i64 s.c, .int .i64 0, .int .i64 0, .int .i64 s.e]] (by kernel_rfl) (by kernel_rfl) (by kernel_rfl) (by kernel_rfl) (by decide) (by kernel_rfl) (by kernel_rfl) (by kernel_rfl) (by kernel_rfl) (fun h => absurd (show 2 < 3 by decide) h) HB8.out HZ8.out ?_ ?_
  · intro i o hi ho q W hsz hout hJ hZ0 hdep
    have HXW := oldJ hJ (by omega) HX8
    obtain ⟨x0, x1, x2, x3, x4, x5, x6, x7, x8⟩ := bx9 HXW.out
    have HDW := oldJ hJ (by omega) HD8
    obtain ⟨y0, y1, y2⟩ := bx3 HDW.out
    have hc : i = 0 ∨ i = 1 ∨ i = 2 := by omega
    rcases hc with rfl | rfl | rfl
    · -- 0
      cases ho
      refine plainR (by decide) ?_
      have e2 : q.eval (.tmp 2) = .pointer (some ⟨w.heap.size, 0, none⟩) := (hout 2 (by decide)).trans rfl
      refine gives_read (v := .agg #[.int .i64 5, .string s.n, .string s.d, .int .i64 s.s, .int .i64 s.t, .int .i64 s.c, .int .i64 0, .int .i64 0, .int .i64 s.e]) ?_ rfl
      unfold execOp
      dsimp only
      rw [e2]
      go_simp
    · -- 1
      cases ho
      refine plainR (by decide) ?_
      have e6 : q.eval (.tmp 6) = .pointer (some ⟨A6, 0, none⟩) := (hout 6 (by decide)).trans rfl
      refine gives_read (v := .agg #[.slice (some ⟨R1, 0, none⟩) 2 2, .bool false, .slice (some ⟨R2, 0, none⟩) 1 1]) ?_ rfl
      unfold execOp
      dsimp only
      rw [e6]
      go_simp
    · -- 2
      cases ho
      have e4 : q.eval (.tmp 4) = .pointer (some ⟨w.heap.size + 1 + 1, 0, none⟩) := (hout 4 (by decide)).trans rfl
      have e140 : q.eval (.tmp 140) = .agg #[.int .i64 5, .string s.n, .string s.d, .int .i64 s.s, .int .i64 s.t, .int .i64 s.c, .int .i64 0, .int .i64 0, .int .i64 s.e] := hdep ⟨0, .data⟩ (by simp) rfl (by decide)
      have hz := hZ0 (by kernel_rfl)
      obtain ⟨zc0, zc1, zc2, zc3, zc4, zc5, zc6, zc7, zc8⟩ := bx9 hz
      obtain ⟨zf0, zf1, zf2, zf3, zf4, zf5, zf6, zf7, zf8⟩ := bx9f hz
      refine givesR_skip ?_ (stZ_of (by omega) hz (.int .i64 5) (.string s.n) (.string s.d) (.int .i64 s.s) (.int .i64 s.t) (.int .i64 s.c) (.int .i64 0) (.int .i64 0) (.int .i64 s.e)) (st9 hz (.int .i64 5) (.string s.n) (.string s.d) (.int .i64 s.s) (.int .i64 s.t) (.int .i64 s.c) (.int .i64 0) (.int .i64 0) (.int .i64 s.e))
      unfold execOp
      dsimp only
      rw [e4, e140]
      go_simp
  · intro q W hq hJ hv
    have e141 : q.eval (.tmp 141) = .agg #[.slice (some ⟨R1, 0, none⟩) 2 2, .bool false, .slice (some ⟨R2, 0, none⟩) 1 1] := hv 1 (by decide)
    have hZW : W.heap[w.heap.size + 1 + 1]? = some (.cells #[.int .i64 5, .string s.n, .string s.d, .int .i64 s.s, .int .i64 s.t, .int .i64 s.c, .int .i64 0, .int .i64 0, .int .i64 s.e] 28 (0, 0)) := hv 2 (by decide)
    have HBW := Lib.hid hJ.bel
    have HOW := oldJ hJ (by omega) HO8
    have HZW := Lib.hid hZW
    have HR1W := oldJ hJ (by omega) HR18
    have HR2W := oldJ hJ (by omega) HR28
    clear hJ hZW HX8 HN8 HZ8 HO8 HD8 HR18 HR28
    have hq2 : q = canonL q [140, 141] _ := hq
    simp only [canonL] at hq2
    rw [e141] at hq2
    clear hq hv e141
    generalize q.eval (.tmp 140) = u140 at hq2
    subst hq2
    obtain ⟨y0, y1, y2⟩ := bx3 HOW.out
    obtain ⟨v0, v1, v2⟩ := bx3f HOW.out
    simp only [List.drop_succ_cons, List.drop_zero]
    go_wp2_with fail
    exact bodyPost_ret (results_two Tryz.results25 _ _ (w.heap.size + 2) (w.heap.size + 3) _ _ rfl rfl (load_s ((st3k (by omega) (.slice (some ⟨R1, 0, none⟩) 2 2) (.bool false) (.slice (some ⟨R2, 0, none⟩) 1 1)).trans HZW.out)) (load_o (st3 HOW.out (.slice (some ⟨R1, 0, none⟩) 2 2) (.bool false) (.slice (some ⟨R2, 0, none⟩) 1 1)))) rfl ⟨some ⟨R1, 0, none⟩, some ⟨R2, 0, none⟩, 2, 1, rfl, st3b HBW.out (by omega) (.slice (some ⟨R1, 0, none⟩) 2 2) (.bool false) (.slice (some ⟨R2, 0, none⟩) 1 1), fr_two (nK 10) { nK 11 with s := s.s } (by omega) ((st3k (by omega) (.slice (some ⟨R1, 0, none⟩) 2 2) (.bool false) (.slice (some ⟨R2, 0, none⟩) 1 1)).trans HR1W.out) (fun _ _ => ntl_plain _ rfl rfl (Nat.zero_le _) (Nat.zero_le _) (Nat.zero_le _)) (fun _ _ => ntl_plain _ rfl rfl (Nat.zero_le _) (Nat.zero_le _) (Nat.zero_le _)), fv_one n (by omega) ((st3k (by omega) (.slice (some ⟨R1, 0, none⟩) 2 2) (.bool false) (.slice (some ⟨R2, 0, none⟩) 1 1)).trans HR2W.out)⟩
set_option maxRecDepth 100000 in
set_option maxHeartbeats 8000000 in
theorem rtake_let0 (s : Ss) (n : Nt) (ai az : Option Addr) (ci cz : Nat) (w : World) (h1 : n.n.size ≤ 1048576) (h2 : s.n.size ≤ 1048576) (hm : smN n.n s.n = true) (hk : n.k = 8) (hc : n.c = 0) (hd : n.d.size ≤ 1000000) : Calls Tryz.prog 25 #[.agg #[.int .i64 2, .string s.n, .string s.d, .int .i64 s.s, .int .i64 s.t, .int .i64 s.c, .int .i64 s.h, .int .i64 s.a, .int .i64 s.e], .agg #[.int .i64 n.k, .string n.n, .string n.x, .string n.d, .int .i64 n.c, .int .i64 n.s, .int .i64 n.e, .int .i64 n.t, .bool n.o, .slice ai n.l.length ci, .slice az n.z.length cz]] w (StV ai az n ({ s with p := 3, h := 0, a := 0 }, ⟨[{ nK 2 with d := n.d }], true, []⟩) w) := by
  have hu : undr 2 = true := rfl
  have q3 : (n.k == 3) = false := by rw [hk]; rfl
  have q6 : (n.k == 6) = false := by rw [hk]; rfl
  have q8 : (n.k == 8) = true := by rw [hk]; rfl
  have q9 : (n.k == 9) = false := by rw [hk]; rfl
  have q18 : (n.k == 18) = false := by rw [hk]; rfl
  have q19 : (n.k == 19) = false := by rw [hk]; rfl
  clear hk
  have HS := Lib.hid (mk_beq (Hd.nl n.n.data.toList) (Hd.nl s.n.data.toList))
  have C1 : Hid (∀ W, Calls Tryz.prog 44 #[.string n.n] W (Gives (.string (_root_.Go.Proofs.YthbeempmdpfnmaaGreatDoor.mk (Hd.nl n.n.data.toList))) W)) := Lib.hid fun W => rhNorm_any n.n W h1
  have C2 : Hid (∀ W, Calls Tryz.prog 44 #[.string s.n] W (Gives (.string (_root_.Go.Proofs.YthbeempmdpfnmaaGreatDoor.mk (Hd.nl s.n.data.toList))) W)) := Lib.hid fun W => rhNorm_any s.n W h2
  rw [show decide (Hd.nl n.n.data.toList = Hd.nl s.n.data.toList) = true from hm] at HS
  generalize _root_.Go.Proofs.YthbeempmdpfnmaaGreatDoor.mk (Hd.nl n.n.data.toList) = S1 at HS C1
  generalize _root_.Go.Proofs.YthbeempmdpfnmaaGreatDoor.mk (Hd.nl s.n.data.toList) = S2 at HS C2
  have hs12 := HS.out
  clear HS h1 h2 hm
  have hcb : bne n.c 0 = false := by rw [hc]; rfl
  have hcc : (n.c == 0) = true := by rw [hc]; rfl
  clear hc
  have CU : Hid (∀ W, Calls Tryz.prog 49 #[.agg #[.int .i64 2, .string s.n, .string s.d, .int .i64 s.s, .int .i64 s.t, .int .i64 s.c, .int .i64 s.h, .int .i64 s.a, .int .i64 s.e]] W (Gives (.bool true) W)) := fun W => by
    have q := rundr_any { s with p := 2 } W
    rw [show undr _ = true from hu] at q
    exact q
  clear hu
  obtain ⟨HB, HX, HN, HZ, HO⟩ := bxFour w #[.int .i64 2, .string s.n, .string s.d, .int .i64 s.s, .int .i64 s.t, .int .i64 s.c, .int .i64 s.h, .int .i64 s.a, .int .i64 s.e] 28 #[.int .i64 n.k, .string n.n, .string n.x, .string n.d, .int .i64 n.c, .int .i64 n.s, .int .i64 n.e, .int .i64 n.t, .bool n.o, .slice ai n.l.length ci, .slice az n.z.length cz] 42 #[.int .i64 0, .string ⟨#[]⟩, .string ⟨#[]⟩, .int .i64 0, .int .i64 0, .int .i64 0, .int .i64 0, .int .i64 0, .int .i64 0] 28 #[.slice none 0 0, .bool false, .slice none 0 0] 31
  obtain ⟨m0, m1, m2, m3, m4, m5, m6, m7, m8⟩ := bx9 HX.out
  go_enter Tryz.func25, Tryz.ntmps25
  go_wp2_with fail
  refine (CU.out _).mono ?_
  rintro e w1 ⟨rfl, hb⟩
  clear m0 m1 m2 m3 m4 m5 m6 m7 m8
  have HX1 := kpB hb HX
  have HN1 := kpB hb HN
  have HZ1 := kpB hb HZ
  have HO1 := kpB hb HO
  have HB1 := Lib.hid (HB.out.trans (hb.mono HB.out.size))
  clear hb HB HX HN HZ HO CU
  obtain ⟨m0, m1, m2, m3, m4, m5, m6, m7, m8⟩ := bx9 HX1.out
  obtain ⟨k0, k1, k2, k3, k4, k5, k6, k7, k8, k9, k10⟩ := bx11 HN1.out
  obtain ⟨f0, f1, f2, f3, f4, f5, f6, f7, f8⟩ := bx9f HX1.out
  have hPx : w.heap.size + 3 < w1.heap.size := heap_lt HO1.out
  go_upto_region 4 with fail
  clear m0 m1 m2 m3 m4 m5 m6 m7 m8 f0 f1 f2 f3 f4 f5 f6 f7 f8
  clear k0 k1 k2 k3 k4 k5 k6 k7 k8 k9 k10
  have HX2 : Hid ((w1.setCell ⟨w.heap.size, 6, none⟩ (.int .i64 0)).heap[w.heap.size]? = some (.cells #[.int .i64 2, .string s.n, .string s.d, .int .i64 s.s, .int .i64 s.t, .int .i64 s.c, .int .i64 0, .int .i64 s.a, .int .i64 s.e] 28 (0, 0))) := by
    show _ = _
    simp [World.setCell, Array.getElem?_modify, HX1.out]
  have HN2 := Lib.hid (kp1 (A := w.heap.size) (i := 6) (u := .int .i64 0) (b := w.heap.size + 1) (by omega) HN1.out)
  have HZ2 := Lib.hid (kp1 (A := w.heap.size) (i := 6) (u := .int .i64 0) (b := w.heap.size + 2) (by omega) HZ1.out)
  have HO2 := Lib.hid (kp1 (A := w.heap.size) (i := 6) (u := .int .i64 0) (b := w.heap.size + 3) (by omega) HO1.out)
  have HB2 := Lib.hid (HB1.out.setCell (p := ⟨w.heap.size, 6, none⟩) (Nat.le_refl _) (.int .i64 0))
  clear HX1 HN1 HZ1 HO1 HB1 hPx
  generalize (w1.setCell ⟨w.heap.size, 6, none⟩ (.int .i64 0)) = w2 at HX2 HN2 HZ2 HO2 HB2 ⊢
  obtain ⟨HD3, HBp⟩ := bxOne w2 #[.slice none 0 0, .bool false, .slice none 0 0] 31
  have HX3 := kpB HBp.out HX2
  have HN3 := kpB HBp.out HN2
  have HZ3 := kpB HBp.out HZ2
  have HO3 := kpB HBp.out HO2
  have HB3 := Lib.hid (HB2.out.trans (HBp.out.mono HB2.out.size))
  have hPy : w.heap.size + 3 < w2.heap.size := heap_lt HO2.out
  go_upto_region 5 with fail
  clear HX2 HN2 HZ2 HO2 HB2 HBp
  generalize (w2.alloc (.cells #[.slice none 0 0, .bool false, .slice none 0 0] 31)) = w3 at HX3 HN3 HZ3 HO3 HD3 HB3 ⊢
  generalize w2.heap.size = A6 at hPy HD3 ⊢
  have hA3 : A6 < w3.heap.size := heap_lt HD3.out
  obtain ⟨m0, m1, m2, m3, m4, m5, m6, m7, m8⟩ := bx9 HX3.out
  obtain ⟨k0, k1, k2, k3, k4, k5, k6, k7, k8, k9, k10⟩ := bx11 HN3.out
  obtain ⟨d0, d1, d2⟩ := bx3 HD3.out
  go_upto_region 11 with fail
  have r0 : ∀ y : Ext w3, y.to.cell? _ = _ := fun y => ext_cell y k0
  have r1 : ∀ y : Ext w3, y.to.cell? _ = _ := fun y => ext_cell y m0
  have r2 : ∀ y : Ext w3, y.to.cell? _ = _ := fun y => ext_cell y k1
  have r3 : ∀ y : Ext w3, y.to.cell? _ = _ := fun y => ext_cell y m1
  have X0 : Hid (Xc w3 44 #[.string n.n] (.string S1)) := fun y => C1.out y.to
  have X1 : Hid (Xc w3 44 #[.string s.n] (.string S2)) := fun y => C2.out y.to
  have hsome := extSome w3
  clear m0 m1 m2 m3 m4 m5 m6 m7 m8
  clear k0 k1 k2 k3 k4 k5 k6 k7 k8 k9 k10
  clear d0 d1 d2
  clear hA3
  refine ext_region (by kernel_rfl) (by kernel_rfl) ?_
  repeat (go_big_quiet_step ((first | (go_at_call 44; with_reducible exact ext_call _ (X0.out _)) | (go_at_call 44; with_reducible exact ext_call _ (X1.out _)))))
  refine wpQuiet_nil ?_
  rintro _ ⟨y, hy⟩
  subst hy
  have HX4 := kpB y.below HX3
  have HN4 := kpB y.below HN3
  have HZ4 := kpB y.below HZ3
  have HO4 := kpB y.below HO3
  have HD4 := kpB y.below HD3
  have HB4 := Lib.hid (HB3.out.trans (y.below.mono HB3.out.size))
  clear hsome r0 r1 r2 r3 X0 X1 C1 C2 HX3 HN3 HZ3 HO3 HD3 HB3
  generalize y.to = w4 at HX4 HN4 HZ4 HO4 HD4 HB4 ⊢
  clear y
  have hA4 : A6 < w4.heap.size := heap_lt HD4.out
  obtain ⟨m0, m1, m2, m3, m4, m5, m6, m7, m8⟩ := bx9 HX4.out
  obtain ⟨k0, k1, k2, k3, k4, k5, k6, k7, k8, k9, k10⟩ := bx11 HN4.out
  obtain ⟨d0, d1, d2⟩ := bx3 HD4.out
  obtain ⟨f0, f1, f2, f3, f4, f5, f6, f7, f8⟩ := bx9f HX4.out
  go_upto_region 16 with fail
  clear f0 f1 f2 f3 f4 f5 f6 f7 f8
  have HX5 : Hid ((w4.setCell ⟨w.heap.size, 0, none⟩ (.int .i64 3)).heap[w.heap.size]? = some (.cells #[.int .i64 3, .string s.n, .string s.d, .int .i64 s.s, .int .i64 s.t, .int .i64 s.c, .int .i64 0, .int .i64 s.a, .int .i64 s.e] 28 (0, 0))) := by
    show _ = _
    simp only [World.setCell, Array.getElem?_modify, HX4.out]
    simp
  have HN5 := Lib.hid (kp1 (A := w.heap.size) (i := 0) (u := .int .i64 3) (b := w.heap.size + 1) (by omega) HN4.out)
  have HZ5 := Lib.hid (kp1 (A := w.heap.size) (i := 0) (u := .int .i64 3) (b := w.heap.size + 2) (by omega) HZ4.out)
  have HO5 := Lib.hid (kp1 (A := w.heap.size) (i := 0) (u := .int .i64 3) (b := w.heap.size + 3) (by omega) HO4.out)
  have HD5 := Lib.hid (kp1 (A := w.heap.size) (i := 0) (u := .int .i64 3) (b := A6) (by omega) HD4.out)
  have HB5 := Lib.hid (HB4.out.setCell (p := ⟨w.heap.size, 0, none⟩) (show w.heap.size ≤ w.heap.size by omega) (.int .i64 3))
  clear m0 m1 m2 m3 m4 m5 m6 m7 m8
  clear k0 k1 k2 k3 k4 k5 k6 k7 k8 k9 k10
  clear d0 d1 d2
  clear hA4
  clear HX4 HN4 HZ4 HO4 HD4 HB4
  generalize (w4.setCell ⟨w.heap.size, 0, none⟩ (.int .i64 3)) = w5 at HX5 HN5 HZ5 HO5 HD5 HB5 ⊢
  have hA5 : A6 < w5.heap.size := heap_lt HD5.out
  obtain ⟨m0, m1, m2, m3, m4, m5, m6, m7, m8⟩ := bx9 HX5.out
  obtain ⟨k0, k1, k2, k3, k4, k5, k6, k7, k8, k9, k10⟩ := bx11 HN5.out
  obtain ⟨d0, d1, d2⟩ := bx3 HD5.out
  obtain ⟨f0, f1, f2⟩ := bx3f HD5.out
  go_upto_region 17 with fail
  clear f0 f1 f2
  have HDg : Hid ((w5.setCell ⟨A6, 0, none⟩ (.slice (some ⟨w5.heap.size, 0, none⟩) 1 1)).heap[A6]? = some (.cells #[.slice (some ⟨w5.heap.size, 0, none⟩) 1 1, .bool false, .slice none 0 0] 31 (0, 0))) := by
    show _ = _
    simp only [World.setCell, Array.getElem?_modify, HD5.out]
    simp
  have HXg := Lib.hid (kp1 (A := A6) (i := 0) (u := .slice (some ⟨w5.heap.size, 0, none⟩) 1 1) (b := w.heap.size) (by omega) HX5.out)
  have HNg := Lib.hid (kp1 (A := A6) (i := 0) (u := .slice (some ⟨w5.heap.size, 0, none⟩) 1 1) (b := w.heap.size + 1) (by omega) HN5.out)
  have HZg := Lib.hid (kp1 (A := A6) (i := 0) (u := .slice (some ⟨w5.heap.size, 0, none⟩) 1 1) (b := w.heap.size + 2) (by omega) HZ5.out)
  have HOg := Lib.hid (kp1 (A := A6) (i := 0) (u := .slice (some ⟨w5.heap.size, 0, none⟩) 1 1) (b := w.heap.size + 3) (by omega) HO5.out)
  have HBg := Lib.hid (HB5.out.setCell (p := ⟨A6, 0, none⟩) (show w.heap.size ≤ A6 by omega) (.slice (some ⟨w5.heap.size, 0, none⟩) 1 1))
  obtain ⟨HRn, HBn⟩ := bxOne (w5.setCell ⟨A6, 0, none⟩ (.slice (some ⟨w5.heap.size, 0, none⟩) 1 1)) #[.int .i64 2, .string ⟨#[]⟩, .string ⟨#[]⟩, .string n.d, .int .i64 0, .int .i64 0, .int .i64 0, .int .i64 0, .bool false, .slice none 0 0, .slice none 0 0] 42
  have HR16 : Hid (((w5.setCell ⟨A6, 0, none⟩ (.slice (some ⟨w5.heap.size, 0, none⟩) 1 1)).alloc (.cells #[.int .i64 2, .string ⟨#[]⟩, .string ⟨#[]⟩, .string n.d, .int .i64 0, .int .i64 0, .int .i64 0, .int .i64 0, .bool false, .slice none 0 0, .slice none 0 0] 42)).heap[w5.heap.size]? = some (.cells #[.int .i64 2, .string ⟨#[]⟩, .string ⟨#[]⟩, .string n.d, .int .i64 0, .int .i64 0, .int .i64 0, .int .i64 0, .bool false, .slice none 0 0, .slice none 0 0] 42 (0, 0))) := by
    have h := HRn.out
    rw [st_size] at h
    exact h
  have HX6 := kpB HBn.out HXg
  have HN6 := kpB HBn.out HNg
  have HZ6 := kpB HBn.out HZg
  have HO6 := kpB HBn.out HOg
  have HD6 := kpB HBn.out HDg
  have HB6 := Lib.hid (HBg.out.trans (HBn.out.mono (by rw [st_size]; exact HB5.out.size)))
  have hR1 : A6 < w5.heap.size := hA5
  clear m0 m1 m2 m3 m4 m5 m6 m7 m8
  clear k0 k1 k2 k3 k4 k5 k6 k7 k8 k9 k10
  clear d0 d1 d2
  clear hA5
  clear HRn HBn HXg HNg HZg HOg HDg HBg HX5 HN5 HZ5 HO5 HD5 HB5
  generalize ((w5.setCell ⟨A6, 0, none⟩ (.slice (some ⟨w5.heap.size, 0, none⟩) 1 1)).alloc (.cells #[.int .i64 2, .string ⟨#[]⟩, .string ⟨#[]⟩, .string n.d, .int .i64 0, .int .i64 0, .int .i64 0, .int .i64 0, .bool false, .slice none 0 0, .slice none 0 0] 42)) = w6 at HX6 HN6 HZ6 HO6 HD6 HR16 HB6 ⊢
  generalize w5.heap.size = R1 at HD6 HR16 hR1 ⊢
  have hA6 : A6 < w6.heap.size := heap_lt HD6.out
  obtain ⟨m0, m1, m2, m3, m4, m5, m6, m7, m8⟩ := bx9 HX6.out
  obtain ⟨k0, k1, k2, k3, k4, k5, k6, k7, k8, k9, k10⟩ := bx11 HN6.out
  obtain ⟨d0, d1, d2⟩ := bx3 HD6.out
  obtain ⟨f0, f1, f2⟩ := bx3f HD6.out
  go_upto_region 27 with fail
  clear f0 f1 f2
  have HD7 : Hid ((w6.setCell ⟨A6, 1, none⟩ (.bool true)).heap[A6]? = some (.cells #[.slice (some ⟨R1, 0, none⟩) 1 1, .bool true, .slice none 0 0] 31 (0, 0))) := by
    show _ = _
    simp only [World.setCell, Array.getElem?_modify, HD6.out]
    simp
  have HX7 := Lib.hid (kp1 (A := A6) (i := 1) (u := .bool true) (b := w.heap.size) (by omega) HX6.out)
  have HN7 := Lib.hid (kp1 (A := A6) (i := 1) (u := .bool true) (b := w.heap.size + 1) (by omega) HN6.out)
  have HZ7 := Lib.hid (kp1 (A := A6) (i := 1) (u := .bool true) (b := w.heap.size + 2) (by omega) HZ6.out)
  have HO7 := Lib.hid (kp1 (A := A6) (i := 1) (u := .bool true) (b := w.heap.size + 3) (by omega) HO6.out)
  have HR17 := Lib.hid (kp1 (A := A6) (i := 1) (u := .bool true) (b := R1) (by omega) HR16.out)
  have HB7 := Lib.hid (HB6.out.setCell (p := ⟨A6, 1, none⟩) (show w.heap.size ≤ A6 by omega) (.bool true))
  clear m0 m1 m2 m3 m4 m5 m6 m7 m8
  clear k0 k1 k2 k3 k4 k5 k6 k7 k8 k9 k10
  clear d0 d1 d2
  clear hA6
  clear HX6 HN6 HZ6 HO6 HD6 HR16 HB6
  generalize (w6.setCell ⟨A6, 1, none⟩ (.bool true)) = w7 at HX7 HN7 HZ7 HO7 HD7 HR17 HB7 ⊢
  have hA7 : A6 < w7.heap.size := heap_lt HD7.out
  obtain ⟨m0, m1, m2, m3, m4, m5, m6, m7, m8⟩ := bx9 HX7.out
  obtain ⟨k0, k1, k2, k3, k4, k5, k6, k7, k8, k9, k10⟩ := bx11 HN7.out
  obtain ⟨d0, d1, d2⟩ := bx3 HD7.out
  obtain ⟨f0, f1, f2, f3, f4, f5, f6, f7, f8⟩ := bx9f HX7.out
  go_upto_region 29 with fail
  clear f0 f1 f2 f3 f4 f5 f6 f7 f8
  have HX8 : Hid ((w7.setCell ⟨w.heap.size, 7, none⟩ (.int .i64 0)).heap[w.heap.size]? = some (.cells #[.int .i64 3, .string s.n, .string s.d, .int .i64 s.s, .int .i64 s.t, .int .i64 s.c, .int .i64 0, .int .i64 0, .int .i64 s.e] 28 (0, 0))) := by
    show _ = _
    simp only [World.setCell, Array.getElem?_modify, HX7.out]
    simp
  have HN8 := Lib.hid (kp1 (A := w.heap.size) (i := 7) (u := .int .i64 0) (b := w.heap.size + 1) (by omega) HN7.out)
  have HZ8 := Lib.hid (kp1 (A := w.heap.size) (i := 7) (u := .int .i64 0) (b := w.heap.size + 2) (by omega) HZ7.out)
  have HO8 := Lib.hid (kp1 (A := w.heap.size) (i := 7) (u := .int .i64 0) (b := w.heap.size + 3) (by omega) HO7.out)
  have HD8 := Lib.hid (kp1 (A := w.heap.size) (i := 7) (u := .int .i64 0) (b := A6) (by omega) HD7.out)
  have HR18 := Lib.hid (kp1 (A := w.heap.size) (i := 7) (u := .int .i64 0) (b := R1) (by omega) HR17.out)
  have HB8 := Lib.hid (HB7.out.setCell (p := ⟨w.heap.size, 7, none⟩) (show w.heap.size ≤ w.heap.size by omega) (.int .i64 0))
  clear m0 m1 m2 m3 m4 m5 m6 m7 m8
  clear k0 k1 k2 k3 k4 k5 k6 k7 k8 k9 k10
  clear d0 d1 d2
  clear hA7
  clear HX7 HN7 HZ7 HO7 HD7 HR17 HB7
  generalize (w7.setCell ⟨w.heap.size, 7, none⟩ (.int .i64 0)) = w8 at HX8 HN8 HZ8 HO8 HD8 HR18 HB8 ⊢
  have hA8 : A6 < w8.heap.size := heap_lt HD8.out
  obtain ⟨m0, m1, m2, m3, m4, m5, m6, m7, m8⟩ := bx9 HX8.out
  obtain ⟨k0, k1, k2, k3, k4, k5, k6, k7, k8, k9, k10⟩ := bx11 HN8.out
  obtain ⟨d0, d1, d2⟩ := bx3 HD8.out
  clear m0 m1 m2 m3 m4 m5 m6 m7 m8
  clear k0 k1 k2 k3 k4 k5 k6 k7 k8 k9 k10
  clear d0 d1 d2
  clear hA8
  have hZN : w.heap.size + 1 + 1 < w8.heap.size := heap_lt HZ8.out
  have hAN : A6 < w8.heap.size := heap_lt HD8.out
  refine region_Z (w := w) (Z := w.heap.size + 1 + 1) 3 2 (fun j => [140, 141, 100002].getD j 0) [140, 141] [.eq (.agg #[.int .i64 3, .string s.n, .string s.d, .int .i64 s.s, .int .i64 s.t, .int .i64 s.c, .int .i64 0, .int .i64 0, .int .i64 s.e]), .eq (.agg #[.slice (some ⟨R1, 0, none⟩) 1 1, .bool true, .slice none 0 0]), .st #[.int .i64 3, .string s.n, .string s.d, .int .i64 s.s, .int .i64 s.t, .int .i64 s.c, .int .i64 0, .int .i64 0, .int .i64 s.e]] (by kernel_rfl) (by kernel_rfl) (by kernel_rfl) (by kernel_rfl) (by decide) (by kernel_rfl) (by kernel_rfl) (by kernel_rfl) (by kernel_rfl) (fun h => absurd (show 2 < 3 by decide) h) HB8.out HZ8.out ?_ ?_
  · intro i o hi ho q W hsz hout hJ hZ0 hdep
    have HXW := oldJ hJ (by omega) HX8
    obtain ⟨x0, x1, x2, x3, x4, x5, x6, x7, x8⟩ := bx9 HXW.out
    have HDW := oldJ hJ (by omega) HD8
    obtain ⟨y0, y1, y2⟩ := bx3 HDW.out
    have hc : i = 0 ∨ i = 1 ∨ i = 2 := by omega
    rcases hc with rfl | rfl | rfl
    · -- 0
      cases ho
      refine plainR (by decide) ?_
      have e2 : q.eval (.tmp 2) = .pointer (some ⟨w.heap.size, 0, none⟩) := (hout 2 (by decide)).trans rfl
      refine gives_read (v := .agg #[.int .i64 3, .string s.n, .string s.d, .int .i64 s.s, .int .i64 s.t, .int .i64 s.c, .int .i64 0, .int .i64 0, .int .i64 s.e]) ?_ rfl
      unfold execOp
      dsimp only
      rw [e2]
      go_simp
    · -- 1
      cases ho
      refine plainR (by decide) ?_
      have e6 : q.eval (.tmp 6) = .pointer (some ⟨A6, 0, none⟩) := (hout 6 (by decide)).trans rfl
      refine gives_read (v := .agg #[.slice (some ⟨R1, 0, none⟩) 1 1, .bool true, .slice none 0 0]) ?_ rfl
      unfold execOp
      dsimp only
      rw [e6]
      go_simp
    · -- 2
      cases ho
      have e4 : q.eval (.tmp 4) = .pointer (some ⟨w.heap.size + 1 + 1, 0, none⟩) := (hout 4 (by decide)).trans rfl
      have e140 : q.eval (.tmp 140) = .agg #[.int .i64 3, .string s.n, .string s.d, .int .i64 s.s, .int .i64 s.t, .int .i64 s.c, .int .i64 0, .int .i64 0, .int .i64 s.e] := hdep ⟨0, .data⟩ (by simp) rfl (by decide)
      have hz := hZ0 (by kernel_rfl)
      obtain ⟨zc0, zc1, zc2, zc3, zc4, zc5, zc6, zc7, zc8⟩ := bx9 hz
      obtain ⟨zf0, zf1, zf2, zf3, zf4, zf5, zf6, zf7, zf8⟩ := bx9f hz
      refine givesR_skip ?_ (stZ_of (by omega) hz (.int .i64 3) (.string s.n) (.string s.d) (.int .i64 s.s) (.int .i64 s.t) (.int .i64 s.c) (.int .i64 0) (.int .i64 0) (.int .i64 s.e)) (st9 hz (.int .i64 3) (.string s.n) (.string s.d) (.int .i64 s.s) (.int .i64 s.t) (.int .i64 s.c) (.int .i64 0) (.int .i64 0) (.int .i64 s.e))
      unfold execOp
      dsimp only
      rw [e4, e140]
      go_simp
  · intro q W hq hJ hv
    have e141 : q.eval (.tmp 141) = .agg #[.slice (some ⟨R1, 0, none⟩) 1 1, .bool true, .slice none 0 0] := hv 1 (by decide)
    have hZW : W.heap[w.heap.size + 1 + 1]? = some (.cells #[.int .i64 3, .string s.n, .string s.d, .int .i64 s.s, .int .i64 s.t, .int .i64 s.c, .int .i64 0, .int .i64 0, .int .i64 s.e] 28 (0, 0)) := hv 2 (by decide)
    have HBW := Lib.hid hJ.bel
    have HOW := oldJ hJ (by omega) HO8
    have HZW := Lib.hid hZW
    have HR1W := oldJ hJ (by omega) HR18
    clear hJ hZW HX8 HN8 HZ8 HO8 HD8 HR18
    have hq2 : q = canonL q [140, 141] _ := hq
    simp only [canonL] at hq2
    rw [e141] at hq2
    clear hq hv e141
    generalize q.eval (.tmp 140) = u140 at hq2
    subst hq2
    obtain ⟨y0, y1, y2⟩ := bx3 HOW.out
    obtain ⟨v0, v1, v2⟩ := bx3f HOW.out
    simp only [List.drop_succ_cons, List.drop_zero]
    go_wp2_with fail
    exact bodyPost_ret (results_two Tryz.results25 _ _ (w.heap.size + 2) (w.heap.size + 3) _ _ rfl rfl (load_s ((st3k (by omega) (.slice (some ⟨R1, 0, none⟩) 1 1) (.bool true) (.slice none 0 0)).trans HZW.out)) (load_o (st3 HOW.out (.slice (some ⟨R1, 0, none⟩) 1 1) (.bool true) (.slice none 0 0)))) rfl ⟨some ⟨R1, 0, none⟩, none, 1, 0, rfl, st3b HBW.out (by omega) (.slice (some ⟨R1, 0, none⟩) 1 1) (.bool true) (.slice none 0 0), fr_one { nK 2 with d := n.d } (by omega) ((st3k (by omega) (.slice (some ⟨R1, 0, none⟩) 1 1) (.bool true) (.slice none 0 0)).trans HR1W.out) (fun _ _ => ntl_plain _ rfl rfl (Nat.zero_le _) (Nat.zero_le _) hd), (fr_nil _ _ _).v⟩
set_option maxRecDepth 100000 in
set_option maxHeartbeats 8000000 in
theorem rtake_letc (s : Ss) (n : Nt) (ai az : Option Addr) (ci cz : Nat) (w : World) (h1 : n.n.size ≤ 1048576) (h2 : s.n.size ≤ 1048576) (hm : smN n.n s.n = true) (hk : n.k = 8) (hc : n.c ≠ 0) : Calls Tryz.prog 25 #[.agg #[.int .i64 2, .string s.n, .string s.d, .int .i64 s.s, .int .i64 s.t, .int .i64 s.c, .int .i64 s.h, .int .i64 s.a, .int .i64 s.e], .agg #[.int .i64 n.k, .string n.n, .string n.x, .string n.d, .int .i64 n.c, .int .i64 n.s, .int .i64 n.e, .int .i64 n.t, .bool n.o, .slice ai n.l.length ci, .slice az n.z.length cz]] w (StV ai az n ({ s with p := 6, h := 0, e := n.c }, ⟨[], false, [{ nK 3 with c := n.c }]⟩) w) := by
  have hu : undr 2 = true := rfl
  have q3 : (n.k == 3) = false := by rw [hk]; rfl
  have q6 : (n.k == 6) = false := by rw [hk]; rfl
  have q8 : (n.k == 8) = true := by rw [hk]; rfl
  have q9 : (n.k == 9) = false := by rw [hk]; rfl
  have q18 : (n.k == 18) = false := by rw [hk]; rfl
  have q19 : (n.k == 19) = false := by rw [hk]; rfl
  clear hk
  have HS := Lib.hid (mk_beq (Hd.nl n.n.data.toList) (Hd.nl s.n.data.toList))
  have C1 : Hid (∀ W, Calls Tryz.prog 44 #[.string n.n] W (Gives (.string (_root_.Go.Proofs.YthbeempmdpfnmaaGreatDoor.mk (Hd.nl n.n.data.toList))) W)) := Lib.hid fun W => rhNorm_any n.n W h1
  have C2 : Hid (∀ W, Calls Tryz.prog 44 #[.string s.n] W (Gives (.string (_root_.Go.Proofs.YthbeempmdpfnmaaGreatDoor.mk (Hd.nl s.n.data.toList))) W)) := Lib.hid fun W => rhNorm_any s.n W h2
  rw [show decide (Hd.nl n.n.data.toList = Hd.nl s.n.data.toList) = true from hm] at HS
  generalize _root_.Go.Proofs.YthbeempmdpfnmaaGreatDoor.mk (Hd.nl n.n.data.toList) = S1 at HS C1
  generalize _root_.Go.Proofs.YthbeempmdpfnmaaGreatDoor.mk (Hd.nl s.n.data.toList) = S2 at HS C2
  have hs12 := HS.out
  clear HS h1 h2 hm
  have hcc : (n.c == 0) = false := beqf hc
  have hcb : bne n.c 0 = true := by unfold bne; rw [hcc]; rfl
  clear hc
  have CU : Hid (∀ W, Calls Tryz.prog 49 #[.agg #[.int .i64 2, .string s.n, .string s.d, .int .i64 s.s, .int .i64 s.t, .int .i64 s.c, .int .i64 s.h, .int .i64 s.a, .int .i64 s.e]] W (Gives (.bool true) W)) := fun W => by
    have q := rundr_any { s with p := 2 } W
    rw [show undr _ = true from hu] at q
    exact q
  clear hu
  obtain ⟨HB, HX, HN, HZ, HO⟩ := bxFour w #[.int .i64 2, .string s.n, .string s.d, .int .i64 s.s, .int .i64 s.t, .int .i64 s.c, .int .i64 s.h, .int .i64 s.a, .int .i64 s.e] 28 #[.int .i64 n.k, .string n.n, .string n.x, .string n.d, .int .i64 n.c, .int .i64 n.s, .int .i64 n.e, .int .i64 n.t, .bool n.o, .slice ai n.l.length ci, .slice az n.z.length cz] 42 #[.int .i64 0, .string ⟨#[]⟩, .string ⟨#[]⟩, .int .i64 0, .int .i64 0, .int .i64 0, .int .i64 0, .int .i64 0, .int .i64 0] 28 #[.slice none 0 0, .bool false, .slice none 0 0] 31
  obtain ⟨m0, m1, m2, m3, m4, m5, m6, m7, m8⟩ := bx9 HX.out
  go_enter Tryz.func25, Tryz.ntmps25
  go_wp2_with fail
  refine (CU.out _).mono ?_
  rintro e w1 ⟨rfl, hb⟩
  clear m0 m1 m2 m3 m4 m5 m6 m7 m8
  have HX1 := kpB hb HX
  have HN1 := kpB hb HN
  have HZ1 := kpB hb HZ
  have HO1 := kpB hb HO
  have HB1 := Lib.hid (HB.out.trans (hb.mono HB.out.size))
  clear hb HB HX HN HZ HO CU
  obtain ⟨m0, m1, m2, m3, m4, m5, m6, m7, m8⟩ := bx9 HX1.out
  obtain ⟨k0, k1, k2, k3, k4, k5, k6, k7, k8, k9, k10⟩ := bx11 HN1.out
  obtain ⟨f0, f1, f2, f3, f4, f5, f6, f7, f8⟩ := bx9f HX1.out
  have hPx : w.heap.size + 3 < w1.heap.size := heap_lt HO1.out
  go_upto_region 4 with fail
  clear m0 m1 m2 m3 m4 m5 m6 m7 m8 f0 f1 f2 f3 f4 f5 f6 f7 f8
  clear k0 k1 k2 k3 k4 k5 k6 k7 k8 k9 k10
  have HX2 : Hid ((w1.setCell ⟨w.heap.size, 6, none⟩ (.int .i64 0)).heap[w.heap.size]? = some (.cells #[.int .i64 2, .string s.n, .string s.d, .int .i64 s.s, .int .i64 s.t, .int .i64 s.c, .int .i64 0, .int .i64 s.a, .int .i64 s.e] 28 (0, 0))) := by
    show _ = _
    simp [World.setCell, Array.getElem?_modify, HX1.out]
  have HN2 := Lib.hid (kp1 (A := w.heap.size) (i := 6) (u := .int .i64 0) (b := w.heap.size + 1) (by omega) HN1.out)
  have HZ2 := Lib.hid (kp1 (A := w.heap.size) (i := 6) (u := .int .i64 0) (b := w.heap.size + 2) (by omega) HZ1.out)
  have HO2 := Lib.hid (kp1 (A := w.heap.size) (i := 6) (u := .int .i64 0) (b := w.heap.size + 3) (by omega) HO1.out)
  have HB2 := Lib.hid (HB1.out.setCell (p := ⟨w.heap.size, 6, none⟩) (Nat.le_refl _) (.int .i64 0))
  clear HX1 HN1 HZ1 HO1 HB1 hPx
  generalize (w1.setCell ⟨w.heap.size, 6, none⟩ (.int .i64 0)) = w2 at HX2 HN2 HZ2 HO2 HB2 ⊢
  obtain ⟨HD3, HBp⟩ := bxOne w2 #[.slice none 0 0, .bool false, .slice none 0 0] 31
  have HX3 := kpB HBp.out HX2
  have HN3 := kpB HBp.out HN2
  have HZ3 := kpB HBp.out HZ2
  have HO3 := kpB HBp.out HO2
  have HB3 := Lib.hid (HB2.out.trans (HBp.out.mono HB2.out.size))
  have hPy : w.heap.size + 3 < w2.heap.size := heap_lt HO2.out
  go_upto_region 5 with fail
  clear HX2 HN2 HZ2 HO2 HB2 HBp
  generalize (w2.alloc (.cells #[.slice none 0 0, .bool false, .slice none 0 0] 31)) = w3 at HX3 HN3 HZ3 HO3 HD3 HB3 ⊢
  generalize w2.heap.size = A6 at hPy HD3 ⊢
  have hA3 : A6 < w3.heap.size := heap_lt HD3.out
  obtain ⟨m0, m1, m2, m3, m4, m5, m6, m7, m8⟩ := bx9 HX3.out
  obtain ⟨k0, k1, k2, k3, k4, k5, k6, k7, k8, k9, k10⟩ := bx11 HN3.out
  obtain ⟨d0, d1, d2⟩ := bx3 HD3.out
  go_upto_region 11 with fail
  have r0 : ∀ y : Ext w3, y.to.cell? _ = _ := fun y => ext_cell y k0
  have r1 : ∀ y : Ext w3, y.to.cell? _ = _ := fun y => ext_cell y m0
  have r2 : ∀ y : Ext w3, y.to.cell? _ = _ := fun y => ext_cell y k1
  have r3 : ∀ y : Ext w3, y.to.cell? _ = _ := fun y => ext_cell y m1
  have X0 : Hid (Xc w3 44 #[.string n.n] (.string S1)) := fun y => C1.out y.to
  have X1 : Hid (Xc w3 44 #[.string s.n] (.string S2)) := fun y => C2.out y.to
  have hsome := extSome w3
  clear m0 m1 m2 m3 m4 m5 m6 m7 m8
  clear k0 k1 k2 k3 k4 k5 k6 k7 k8 k9 k10
  clear d0 d1 d2
  clear hA3
  refine ext_region (by kernel_rfl) (by kernel_rfl) ?_
  repeat (go_big_quiet_step ((first | (go_at_call 44; with_reducible exact ext_call _ (X0.out _)) | (go_at_call 44; with_reducible exact ext_call _ (X1.out _)))))
  refine wpQuiet_nil ?_
  rintro _ ⟨y, hy⟩
  subst hy
  have HX4 := kpB y.below HX3
  have HN4 := kpB y.below HN3
  have HZ4 := kpB y.below HZ3
  have HO4 := kpB y.below HO3
  have HD4 := kpB y.below HD3
  have HB4 := Lib.hid (HB3.out.trans (y.below.mono HB3.out.size))
  clear hsome r0 r1 r2 r3 X0 X1 C1 C2 HX3 HN3 HZ3 HO3 HD3 HB3
  generalize y.to = w4 at HX4 HN4 HZ4 HO4 HD4 HB4 ⊢
  clear y
  have hA4 : A6 < w4.heap.size := heap_lt HD4.out
  obtain ⟨m0, m1, m2, m3, m4, m5, m6, m7, m8⟩ := bx9 HX4.out
  obtain ⟨k0, k1, k2, k3, k4, k5, k6, k7, k8, k9, k10⟩ := bx11 HN4.out
  obtain ⟨d0, d1, d2⟩ := bx3 HD4.out
  obtain ⟨f0, f1, f2, f3, f4, f5, f6, f7, f8⟩ := bx9f HX4.out
  go_upto_region 13 with fail
  go_region
  go_upto_region 14 with fail
  clear f0 f1 f2 f3 f4 f5 f6 f7 f8
  have HX4_0 : Hid ((w4.setCell ⟨w.heap.size, 0, none⟩ (.int .i64 6)).heap[w.heap.size]? = some (.cells #[.int .i64 6, .string s.n, .string s.d, .int .i64 s.s, .int .i64 s.t, .int .i64 s.c, .int .i64 0, .int .i64 s.a, .int .i64 s.e] 28 (0, 0))) := by
    show _ = _
    simp only [World.setCell, Array.getElem?_modify, HX4.out]
    simp
  have HN4_0 := Lib.hid (kp1 (A := w.heap.size) (i := 0) (u := .int .i64 6) (b := w.heap.size + 1) (by omega) HN4.out)
  have HZ4_0 := Lib.hid (kp1 (A := w.heap.size) (i := 0) (u := .int .i64 6) (b := w.heap.size + 2) (by omega) HZ4.out)
  have HO4_0 := Lib.hid (kp1 (A := w.heap.size) (i := 0) (u := .int .i64 6) (b := w.heap.size + 3) (by omega) HO4.out)
  have HD4_0 := Lib.hid (kp1 (A := w.heap.size) (i := 0) (u := .int .i64 6) (b := A6) (by omega) HD4.out)
  have HB4_0 := Lib.hid (HB4.out.setCell (p := ⟨w.heap.size, 0, none⟩) (show w.heap.size ≤ w.heap.size by omega) (.int .i64 6))
  have HX4_1 : Hid (((w4.setCell ⟨w.heap.size, 0, none⟩ (.int .i64 6)).setCell ⟨w.heap.size, 8, none⟩ (.int .i64 n.c)).heap[w.heap.size]? = some (.cells #[.int .i64 6, .string s.n, .string s.d, .int .i64 s.s, .int .i64 s.t, .int .i64 s.c, .int .i64 0, .int .i64 s.a, .int .i64 n.c] 28 (0, 0))) := by
    show _ = _
    simp only [World.setCell, Array.getElem?_modify, HX4.out]
    simp
  have HN4_1 := Lib.hid (kp1 (A := w.heap.size) (i := 8) (u := .int .i64 n.c) (b := w.heap.size + 1) (by omega) HN4_0.out)
  have HZ4_1 := Lib.hid (kp1 (A := w.heap.size) (i := 8) (u := .int .i64 n.c) (b := w.heap.size + 2) (by omega) HZ4_0.out)
  have HO4_1 := Lib.hid (kp1 (A := w.heap.size) (i := 8) (u := .int .i64 n.c) (b := w.heap.size + 3) (by omega) HO4_0.out)
  have HD4_1 := Lib.hid (kp1 (A := w.heap.size) (i := 8) (u := .int .i64 n.c) (b := A6) (by omega) HD4_0.out)
  have HB4_1 := Lib.hid (HB4_0.out.setCell (p := ⟨w.heap.size, 8, none⟩) (show w.heap.size ≤ w.heap.size by omega) (.int .i64 n.c))
  have HX5 := hdrew HX4_1
  have HN5 := hdrew HN4_1
  have HZ5 := hdrew HZ4_1
  have HO5 := hdrew HO4_1
  have HD5 := hdrew HD4_1
  have HB5 := Lib.hid HB4_1.out.drew
  clear m0 m1 m2 m3 m4 m5 m6 m7 m8
  clear k0 k1 k2 k3 k4 k5 k6 k7 k8 k9 k10
  clear d0 d1 d2
  clear hA4
  clear HX4_0 HN4_0 HZ4_0 HO4_0 HD4_0 HB4_0
  clear HX4_1 HN4_1 HZ4_1 HO4_1 HD4_1 HB4_1
  clear HX4 HN4 HZ4 HO4 HD4 HB4
  generalize ((w4.setCell ⟨w.heap.size, 0, none⟩ (.int .i64 6)).setCell ⟨w.heap.size, 8, none⟩ (.int .i64 n.c)).drew = w5 at HX5 HN5 HZ5 HO5 HD5 HB5 ⊢
  have hA5 : A6 < w5.heap.size := heap_lt HD5.out
  obtain ⟨m0, m1, m2, m3, m4, m5, m6, m7, m8⟩ := bx9 HX5.out
  obtain ⟨k0, k1, k2, k3, k4, k5, k6, k7, k8, k9, k10⟩ := bx11 HN5.out
  obtain ⟨d0, d1, d2⟩ := bx3 HD5.out
  obtain ⟨f0, f1, f2⟩ := bx3f HD5.out
  go_upto_region 27 with fail
  clear f0 f1 f2
  have HDg : Hid ((w5.setCell ⟨A6, 2, none⟩ (.slice (some ⟨w5.heap.size, 0, none⟩) 1 1)).heap[A6]? = some (.cells #[.slice none 0 0, .bool false, .slice (some ⟨w5.heap.size, 0, none⟩) 1 1] 31 (0, 0))) := by
    show _ = _
    simp only [World.setCell, Array.getElem?_modify, HD5.out]
    simp
  have HXg := Lib.hid (kp1 (A := A6) (i := 2) (u := .slice (some ⟨w5.heap.size, 0, none⟩) 1 1) (b := w.heap.size) (by omega) HX5.out)
  have HNg := Lib.hid (kp1 (A := A6) (i := 2) (u := .slice (some ⟨w5.heap.size, 0, none⟩) 1 1) (b := w.heap.size + 1) (by omega) HN5.out)
  have HZg := Lib.hid (kp1 (A := A6) (i := 2) (u := .slice (some ⟨w5.heap.size, 0, none⟩) 1 1) (b := w.heap.size + 2) (by omega) HZ5.out)
  have HOg := Lib.hid (kp1 (A := A6) (i := 2) (u := .slice (some ⟨w5.heap.size, 0, none⟩) 1 1) (b := w.heap.size + 3) (by omega) HO5.out)
  have HBg := Lib.hid (HB5.out.setCell (p := ⟨A6, 2, none⟩) (show w.heap.size ≤ A6 by omega) (.slice (some ⟨w5.heap.size, 0, none⟩) 1 1))
  obtain ⟨HRn, HBn⟩ := bxOne (w5.setCell ⟨A6, 2, none⟩ (.slice (some ⟨w5.heap.size, 0, none⟩) 1 1)) #[.int .i64 3, .string ⟨#[]⟩, .string ⟨#[]⟩, .string ⟨#[]⟩, .int .i64 n.c, .int .i64 0, .int .i64 0, .int .i64 0, .bool false, .slice none 0 0, .slice none 0 0] 42
  have HR16 : Hid (((w5.setCell ⟨A6, 2, none⟩ (.slice (some ⟨w5.heap.size, 0, none⟩) 1 1)).alloc (.cells #[.int .i64 3, .string ⟨#[]⟩, .string ⟨#[]⟩, .string ⟨#[]⟩, .int .i64 n.c, .int .i64 0, .int .i64 0, .int .i64 0, .bool false, .slice none 0 0, .slice none 0 0] 42)).heap[w5.heap.size]? = some (.cells #[.int .i64 3, .string ⟨#[]⟩, .string ⟨#[]⟩, .string ⟨#[]⟩, .int .i64 n.c, .int .i64 0, .int .i64 0, .int .i64 0, .bool false, .slice none 0 0, .slice none 0 0] 42 (0, 0))) := by
    have h := HRn.out
    rw [st_size] at h
    exact h
  have HX6 := kpB HBn.out HXg
  have HN6 := kpB HBn.out HNg
  have HZ6 := kpB HBn.out HZg
  have HO6 := kpB HBn.out HOg
  have HD6 := kpB HBn.out HDg
  have HB6 := Lib.hid (HBg.out.trans (HBn.out.mono (by rw [st_size]; exact HB5.out.size)))
  have hR1 : A6 < w5.heap.size := hA5
  clear m0 m1 m2 m3 m4 m5 m6 m7 m8
  clear k0 k1 k2 k3 k4 k5 k6 k7 k8 k9 k10
  clear d0 d1 d2
  clear hA5
  clear HRn HBn HXg HNg HZg HOg HDg HBg HX5 HN5 HZ5 HO5 HD5 HB5
  generalize ((w5.setCell ⟨A6, 2, none⟩ (.slice (some ⟨w5.heap.size, 0, none⟩) 1 1)).alloc (.cells #[.int .i64 3, .string ⟨#[]⟩, .string ⟨#[]⟩, .string ⟨#[]⟩, .int .i64 n.c, .int .i64 0, .int .i64 0, .int .i64 0, .bool false, .slice none 0 0, .slice none 0 0] 42)) = w6 at HX6 HN6 HZ6 HO6 HD6 HR16 HB6 ⊢
  generalize w5.heap.size = R1 at HD6 HR16 hR1 ⊢
  have hA6 : A6 < w6.heap.size := heap_lt HD6.out
  obtain ⟨m0, m1, m2, m3, m4, m5, m6, m7, m8⟩ := bx9 HX6.out
  obtain ⟨k0, k1, k2, k3, k4, k5, k6, k7, k8, k9, k10⟩ := bx11 HN6.out
  obtain ⟨d0, d1, d2⟩ := bx3 HD6.out
  go_upto_region 29 with fail
  clear m0 m1 m2 m3 m4 m5 m6 m7 m8
  clear k0 k1 k2 k3 k4 k5 k6 k7 k8 k9 k10
  clear d0 d1 d2
  clear hA6
  have hZN : w.heap.size + 1 + 1 < w6.heap.size := heap_lt HZ6.out
  have hAN : A6 < w6.heap.size := heap_lt HD6.out
  refine region_Z (w := w) (Z := w.heap.size + 1 + 1) 3 2 (fun j => [140, 141, 100002].getD j 0) [140, 141] [.eq (.agg #[.int .i64 6, .string s.n, .string s.d, .int .i64 s.s, .int .i64 s.t, .int .i64 s.c, .int .i64 0, .int .i64 s.a, .int .i64 n.c]), .eq (.agg #[.slice none 0 0, .bool false, .slice (some ⟨R1, 0, none⟩) 1 1]), .st #[.int .i64 6, .string s.n, .string s.d, .int .i64 s.s, .int .i64 s.t, .int .i64 s.c, .int .i64 0, .int .i64 s.a, .int .i64 n.c]] (by kernel_rfl) (by kernel_rfl) (by kernel_rfl) (by kernel_rfl) (by decide) (by kernel_rfl) (by kernel_rfl) (by kernel_rfl) (by kernel_rfl) (fun h => absurd (show 2 < 3 by decide) h) HB6.out HZ6.out ?_ ?_
  · intro i o hi ho q W hsz hout hJ hZ0 hdep
    have HXW := oldJ hJ (by omega) HX6
    obtain ⟨x0, x1, x2, x3, x4, x5, x6, x7, x8⟩ := bx9 HXW.out
    have HDW := oldJ hJ (by omega) HD6
    obtain ⟨y0, y1, y2⟩ := bx3 HDW.out
    have hc : i = 0 ∨ i = 1 ∨ i = 2 := by omega
    rcases hc with rfl | rfl | rfl
    · -- 0
      cases ho
      refine plainR (by decide) ?_
      have e2 : q.eval (.tmp 2) = .pointer (some ⟨w.heap.size, 0, none⟩) := (hout 2 (by decide)).trans rfl
      refine gives_read (v := .agg #[.int .i64 6, .string s.n, .string s.d, .int .i64 s.s, .int .i64 s.t, .int .i64 s.c, .int .i64 0, .int .i64 s.a, .int .i64 n.c]) ?_ rfl
      unfold execOp
      dsimp only
      rw [e2]
      go_simp
    · -- 1
      cases ho
      refine plainR (by decide) ?_
      have e6 : q.eval (.tmp 6) = .pointer (some ⟨A6, 0, none⟩) := (hout 6 (by decide)).trans rfl
      refine gives_read (v := .agg #[.slice none 0 0, .bool false, .slice (some ⟨R1, 0, none⟩) 1 1]) ?_ rfl
      unfold execOp
      dsimp only
      rw [e6]
      go_simp
    · -- 2
      cases ho
      have e4 : q.eval (.tmp 4) = .pointer (some ⟨w.heap.size + 1 + 1, 0, none⟩) := (hout 4 (by decide)).trans rfl
      have e140 : q.eval (.tmp 140) = .agg #[.int .i64 6, .string s.n, .string s.d, .int .i64 s.s, .int .i64 s.t, .int .i64 s.c, .int .i64 0, .int .i64 s.a, .int .i64 n.c] := hdep ⟨0, .data⟩ (by simp) rfl (by decide)
      have hz := hZ0 (by kernel_rfl)
      obtain ⟨zc0, zc1, zc2, zc3, zc4, zc5, zc6, zc7, zc8⟩ := bx9 hz
      obtain ⟨zf0, zf1, zf2, zf3, zf4, zf5, zf6, zf7, zf8⟩ := bx9f hz
      refine givesR_skip ?_ (stZ_of (by omega) hz (.int .i64 6) (.string s.n) (.string s.d) (.int .i64 s.s) (.int .i64 s.t) (.int .i64 s.c) (.int .i64 0) (.int .i64 s.a) (.int .i64 n.c)) (st9 hz (.int .i64 6) (.string s.n) (.string s.d) (.int .i64 s.s) (.int .i64 s.t) (.int .i64 s.c) (.int .i64 0) (.int .i64 s.a) (.int .i64 n.c))
      unfold execOp
      dsimp only
      rw [e4, e140]
      go_simp
  · intro q W hq hJ hv
    have e141 : q.eval (.tmp 141) = .agg #[.slice none 0 0, .bool false, .slice (some ⟨R1, 0, none⟩) 1 1] := hv 1 (by decide)
    have hZW : W.heap[w.heap.size + 1 + 1]? = some (.cells #[.int .i64 6, .string s.n, .string s.d, .int .i64 s.s, .int .i64 s.t, .int .i64 s.c, .int .i64 0, .int .i64 s.a, .int .i64 n.c] 28 (0, 0)) := hv 2 (by decide)
    have HBW := Lib.hid hJ.bel
    have HOW := oldJ hJ (by omega) HO6
    have HZW := Lib.hid hZW
    have HR1W := oldJ hJ (by omega) HR16
    clear hJ hZW HX6 HN6 HZ6 HO6 HD6 HR16
    have hq2 : q = canonL q [140, 141] _ := hq
    simp only [canonL] at hq2
    rw [e141] at hq2
    clear hq hv e141
    generalize q.eval (.tmp 140) = u140 at hq2
    subst hq2
    obtain ⟨y0, y1, y2⟩ := bx3 HOW.out
    obtain ⟨v0, v1, v2⟩ := bx3f HOW.out
    simp only [List.drop_succ_cons, List.drop_zero]
    go_wp2_with fail
    exact bodyPost_ret (results_two Tryz.results25 _ _ (w.heap.size + 2) (w.heap.size + 3) _ _ rfl rfl (load_s ((st3k (by omega) (.slice none 0 0) (.bool false) (.slice (some ⟨R1, 0, none⟩) 1 1)).trans HZW.out)) (load_o (st3 HOW.out (.slice none 0 0) (.bool false) (.slice (some ⟨R1, 0, none⟩) 1 1)))) rfl ⟨none, some ⟨R1, 0, none⟩, 0, 1, rfl, st3b HBW.out (by omega) (.slice none 0 0) (.bool false) (.slice (some ⟨R1, 0, none⟩) 1 1), fr_nil _ _ _, (fr_one { nK 3 with c := n.c } (by omega) ((st3k (by omega) (.slice none 0 0) (.bool false) (.slice (some ⟨R1, 0, none⟩) 1 1)).trans HR1W.out) (fun _ _ => ntl_plain _ rfl rfl (Nat.zero_le _) (Nat.zero_le _) (Nat.zero_le _))).v⟩
set_option maxRecDepth 100000 in
set_option maxHeartbeats 8000000 in
theorem rtake_bye (s : Ss) (n : Nt) (ai az : Option Addr) (ci cz : Nat) (w : World) (hu : undr s.p = true) (hk : n.k = 3) : Calls Tryz.prog 25 #[.agg #[.int .i64 s.p, .string s.n, .string s.d, .int .i64 s.s, .int .i64 s.t, .int .i64 s.c, .int .i64 s.h, .int .i64 s.a, .int .i64 s.e], .agg #[.int .i64 n.k, .string n.n, .string n.x, .string n.d, .int .i64 n.c, .int .i64 n.s, .int .i64 n.e, .int .i64 n.t, .bool n.o, .slice ai n.l.length ci, .slice az n.z.length cz]] w (StV ai az n ({ s with h := 0, p := 6, e := n.c }, ⟨[], false, [n]⟩) w) := by
  have q3 : (n.k == 3) = true := by rw [hk]; rfl
  clear hk
  have CU : Hid (∀ W, Calls Tryz.prog 49 #[.agg #[.int .i64 s.p, .string s.n, .string s.d, .int .i64 s.s, .int .i64 s.t, .int .i64 s.c, .int .i64 s.h, .int .i64 s.a, .int .i64 s.e]] W (Gives (.bool true) W)) := fun W => by
    have q := rundr_any s W
    rw [show undr _ = true from hu] at q
    exact q
  clear hu
  obtain ⟨HB, HX, HN, HZ, HO⟩ := bxFour w #[.int .i64 s.p, .string s.n, .string s.d, .int .i64 s.s, .int .i64 s.t, .int .i64 s.c, .int .i64 s.h, .int .i64 s.a, .int .i64 s.e] 28 #[.int .i64 n.k, .string n.n, .string n.x, .string n.d, .int .i64 n.c, .int .i64 n.s, .int .i64 n.e, .int .i64 n.t, .bool n.o, .slice ai n.l.length ci, .slice az n.z.length cz] 42 #[.int .i64 0, .string ⟨#[]⟩, .string ⟨#[]⟩, .int .i64 0, .int .i64 0, .int .i64 0, .int .i64 0, .int .i64 0, .int .i64 0] 28 #[.slice none 0 0, .bool false, .slice none 0 0] 31
  obtain ⟨m0, m1, m2, m3, m4, m5, m6, m7, m8⟩ := bx9 HX.out
  go_enter Tryz.func25, Tryz.ntmps25
  go_wp2_with fail
  refine (CU.out _).mono ?_
  rintro e w1 ⟨rfl, hb⟩
  clear m0 m1 m2 m3 m4 m5 m6 m7 m8
  have HX1 := kpB hb HX
  have HN1 := kpB hb HN
  have HZ1 := kpB hb HZ
  have HO1 := kpB hb HO
  have HB1 := Lib.hid (HB.out.trans (hb.mono HB.out.size))
  clear hb HB HX HN HZ HO CU
  obtain ⟨m0, m1, m2, m3, m4, m5, m6, m7, m8⟩ := bx9 HX1.out
  obtain ⟨k0, k1, k2, k3, k4, k5, k6, k7, k8, k9, k10⟩ := bx11 HN1.out
  obtain ⟨f0, f1, f2, f3, f4, f5, f6, f7, f8⟩ := bx9f HX1.out
  have hPx : w.heap.size + 3 < w1.heap.size := heap_lt HO1.out
  go_upto_region 4 with fail
  clear m0 m1 m2 m3 m4 m5 m6 m7 m8 f0 f1 f2 f3 f4 f5 f6 f7 f8
  clear k0 k1 k2 k3 k4 k5 k6 k7 k8 k9 k10
  have HX2 : Hid ((w1.setCell ⟨w.heap.size, 6, none⟩ (.int .i64 0)).heap[w.heap.size]? = some (.cells #[.int .i64 s.p, .string s.n, .string s.d, .int .i64 s.s, .int .i64 s.t, .int .i64 s.c, .int .i64 0, .int .i64 s.a, .int .i64 s.e] 28 (0, 0))) := by
    show _ = _
    simp [World.setCell, Array.getElem?_modify, HX1.out]
  have HN2 := Lib.hid (kp1 (A := w.heap.size) (i := 6) (u := .int .i64 0) (b := w.heap.size + 1) (by omega) HN1.out)
  have HZ2 := Lib.hid (kp1 (A := w.heap.size) (i := 6) (u := .int .i64 0) (b := w.heap.size + 2) (by omega) HZ1.out)
  have HO2 := Lib.hid (kp1 (A := w.heap.size) (i := 6) (u := .int .i64 0) (b := w.heap.size + 3) (by omega) HO1.out)
  have HB2 := Lib.hid (HB1.out.setCell (p := ⟨w.heap.size, 6, none⟩) (Nat.le_refl _) (.int .i64 0))
  clear HX1 HN1 HZ1 HO1 HB1 hPx
  generalize (w1.setCell ⟨w.heap.size, 6, none⟩ (.int .i64 0)) = w2 at HX2 HN2 HZ2 HO2 HB2 ⊢
  obtain ⟨HD3, HBp⟩ := bxOne w2 #[.slice none 0 0, .bool false, .slice none 0 0] 31
  have HX3 := kpB HBp.out HX2
  have HN3 := kpB HBp.out HN2
  have HZ3 := kpB HBp.out HZ2
  have HO3 := kpB HBp.out HO2
  have HB3 := Lib.hid (HB2.out.trans (HBp.out.mono HB2.out.size))
  have hPy : w.heap.size + 3 < w2.heap.size := heap_lt HO2.out
  go_upto_region 5 with fail
  clear HX2 HN2 HZ2 HO2 HB2 HBp
  generalize (w2.alloc (.cells #[.slice none 0 0, .bool false, .slice none 0 0] 31)) = w3 at HX3 HN3 HZ3 HO3 HD3 HB3 ⊢
  generalize w2.heap.size = A6 at hPy HD3 ⊢
  have hA3 : A6 < w3.heap.size := heap_lt HD3.out
  obtain ⟨m0, m1, m2, m3, m4, m5, m6, m7, m8⟩ := bx9 HX3.out
  obtain ⟨k0, k1, k2, k3, k4, k5, k6, k7, k8, k9, k10⟩ := bx11 HN3.out
  obtain ⟨d0, d1, d2⟩ := bx3 HD3.out
  obtain ⟨f0, f1, f2, f3, f4, f5, f6, f7, f8⟩ := bx9f HX3.out
  go_upto_region 6 with fail
  go_region
  go_upto_region 7 with fail
  clear f0 f1 f2 f3 f4 f5 f6 f7 f8
  have HX3_0 : Hid ((w3.setCell ⟨w.heap.size, 0, none⟩ (.int .i64 6)).heap[w.heap.size]? = some (.cells #[.int .i64 6, .string s.n, .string s.d, .int .i64 s.s, .int .i64 s.t, .int .i64 s.c, .int .i64 0, .int .i64 s.a, .int .i64 s.e] 28 (0, 0))) := by
    show _ = _
    simp only [World.setCell, Array.getElem?_modify, HX3.out]
    simp
  have HN3_0 := Lib.hid (kp1 (A := w.heap.size) (i := 0) (u := .int .i64 6) (b := w.heap.size + 1) (by omega) HN3.out)
  have HZ3_0 := Lib.hid (kp1 (A := w.heap.size) (i := 0) (u := .int .i64 6) (b := w.heap.size + 2) (by omega) HZ3.out)
  have HO3_0 := Lib.hid (kp1 (A := w.heap.size) (i := 0) (u := .int .i64 6) (b := w.heap.size + 3) (by omega) HO3.out)
  have HD3_0 := Lib.hid (kp1 (A := w.heap.size) (i := 0) (u := .int .i64 6) (b := A6) (by omega) HD3.out)
  have HB3_0 := Lib.hid (HB3.out.setCell (p := ⟨w.heap.size, 0, none⟩) (show w.heap.size ≤ w.heap.size by omega) (.int .i64 6))
  have HX3_1 : Hid (((w3.setCell ⟨w.heap.size, 0, none⟩ (.int .i64 6)).setCell ⟨w.heap.size, 8, none⟩ (.int .i64 n.c)).heap[w.heap.size]? = some (.cells #[.int .i64 6, .string s.n, .string s.d, .int .i64 s.s, .int .i64 s.t, .int .i64 s.c, .int .i64 0, .int .i64 s.a, .int .i64 n.c] 28 (0, 0))) := by
    show _ = _
    simp only [World.setCell, Array.getElem?_modify, HX3.out]
    simp
  have HN3_1 := Lib.hid (kp1 (A := w.heap.size) (i := 8) (u := .int .i64 n.c) (b := w.heap.size + 1) (by omega) HN3_0.out)
  have HZ3_1 := Lib.hid (kp1 (A := w.heap.size) (i := 8) (u := .int .i64 n.c) (b := w.heap.size + 2) (by omega) HZ3_0.out)
  have HO3_1 := Lib.hid (kp1 (A := w.heap.size) (i := 8) (u := .int .i64 n.c) (b := w.heap.size + 3) (by omega) HO3_0.out)
  have HD3_1 := Lib.hid (kp1 (A := w.heap.size) (i := 8) (u := .int .i64 n.c) (b := A6) (by omega) HD3_0.out)
  have HB3_1 := Lib.hid (HB3_0.out.setCell (p := ⟨w.heap.size, 8, none⟩) (show w.heap.size ≤ w.heap.size by omega) (.int .i64 n.c))
  have HX4 := hdrew HX3_1
  have HN4 := hdrew HN3_1
  have HZ4 := hdrew HZ3_1
  have HO4 := hdrew HO3_1
  have HD4 := hdrew HD3_1
  have HB4 := Lib.hid HB3_1.out.drew
  clear m0 m1 m2 m3 m4 m5 m6 m7 m8
  clear k0 k1 k2 k3 k4 k5 k6 k7 k8 k9 k10
  clear d0 d1 d2
  clear hA3
  clear HX3_0 HN3_0 HZ3_0 HO3_0 HD3_0 HB3_0
  clear HX3_1 HN3_1 HZ3_1 HO3_1 HD3_1 HB3_1
  clear HX3 HN3 HZ3 HO3 HD3 HB3
  generalize ((w3.setCell ⟨w.heap.size, 0, none⟩ (.int .i64 6)).setCell ⟨w.heap.size, 8, none⟩ (.int .i64 n.c)).drew = w4 at HX4 HN4 HZ4 HO4 HD4 HB4 ⊢
  have hA4 : A6 < w4.heap.size := heap_lt HD4.out
  obtain ⟨m0, m1, m2, m3, m4, m5, m6, m7, m8⟩ := bx9 HX4.out
  obtain ⟨k0, k1, k2, k3, k4, k5, k6, k7, k8, k9, k10⟩ := bx11 HN4.out
  obtain ⟨d0, d1, d2⟩ := bx3 HD4.out
  obtain ⟨f0, f1, f2⟩ := bx3f HD4.out
  go_upto_region 27 with fail
  clear f0 f1 f2
  have HDg : Hid ((w4.setCell ⟨A6, 2, none⟩ (.slice (some ⟨w4.heap.size, 0, none⟩) 1 1)).heap[A6]? = some (.cells #[.slice none 0 0, .bool false, .slice (some ⟨w4.heap.size, 0, none⟩) 1 1] 31 (0, 0))) := by
    show _ = _
    simp only [World.setCell, Array.getElem?_modify, HD4.out]
    simp
  have HXg := Lib.hid (kp1 (A := A6) (i := 2) (u := .slice (some ⟨w4.heap.size, 0, none⟩) 1 1) (b := w.heap.size) (by omega) HX4.out)
  have HNg := Lib.hid (kp1 (A := A6) (i := 2) (u := .slice (some ⟨w4.heap.size, 0, none⟩) 1 1) (b := w.heap.size + 1) (by omega) HN4.out)
  have HZg := Lib.hid (kp1 (A := A6) (i := 2) (u := .slice (some ⟨w4.heap.size, 0, none⟩) 1 1) (b := w.heap.size + 2) (by omega) HZ4.out)
  have HOg := Lib.hid (kp1 (A := A6) (i := 2) (u := .slice (some ⟨w4.heap.size, 0, none⟩) 1 1) (b := w.heap.size + 3) (by omega) HO4.out)
  have HBg := Lib.hid (HB4.out.setCell (p := ⟨A6, 2, none⟩) (show w.heap.size ≤ A6 by omega) (.slice (some ⟨w4.heap.size, 0, none⟩) 1 1))
  obtain ⟨HRn, HBn⟩ := bxOne (w4.setCell ⟨A6, 2, none⟩ (.slice (some ⟨w4.heap.size, 0, none⟩) 1 1)) #[.int .i64 n.k, .string n.n, .string n.x, .string n.d, .int .i64 n.c, .int .i64 n.s, .int .i64 n.e, .int .i64 n.t, .bool n.o, .slice ai n.l.length ci, .slice az n.z.length cz] 42
  have HR15 : Hid (((w4.setCell ⟨A6, 2, none⟩ (.slice (some ⟨w4.heap.size, 0, none⟩) 1 1)).alloc (.cells #[.int .i64 n.k, .string n.n, .string n.x, .string n.d, .int .i64 n.c, .int .i64 n.s, .int .i64 n.e, .int .i64 n.t, .bool n.o, .slice ai n.l.length ci, .slice az n.z.length cz] 42)).heap[w4.heap.size]? = some (.cells #[.int .i64 n.k, .string n.n, .string n.x, .string n.d, .int .i64 n.c, .int .i64 n.s, .int .i64 n.e, .int .i64 n.t, .bool n.o, .slice ai n.l.length ci, .slice az n.z.length cz] 42 (0, 0))) := by
    have h := HRn.out
    rw [st_size] at h
    exact h
  have HX5 := kpB HBn.out HXg
  have HN5 := kpB HBn.out HNg
  have HZ5 := kpB HBn.out HZg
  have HO5 := kpB HBn.out HOg
  have HD5 := kpB HBn.out HDg
  have HB5 := Lib.hid (HBg.out.trans (HBn.out.mono (by rw [st_size]; exact HB4.out.size)))
  have hR1 : A6 < w4.heap.size := hA4
  clear m0 m1 m2 m3 m4 m5 m6 m7 m8
  clear k0 k1 k2 k3 k4 k5 k6 k7 k8 k9 k10
  clear d0 d1 d2
  clear hA4
  clear HRn HBn HXg HNg HZg HOg HDg HBg HX4 HN4 HZ4 HO4 HD4 HB4
  generalize ((w4.setCell ⟨A6, 2, none⟩ (.slice (some ⟨w4.heap.size, 0, none⟩) 1 1)).alloc (.cells #[.int .i64 n.k, .string n.n, .string n.x, .string n.d, .int .i64 n.c, .int .i64 n.s, .int .i64 n.e, .int .i64 n.t, .bool n.o, .slice ai n.l.length ci, .slice az n.z.length cz] 42)) = w5 at HX5 HN5 HZ5 HO5 HD5 HR15 HB5 ⊢
  generalize w4.heap.size = R1 at HD5 HR15 hR1 ⊢
  have hA5 : A6 < w5.heap.size := heap_lt HD5.out
  obtain ⟨m0, m1, m2, m3, m4, m5, m6, m7, m8⟩ := bx9 HX5.out
  obtain ⟨k0, k1, k2, k3, k4, k5, k6, k7, k8, k9, k10⟩ := bx11 HN5.out
  obtain ⟨d0, d1, d2⟩ := bx3 HD5.out
  go_upto_region 29 with fail
  clear m0 m1 m2 m3 m4 m5 m6 m7 m8
  clear k0 k1 k2 k3 k4 k5 k6 k7 k8 k9 k10
  clear d0 d1 d2
  clear hA5
  have hZN : w.heap.size + 1 + 1 < w5.heap.size := heap_lt HZ5.out
  have hAN : A6 < w5.heap.size := heap_lt HD5.out
  refine region_Z (w := w) (Z := w.heap.size + 1 + 1) 3 2 (fun j => [140, 141, 100002].getD j 0) [140, 141] [.eq (.agg #[.int .i64 6, .string s.n, .string s.d, .int .i64 s.s, .int .i64 s.t, .int .i64 s.c, .int .i64 0, .int .i64 s.a, .int .i64 n.c]), .eq (.agg #[.slice none 0 0, .bool false, .slice (some ⟨R1, 0, none⟩) 1 1]), .st #[.int .i64 6, .string s.n, .string s.d, .int .i64 s.s, .int .i64 s.t, .int .i64 s.c, .int .i64 0, .int .i64 s.a, .int .i64 n.c]] (by kernel_rfl) (by kernel_rfl) (by kernel_rfl) (by kernel_rfl) (by decide) (by kernel_rfl) (by kernel_rfl) (by kernel_rfl) (by kernel_rfl) (fun h => absurd (show 2 < 3 by decide) h) HB5.out HZ5.out ?_ ?_
  · intro i o hi ho q W hsz hout hJ hZ0 hdep
    have HXW := oldJ hJ (by omega) HX5
    obtain ⟨x0, x1, x2, x3, x4, x5, x6, x7, x8⟩ := bx9 HXW.out
    have HDW := oldJ hJ (by omega) HD5
    obtain ⟨y0, y1, y2⟩ := bx3 HDW.out
    have hc : i = 0 ∨ i = 1 ∨ i = 2 := by omega
    rcases hc with rfl | rfl | rfl
    · -- 0
      cases ho
      refine plainR (by decide) ?_
      have e2 : q.eval (.tmp 2) = .pointer (some ⟨w.heap.size, 0, none⟩) := (hout 2 (by decide)).trans rfl
      refine gives_read (v := .agg #[.int .i64 6, .string s.n, .string s.d, .int .i64 s.s, .int .i64 s.t, .int .i64 s.c, .int .i64 0, .int .i64 s.a, .int .i64 n.c]) ?_ rfl
      unfold execOp
      dsimp only
      rw [e2]
      go_simp
    · -- 1
      cases ho
      refine plainR (by decide) ?_
      have e6 : q.eval (.tmp 6) = .pointer (some ⟨A6, 0, none⟩) := (hout 6 (by decide)).trans rfl
      refine gives_read (v := .agg #[.slice none 0 0, .bool false, .slice (some ⟨R1, 0, none⟩) 1 1]) ?_ rfl
      unfold execOp
      dsimp only
      rw [e6]
      go_simp
    · -- 2
      cases ho
      have e4 : q.eval (.tmp 4) = .pointer (some ⟨w.heap.size + 1 + 1, 0, none⟩) := (hout 4 (by decide)).trans rfl
      have e140 : q.eval (.tmp 140) = .agg #[.int .i64 6, .string s.n, .string s.d, .int .i64 s.s, .int .i64 s.t, .int .i64 s.c, .int .i64 0, .int .i64 s.a, .int .i64 n.c] := hdep ⟨0, .data⟩ (by simp) rfl (by decide)
      have hz := hZ0 (by kernel_rfl)
      obtain ⟨zc0, zc1, zc2, zc3, zc4, zc5, zc6, zc7, zc8⟩ := bx9 hz
      obtain ⟨zf0, zf1, zf2, zf3, zf4, zf5, zf6, zf7, zf8⟩ := bx9f hz
      refine givesR_skip ?_ (stZ_of (by omega) hz (.int .i64 6) (.string s.n) (.string s.d) (.int .i64 s.s) (.int .i64 s.t) (.int .i64 s.c) (.int .i64 0) (.int .i64 s.a) (.int .i64 n.c)) (st9 hz (.int .i64 6) (.string s.n) (.string s.d) (.int .i64 s.s) (.int .i64 s.t) (.int .i64 s.c) (.int .i64 0) (.int .i64 s.a) (.int .i64 n.c))
      unfold execOp
      dsimp only
      rw [e4, e140]
      go_simp
  · intro q W hq hJ hv
    have e141 : q.eval (.tmp 141) = .agg #[.slice none 0 0, .bool false, .slice (some ⟨R1, 0, none⟩) 1 1] := hv 1 (by decide)
    have hZW : W.heap[w.heap.size + 1 + 1]? = some (.cells #[.int .i64 6, .string s.n, .string s.d, .int .i64 s.s, .int .i64 s.t, .int .i64 s.c, .int .i64 0, .int .i64 s.a, .int .i64 n.c] 28 (0, 0)) := hv 2 (by decide)
    have HBW := Lib.hid hJ.bel
    have HOW := oldJ hJ (by omega) HO5
    have HZW := Lib.hid hZW
    have HR1W := oldJ hJ (by omega) HR15
    clear hJ hZW HX5 HN5 HZ5 HO5 HD5 HR15
    have hq2 : q = canonL q [140, 141] _ := hq
    simp only [canonL] at hq2
    rw [e141] at hq2
    clear hq hv e141
    generalize q.eval (.tmp 140) = u140 at hq2
    subst hq2
    obtain ⟨y0, y1, y2⟩ := bx3 HOW.out
    obtain ⟨v0, v1, v2⟩ := bx3f HOW.out
    simp only [List.drop_succ_cons, List.drop_zero]
    go_wp2_with fail
    exact bodyPost_ret (results_two Tryz.results25 _ _ (w.heap.size + 2) (w.heap.size + 3) _ _ rfl rfl (load_s ((st3k (by omega) (.slice none 0 0) (.bool false) (.slice (some ⟨R1, 0, none⟩) 1 1)).trans HZW.out)) (load_o (st3 HOW.out (.slice none 0 0) (.bool false) (.slice (some ⟨R1, 0, none⟩) 1 1)))) rfl ⟨none, some ⟨R1, 0, none⟩, 0, 1, rfl, st3b HBW.out (by omega) (.slice none 0 0) (.bool false) (.slice (some ⟨R1, 0, none⟩) 1 1), fr_nil _ _ _, fv_one n (by omega) ((st3k (by omega) (.slice none 0 0) (.bool false) (.slice (some ⟨R1, 0, none⟩) 1 1)).trans HR1W.out)⟩
set_option maxRecDepth 100000 in
set_option maxHeartbeats 8000000 in
theorem rtake_n2m (s : Ss) (n : Nt) (ai az : Option Addr) (ci cz : Nat) (w : World) (h1 : n.n.size ≤ 1048576) (h2 : s.n.size ≤ 1048576) (hm : smN n.n s.n = false) (hk : n.k = 8) : Calls Tryz.prog 25 #[.agg #[.int .i64 2, .string s.n, .string s.d, .int .i64 s.s, .int .i64 s.t, .int .i64 s.c, .int .i64 s.h, .int .i64 s.a, .int .i64 s.e], .agg #[.int .i64 n.k, .string n.n, .string n.x, .string n.d, .int .i64 n.c, .int .i64 n.s, .int .i64 n.e, .int .i64 n.t, .bool n.o, .slice ai n.l.length ci, .slice az n.z.length cz]] w (StV ai az n ({ s with p := 2, h := 0 }, zO) w) := by
  have hu : undr 2 = true := rfl
  have q3 : (n.k == 3) = false := by rw [hk]; rfl
  have q6 : (n.k == 6) = false := by rw [hk]; rfl
  have q8 : (n.k == 8) = true := by rw [hk]; rfl
  have q9 : (n.k == 9) = false := by rw [hk]; rfl
  have q18 : (n.k == 18) = false := by rw [hk]; rfl
  have q19 : (n.k == 19) = false := by rw [hk]; rfl
  clear hk
  have HS := Lib.hid (mk_beq (Hd.nl n.n.data.toList) (Hd.nl s.n.data.toList))
  have C1 : Hid (∀ W, Calls Tryz.prog 44 #[.string n.n] W (Gives (.string (_root_.Go.Proofs.YthbeempmdpfnmaaGreatDoor.mk (Hd.nl n.n.data.toList))) W)) := Lib.hid fun W => rhNorm_any n.n W h1
  have C2 : Hid (∀ W, Calls Tryz.prog 44 #[.string s.n] W (Gives (.string (_root_.Go.Proofs.YthbeempmdpfnmaaGreatDoor.mk (Hd.nl s.n.data.toList))) W)) := Lib.hid fun W => rhNorm_any s.n W h2
  rw [show decide (Hd.nl n.n.data.toList = Hd.nl s.n.data.toList) = false from hm] at HS
  generalize _root_.Go.Proofs.YthbeempmdpfnmaaGreatDoor.mk (Hd.nl n.n.data.toList) = S1 at HS C1
  generalize _root_.Go.Proofs.YthbeempmdpfnmaaGreatDoor.mk (Hd.nl s.n.data.toList) = S2 at HS C2
  have hs12 := HS.out
  clear HS h1 h2 hm
  have CU : Hid (∀ W, Calls Tryz.prog 49 #[.agg #[.int .i64 2, .string s.n, .string s.d, .int .i64 s.s, .int .i64 s.t, .int .i64 s.c, .int .i64 s.h, .int .i64 s.a, .int .i64 s.e]] W (Gives (.bool true) W)) := fun W => by
    have q := rundr_any { s with p := 2 } W
    rw [show undr _ = true from hu] at q
    exact q
  clear hu
  obtain ⟨HB, HX, HN, HZ, HO⟩ := bxFour w #[.int .i64 2, .string s.n, .string s.d, .int .i64 s.s, .int .i64 s.t, .int .i64 s.c, .int .i64 s.h, .int .i64 s.a, .int .i64 s.e] 28 #[.int .i64 n.k, .string n.n, .string n.x, .string n.d, .int .i64 n.c, .int .i64 n.s, .int .i64 n.e, .int .i64 n.t, .bool n.o, .slice ai n.l.length ci, .slice az n.z.length cz] 42 #[.int .i64 0, .string ⟨#[]⟩, .string ⟨#[]⟩, .int .i64 0, .int .i64 0, .int .i64 0, .int .i64 0, .int .i64 0, .int .i64 0] 28 #[.slice none 0 0, .bool false, .slice none 0 0] 31
  obtain ⟨m0, m1, m2, m3, m4, m5, m6, m7, m8⟩ := bx9 HX.out
  go_enter Tryz.func25, Tryz.ntmps25
  go_wp2_with fail
  refine (CU.out _).mono ?_
  rintro e w1 ⟨rfl, hb⟩
  clear m0 m1 m2 m3 m4 m5 m6 m7 m8
  have HX1 := kpB hb HX
  have HN1 := kpB hb HN
  have HZ1 := kpB hb HZ
  have HO1 := kpB hb HO
  have HB1 := Lib.hid (HB.out.trans (hb.mono HB.out.size))
  clear hb HB HX HN HZ HO CU
  obtain ⟨m0, m1, m2, m3, m4, m5, m6, m7, m8⟩ := bx9 HX1.out
  obtain ⟨k0, k1, k2, k3, k4, k5, k6, k7, k8, k9, k10⟩ := bx11 HN1.out
  obtain ⟨f0, f1, f2, f3, f4, f5, f6, f7, f8⟩ := bx9f HX1.out
  have hPx : w.heap.size + 3 < w1.heap.size := heap_lt HO1.out
  go_upto_region 4 with fail
  clear m0 m1 m2 m3 m4 m5 m6 m7 m8 f0 f1 f2 f3 f4 f5 f6 f7 f8
  clear k0 k1 k2 k3 k4 k5 k6 k7 k8 k9 k10
  have HX2 : Hid ((w1.setCell ⟨w.heap.size, 6, none⟩ (.int .i64 0)).heap[w.heap.size]? = some (.cells #[.int .i64 2, .string s.n, .string s.d, .int .i64 s.s, .int .i64 s.t, .int .i64 s.c, .int .i64 0, .int .i64 s.a, .int .i64 s.e] 28 (0, 0))) := by
    show _ = _
    simp [World.setCell, Array.getElem?_modify, HX1.out]
  have HN2 := Lib.hid (kp1 (A := w.heap.size) (i := 6) (u := .int .i64 0) (b := w.heap.size + 1) (by omega) HN1.out)
  have HZ2 := Lib.hid (kp1 (A := w.heap.size) (i := 6) (u := .int .i64 0) (b := w.heap.size + 2) (by omega) HZ1.out)
  have HO2 := Lib.hid (kp1 (A := w.heap.size) (i := 6) (u := .int .i64 0) (b := w.heap.size + 3) (by omega) HO1.out)
  have HB2 := Lib.hid (HB1.out.setCell (p := ⟨w.heap.size, 6, none⟩) (Nat.le_refl _) (.int .i64 0))
  clear HX1 HN1 HZ1 HO1 HB1 hPx
  generalize (w1.setCell ⟨w.heap.size, 6, none⟩ (.int .i64 0)) = w2 at HX2 HN2 HZ2 HO2 HB2 ⊢
  obtain ⟨HD3, HBp⟩ := bxOne w2 #[.slice none 0 0, .bool false, .slice none 0 0] 31
  have HX3 := kpB HBp.out HX2
  have HN3 := kpB HBp.out HN2
  have HZ3 := kpB HBp.out HZ2
  have HO3 := kpB HBp.out HO2
  have HB3 := Lib.hid (HB2.out.trans (HBp.out.mono HB2.out.size))
  have hPy : w.heap.size + 3 < w2.heap.size := heap_lt HO2.out
  go_upto_region 5 with fail
  clear HX2 HN2 HZ2 HO2 HB2 HBp
  generalize (w2.alloc (.cells #[.slice none 0 0, .bool false, .slice none 0 0] 31)) = w3 at HX3 HN3 HZ3 HO3 HD3 HB3 ⊢
  generalize w2.heap.size = A6 at hPy HD3 ⊢
  have hA3 : A6 < w3.heap.size := heap_lt HD3.out
  obtain ⟨m0, m1, m2, m3, m4, m5, m6, m7, m8⟩ := bx9 HX3.out
  obtain ⟨k0, k1, k2, k3, k4, k5, k6, k7, k8, k9, k10⟩ := bx11 HN3.out
  obtain ⟨d0, d1, d2⟩ := bx3 HD3.out
  go_upto_region 11 with fail
  have r0 : ∀ y : Ext w3, y.to.cell? _ = _ := fun y => ext_cell y k0
  have r1 : ∀ y : Ext w3, y.to.cell? _ = _ := fun y => ext_cell y m0
  have r2 : ∀ y : Ext w3, y.to.cell? _ = _ := fun y => ext_cell y k1
  have r3 : ∀ y : Ext w3, y.to.cell? _ = _ := fun y => ext_cell y m1
  have X0 : Hid (Xc w3 44 #[.string n.n] (.string S1)) := fun y => C1.out y.to
  have X1 : Hid (Xc w3 44 #[.string s.n] (.string S2)) := fun y => C2.out y.to
  have hsome := extSome w3
  clear m0 m1 m2 m3 m4 m5 m6 m7 m8
  clear k0 k1 k2 k3 k4 k5 k6 k7 k8 k9 k10
  clear d0 d1 d2
  clear hA3
  refine ext_region (by kernel_rfl) (by kernel_rfl) ?_
  repeat (go_big_quiet_step ((first | (go_at_call 44; with_reducible exact ext_call _ (X0.out _)) | (go_at_call 44; with_reducible exact ext_call _ (X1.out _)))))
  refine wpQuiet_nil ?_
  rintro _ ⟨y, hy⟩
  subst hy
  have HX4 := kpB y.below HX3
  have HN4 := kpB y.below HN3
  have HZ4 := kpB y.below HZ3
  have HO4 := kpB y.below HO3
  have HD4 := kpB y.below HD3
  have HB4 := Lib.hid (HB3.out.trans (y.below.mono HB3.out.size))
  clear hsome r0 r1 r2 r3 X0 X1 C1 C2 HX3 HN3 HZ3 HO3 HD3 HB3
  generalize y.to = w4 at HX4 HN4 HZ4 HO4 HD4 HB4 ⊢
  clear y
  have hA4 : A6 < w4.heap.size := heap_lt HD4.out
  obtain ⟨m0, m1, m2, m3, m4, m5, m6, m7, m8⟩ := bx9 HX4.out
  obtain ⟨k0, k1, k2, k3, k4, k5, k6, k7, k8, k9, k10⟩ := bx11 HN4.out
  obtain ⟨d0, d1, d2⟩ := bx3 HD4.out
  go_upto_region 29 with fail
  clear m0 m1 m2 m3 m4 m5 m6 m7 m8
  clear k0 k1 k2 k3 k4 k5 k6 k7 k8 k9 k10
  clear d0 d1 d2
  clear hA4
  have hZN : w.heap.size + 1 + 1 < w4.heap.size := heap_lt HZ4.out
  have hAN : A6 < w4.heap.size := heap_lt HD4.out
  refine region_Z (w := w) (Z := w.heap.size + 1 + 1) 3 2 (fun j => [140, 141, 100002].getD j 0) [140, 141] [.eq (.agg #[.int .i64 2, .string s.n, .string s.d, .int .i64 s.s, .int .i64 s.t, .int .i64 s.c, .int .i64 0, .int .i64 s.a, .int .i64 s.e]), .eq (.agg #[.slice none 0 0, .bool false, .slice none 0 0]), .st #[.int .i64 2, .string s.n, .string s.d, .int .i64 s.s, .int .i64 s.t, .int .i64 s.c, .int .i64 0, .int .i64 s.a, .int .i64 s.e]] (by kernel_rfl) (by kernel_rfl) (by kernel_rfl) (by kernel_rfl) (by decide) (by kernel_rfl) (by kernel_rfl) (by kernel_rfl) (by kernel_rfl) (fun h => absurd (show 2 < 3 by decide) h) HB4.out HZ4.out ?_ ?_
  · intro i o hi ho q W hsz hout hJ hZ0 hdep
    have HXW := oldJ hJ (by omega) HX4
    obtain ⟨x0, x1, x2, x3, x4, x5, x6, x7, x8⟩ := bx9 HXW.out
    have HDW := oldJ hJ (by omega) HD4
    obtain ⟨y0, y1, y2⟩ := bx3 HDW.out
    have hc : i = 0 ∨ i = 1 ∨ i = 2 := by omega
    rcases hc with rfl | rfl | rfl
    · -- 0
      cases ho
      refine plainR (by decide) ?_
      have e2 : q.eval (.tmp 2) = .pointer (some ⟨w.heap.size, 0, none⟩) := (hout 2 (by decide)).trans rfl
      refine gives_read (v := .agg #[.int .i64 2, .string s.n, .string s.d, .int .i64 s.s, .int .i64 s.t, .int .i64 s.c, .int .i64 0, .int .i64 s.a, .int .i64 s.e]) ?_ rfl
      unfold execOp
      dsimp only
      rw [e2]
      go_simp
    · -- 1
      cases ho
      refine plainR (by decide) ?_
      have e6 : q.eval (.tmp 6) = .pointer (some ⟨A6, 0, none⟩) := (hout 6 (by decide)).trans rfl
      refine gives_read (v := .agg #[.slice none 0 0, .bool false, .slice none 0 0]) ?_ rfl
      unfold execOp
      dsimp only
      rw [e6]
      go_simp
    · -- 2
      cases ho
      have e4 : q.eval (.tmp 4) = .pointer (some ⟨w.heap.size + 1 + 1, 0, none⟩) := (hout 4 (by decide)).trans rfl
      have e140 : q.eval (.tmp 140) = .agg #[.int .i64 2, .string s.n, .string s.d, .int .i64 s.s, .int .i64 s.t, .int .i64 s.c, .int .i64 0, .int .i64 s.a, .int .i64 s.e] := hdep ⟨0, .data⟩ (by simp) rfl (by decide)
      have hz := hZ0 (by kernel_rfl)
      obtain ⟨zc0, zc1, zc2, zc3, zc4, zc5, zc6, zc7, zc8⟩ := bx9 hz
      obtain ⟨zf0, zf1, zf2, zf3, zf4, zf5, zf6, zf7, zf8⟩ := bx9f hz
      refine givesR_skip ?_ (stZ_of (by omega) hz (.int .i64 2) (.string s.n) (.string s.d) (.int .i64 s.s) (.int .i64 s.t) (.int .i64 s.c) (.int .i64 0) (.int .i64 s.a) (.int .i64 s.e)) (st9 hz (.int .i64 2) (.string s.n) (.string s.d) (.int .i64 s.s) (.int .i64 s.t) (.int .i64 s.c) (.int .i64 0) (.int .i64 s.a) (.int .i64 s.e))
      unfold execOp
      dsimp only
      rw [e4, e140]
      go_simp
  · intro q W hq hJ hv
    have e141 : q.eval (.tmp 141) = .agg #[.slice none 0 0, .bool false, .slice none 0 0] := hv 1 (by decide)
    have hZW : W.heap[w.heap.size + 1 + 1]? = some (.cells #[.int .i64 2, .string s.n, .string s.d, .int .i64 s.s, .int .i64 s.t, .int .i64 s.c, .int .i64 0, .int .i64 s.a, .int .i64 s.e] 28 (0, 0)) := hv 2 (by decide)
    have HBW := Lib.hid hJ.bel
    have HOW := oldJ hJ (by omega) HO4
    have HZW := Lib.hid hZW
    clear hJ hZW HX4 HN4 HZ4 HO4 HD4
    have hq2 : q = canonL q [140, 141] _ := hq
    simp only [canonL] at hq2
    rw [e141] at hq2
    clear hq hv e141
    generalize q.eval (.tmp 140) = u140 at hq2
    subst hq2
    obtain ⟨y0, y1, y2⟩ := bx3 HOW.out
    obtain ⟨v0, v1, v2⟩ := bx3f HOW.out
    simp only [List.drop_succ_cons, List.drop_zero]
    go_wp2_with fail
    exact bodyPost_ret (results_two Tryz.results25 _ _ (w.heap.size + 2) (w.heap.size + 3) _ _ rfl rfl (load_s ((st3k (by omega) (.slice none 0 0) (.bool false) (.slice none 0 0)).trans HZW.out)) (load_o (st3 HOW.out (.slice none 0 0) (.bool false) (.slice none 0 0)))) rfl ⟨none, none, 0, 0, rfl, st3b HBW.out (by omega) (.slice none 0 0) (.bool false) (.slice none 0 0), fr_nil _ _ _, (fr_nil _ _ _).v⟩
set_option maxRecDepth 100000 in
set_option maxHeartbeats 8000000 in
theorem rtake_l19 (s : Ss) (n : Nt) (ai az : Option Addr) (ci cz : Nat) (w : World) (hk : n.k = 19) : Calls Tryz.prog 25 #[.agg #[.int .i64 4, .string s.n, .string s.d, .int .i64 s.s, .int .i64 s.t, .int .i64 s.c, .int .i64 s.h, .int .i64 s.a, .int .i64 s.e], .agg #[.int .i64 n.k, .string n.n, .string n.x, .string n.d, .int .i64 n.c, .int .i64 n.s, .int .i64 n.e, .int .i64 n.t, .bool n.o, .slice ai n.l.length ci, .slice az n.z.length cz]] w (StV ai az n ({ s with p := 5, h := 0, a := 0 }, ⟨[nK 10, { nK 11 with s := s.s }], false, [n]⟩) w) := by
  have hu : undr 4 = true := rfl
  have q3 : (n.k == 3) = false := by rw [hk]; rfl
  have q6 : (n.k == 6) = false := by rw [hk]; rfl
  have q8 : (n.k == 8) = false := by rw [hk]; rfl
  have q9 : (n.k == 9) = false := by rw [hk]; rfl
  have q18 : (n.k == 18) = false := by rw [hk]; rfl
  have q19 : (n.k == 19) = true := by rw [hk]; rfl
  clear hk
  have CU : Hid (∀ W, Calls Tryz.prog 49 #[.agg #[.int .i64 4, .string s.n, .string s.d, .int .i64 s.s, .int .i64 s.t, .int .i64 s.c, .int .i64 s.h, .int .i64 s.a, .int .i64 s.e]] W (Gives (.bool true) W)) := fun W => by
    have q := rundr_any { s with p := 4 } W
    rw [show undr _ = true from hu] at q
    exact q
  clear hu
  obtain ⟨HB, HX, HN, HZ, HO⟩ := bxFour w #[.int .i64 4, .string s.n, .string s.d, .int .i64 s.s, .int .i64 s.t, .int .i64 s.c, .int .i64 s.h, .int .i64 s.a, .int .i64 s.e] 28 #[.int .i64 n.k, .string n.n, .string n.x, .string n.d, .int .i64 n.c, .int .i64 n.s, .int .i64 n.e, .int .i64 n.t, .bool n.o, .slice ai n.l.length ci, .slice az n.z.length cz] 42 #[.int .i64 0, .string ⟨#[]⟩, .string ⟨#[]⟩, .int .i64 0, .int .i64 0, .int .i64 0, .int .i64 0, .int .i64 0, .int .i64 0] 28 #[.slice none 0 0, .bool false, .slice none 0 0] 31
  obtain ⟨m0, m1, m2, m3, m4, m5, m6, m7, m8⟩ := bx9 HX.out
  go_enter Tryz.func25, Tryz.ntmps25
  go_wp2_with fail
  refine (CU.out _).mono ?_
  rintro e w1 ⟨rfl, hb⟩
  clear m0 m1 m2 m3 m4 m5 m6 m7 m8
  have HX1 := kpB hb HX
  have HN1 := kpB hb HN
  have HZ1 := kpB hb HZ
  have HO1 := kpB hb HO
  have HB1 := Lib.hid (HB.out.trans (hb.mono HB.out.size))
  clear hb HB HX HN HZ HO CU
  obtain ⟨m0, m1, m2, m3, m4, m5, m6, m7, m8⟩ := bx9 HX1.out
  obtain ⟨k0, k1, k2, k3, k4, k5, k6, k7, k8, k9, k10⟩ := bx11 HN1.out
  obtain ⟨f0, f1, f2, f3, f4, f5, f6, f7, f8⟩ := bx9f HX1.out
  have hPx : w.heap.size + 3 < w1.heap.size := heap_lt HO1.out
  go_upto_region 4 with fail
  clear m0 m1 m2 m3 m4 m5 m6 m7 m8 f0 f1 f2 f3 f4 f5 f6 f7 f8
  clear k0 k1 k2 k3 k4 k5 k6 k7 k8 k9 k10
  have HX2 : Hid ((w1.setCell ⟨w.heap.size, 6, none⟩ (.int .i64 0)).heap[w.heap.size]? = some (.cells #[.int .i64 4, .string s.n, .string s.d, .int .i64 s.s, .int .i64 s.t, .int .i64 s.c, .int .i64 0, .int .i64 s.a, .int .i64 s.e] 28 (0, 0))) := by
    show _ = _
    simp [World.setCell, Array.getElem?_modify, HX1.out]
  have HN2 := Lib.hid (kp1 (A := w.heap.size) (i := 6) (u := .int .i64 0) (b := w.heap.size + 1) (by omega) HN1.out)
  have HZ2 := Lib.hid (kp1 (A := w.heap.size) (i := 6) (u := .int .i64 0) (b := w.heap.size + 2) (by omega) HZ1.out)
  have HO2 := Lib.hid (kp1 (A := w.heap.size) (i := 6) (u := .int .i64 0) (b := w.heap.size + 3) (by omega) HO1.out)
  have HB2 := Lib.hid (HB1.out.setCell (p := ⟨w.heap.size, 6, none⟩) (Nat.le_refl _) (.int .i64 0))
  clear HX1 HN1 HZ1 HO1 HB1 hPx
  generalize (w1.setCell ⟨w.heap.size, 6, none⟩ (.int .i64 0)) = w2 at HX2 HN2 HZ2 HO2 HB2 ⊢
  obtain ⟨HD3, HBp⟩ := bxOne w2 #[.slice none 0 0, .bool false, .slice none 0 0] 31
  have HX3 := kpB HBp.out HX2
  have HN3 := kpB HBp.out HN2
  have HZ3 := kpB HBp.out HZ2
  have HO3 := kpB HBp.out HO2
  have HB3 := Lib.hid (HB2.out.trans (HBp.out.mono HB2.out.size))
  have hPy : w.heap.size + 3 < w2.heap.size := heap_lt HO2.out
  go_upto_region 5 with fail
  clear HX2 HN2 HZ2 HO2 HB2 HBp
  generalize (w2.alloc (.cells #[.slice none 0 0, .bool false, .slice none 0 0] 31)) = w3 at HX3 HN3 HZ3 HO3 HD3 HB3 ⊢
  generalize w2.heap.size = A6 at hPy HD3 ⊢
  have hA3 : A6 < w3.heap.size := heap_lt HD3.out
  obtain ⟨m0, m1, m2, m3, m4, m5, m6, m7, m8⟩ := bx9 HX3.out
  obtain ⟨k0, k1, k2, k3, k4, k5, k6, k7, k8, k9, k10⟩ := bx11 HN3.out
  obtain ⟨d0, d1, d2⟩ := bx3 HD3.out
  go_upto_region 11 with fail
  have r0 : ∀ y : Ext w3, y.to.cell? _ = _ := fun y => ext_cell y k0
  have r1 : ∀ y : Ext w3, y.to.cell? _ = _ := fun y => ext_cell y m0
  have hsome := extSome w3
  clear m0 m1 m2 m3 m4 m5 m6 m7 m8
  clear k0 k1 k2 k3 k4 k5 k6 k7 k8 k9 k10
  clear d0 d1 d2
  clear hA3
  refine ext_region (by kernel_rfl) (by kernel_rfl) ?_
  repeat (go_big_quiet_step (fail))
  refine wpQuiet_nil ?_
  rintro _ ⟨y, hy⟩
  subst hy
  have HX4 := kpB y.below HX3
  have HN4 := kpB y.below HN3
  have HZ4 := kpB y.below HZ3
  have HO4 := kpB y.below HO3
  have HD4 := kpB y.below HD3
  have HB4 := Lib.hid (HB3.out.trans (y.below.mono HB3.out.size))
  clear hsome r0 r1 HX3 HN3 HZ3 HO3 HD3 HB3
  generalize y.to = w4 at HX4 HN4 HZ4 HO4 HD4 HB4 ⊢
  clear y
  have hA4 : A6 < w4.heap.size := heap_lt HD4.out
  obtain ⟨m0, m1, m2, m3, m4, m5, m6, m7, m8⟩ := bx9 HX4.out
  obtain ⟨k0, k1, k2, k3, k4, k5, k6, k7, k8, k9, k10⟩ := bx11 HN4.out
  obtain ⟨d0, d1, d2⟩ := bx3 HD4.out
  obtain ⟨f0, f1, f2, f3, f4, f5, f6, f7, f8⟩ := bx9f HX4.out
  go_upto_region 23 with fail
  clear f0 f1 f2 f3 f4 f5 f6 f7 f8
  have HX5 : Hid ((w4.setCell ⟨w.heap.size, 0, none⟩ (.int .i64 5)).heap[w.heap.size]? = some (.cells #[.int .i64 5, .string s.n, .string s.d, .int .i64 s.s, .int .i64 s.t, .int .i64 s.c, .int .i64 0, .int .i64 s.a, .int .i64 s.e] 28 (0, 0))) := by
    show _ = _
    simp only [World.setCell, Array.getElem?_modify, HX4.out]
    simp
  have HN5 := Lib.hid (kp1 (A := w.heap.size) (i := 0) (u := .int .i64 5) (b := w.heap.size + 1) (by omega) HN4.out)
  have HZ5 := Lib.hid (kp1 (A := w.heap.size) (i := 0) (u := .int .i64 5) (b := w.heap.size + 2) (by omega) HZ4.out)
  have HO5 := Lib.hid (kp1 (A := w.heap.size) (i := 0) (u := .int .i64 5) (b := w.heap.size + 3) (by omega) HO4.out)
  have HD5 := Lib.hid (kp1 (A := w.heap.size) (i := 0) (u := .int .i64 5) (b := A6) (by omega) HD4.out)
  have HB5 := Lib.hid (HB4.out.setCell (p := ⟨w.heap.size, 0, none⟩) (show w.heap.size ≤ w.heap.size by omega) (.int .i64 5))
  clear m0 m1 m2 m3 m4 m5 m6 m7 m8
  clear k0 k1 k2 k3 k4 k5 k6 k7 k8 k9 k10
  clear d0 d1 d2
  clear hA4
  clear HX4 HN4 HZ4 HO4 HD4 HB4
  generalize (w4.setCell ⟨w.heap.size, 0, none⟩ (.int .i64 5)) = w5 at HX5 HN5 HZ5 HO5 HD5 HB5 ⊢
  have hA5 : A6 < w5.heap.size := heap_lt HD5.out
  obtain ⟨m0, m1, m2, m3, m4, m5, m6, m7, m8⟩ := bx9 HX5.out
  obtain ⟨k0, k1, k2, k3, k4, k5, k6, k7, k8, k9, k10⟩ := bx11 HN5.out
  obtain ⟨d0, d1, d2⟩ := bx3 HD5.out
  obtain ⟨f0, f1, f2⟩ := bx3f HD5.out
  go_upto_region 24 with fail
  clear f0 f1 f2
  have HDg : Hid ((w5.setCell ⟨A6, 0, none⟩ (.slice (some ⟨w5.heap.size, 0, none⟩) 2 2)).heap[A6]? = some (.cells #[.slice (some ⟨w5.heap.size, 0, none⟩) 2 2, .bool false, .slice none 0 0] 31 (0, 0))) := by
    show _ = _
    simp only [World.setCell, Array.getElem?_modify, HD5.out]
    simp
  have HXg := Lib.hid (kp1 (A := A6) (i := 0) (u := .slice (some ⟨w5.heap.size, 0, none⟩) 2 2) (b := w.heap.size) (by omega) HX5.out)
  have HNg := Lib.hid (kp1 (A := A6) (i := 0) (u := .slice (some ⟨w5.heap.size, 0, none⟩) 2 2) (b := w.heap.size + 1) (by omega) HN5.out)
  have HZg := Lib.hid (kp1 (A := A6) (i := 0) (u := .slice (some ⟨w5.heap.size, 0, none⟩) 2 2) (b := w.heap.size + 2) (by omega) HZ5.out)
  have HOg := Lib.hid (kp1 (A := A6) (i := 0) (u := .slice (some ⟨w5.heap.size, 0, none⟩) 2 2) (b := w.heap.size + 3) (by omega) HO5.out)
  have HBg := Lib.hid (HB5.out.setCell (p := ⟨A6, 0, none⟩) (show w.heap.size ≤ A6 by omega) (.slice (some ⟨w5.heap.size, 0, none⟩) 2 2))
  obtain ⟨HRn, HBn⟩ := bxOne (w5.setCell ⟨A6, 0, none⟩ (.slice (some ⟨w5.heap.size, 0, none⟩) 2 2)) #[.int .i64 10, .string ⟨#[]⟩, .string ⟨#[]⟩, .string ⟨#[]⟩, .int .i64 0, .int .i64 0, .int .i64 0, .int .i64 0, .bool false, .slice none 0 0, .slice none 0 0, .int .i64 11, .string ⟨#[]⟩, .string ⟨#[]⟩, .string ⟨#[]⟩, .int .i64 0, .int .i64 s.s, .int .i64 0, .int .i64 0, .bool false, .slice none 0 0, .slice none 0 0] 42
  have HR16 : Hid (((w5.setCell ⟨A6, 0, none⟩ (.slice (some ⟨w5.heap.size, 0, none⟩) 2 2)).alloc (.cells #[.int .i64 10, .string ⟨#[]⟩, .string ⟨#[]⟩, .string ⟨#[]⟩, .int .i64 0, .int .i64 0, .int .i64 0, .int .i64 0, .bool false, .slice none 0 0, .slice none 0 0, .int .i64 11, .string ⟨#[]⟩, .string ⟨#[]⟩, .string ⟨#[]⟩, .int .i64 0, .int .i64 s.s, .int .i64 0, .int .i64 0, .bool false, .slice none 0 0, .slice none 0 0] 42)).heap[w5.heap.size]? = some (.cells #[.int .i64 10, .string ⟨#[]⟩, .string ⟨#[]⟩, .string ⟨#[]⟩, .int .i64 0, .int .i64 0, .int .i64 0, .int .i64 0, .bool false, .slice none 0 0, .slice none 0 0, .int .i64 11, .string ⟨#[]⟩, .string ⟨#[]⟩, .string ⟨#[]⟩, .int .i64 0, .int .i64 s.s, .int .i64 0, .int .i64 0, .bool false, .slice none 0 0, .slice none 0 0] 42 (0, 0))) := by
    have h := HRn.out
    rw [st_size] at h
    exact h
  have HX6 := kpB HBn.out HXg
  have HN6 := kpB HBn.out HNg
  have HZ6 := kpB HBn.out HZg
  have HO6 := kpB HBn.out HOg
  have HD6 := kpB HBn.out HDg
  have HB6 := Lib.hid (HBg.out.trans (HBn.out.mono (by rw [st_size]; exact HB5.out.size)))
  have hR1 : A6 < w5.heap.size := hA5
  clear m0 m1 m2 m3 m4 m5 m6 m7 m8
  clear k0 k1 k2 k3 k4 k5 k6 k7 k8 k9 k10
  clear d0 d1 d2
  clear hA5
  clear HRn HBn HXg HNg HZg HOg HDg HBg HX5 HN5 HZ5 HO5 HD5 HB5
  generalize ((w5.setCell ⟨A6, 0, none⟩ (.slice (some ⟨w5.heap.size, 0, none⟩) 2 2)).alloc (.cells #[.int .i64 10, .string ⟨#[]⟩, .string ⟨#[]⟩, .string ⟨#[]⟩, .int .i64 0, .int .i64 0, .int .i64 0, .int .i64 0, .bool false, .slice none 0 0, .slice none 0 0, .int .i64 11, .string ⟨#[]⟩, .string ⟨#[]⟩, .string ⟨#[]⟩, .int .i64 0, .int .i64 s.s, .int .i64 0, .int .i64 0, .bool false, .slice none 0 0, .slice none 0 0] 42)) = w6 at HX6 HN6 HZ6 HO6 HD6 HR16 HB6 ⊢
  generalize w5.heap.size = R1 at HD6 HR16 hR1 ⊢
  have hA6 : A6 < w6.heap.size := heap_lt HD6.out
  obtain ⟨m0, m1, m2, m3, m4, m5, m6, m7, m8⟩ := bx9 HX6.out
  obtain ⟨k0, k1, k2, k3, k4, k5, k6, k7, k8, k9, k10⟩ := bx11 HN6.out
  obtain ⟨d0, d1, d2⟩ := bx3 HD6.out
  obtain ⟨f0, f1, f2⟩ := bx3f HD6.out
  go_upto_region 27 with fail
  clear f0 f1 f2
  have HDg : Hid ((w6.setCell ⟨A6, 2, none⟩ (.slice (some ⟨w6.heap.size, 0, none⟩) 1 1)).heap[A6]? = some (.cells #[.slice (some ⟨R1, 0, none⟩) 2 2, .bool false, .slice (some ⟨w6.heap.size, 0, none⟩) 1 1] 31 (0, 0))) := by
    show _ = _
    simp only [World.setCell, Array.getElem?_modify, HD6.out]
    simp
  have HXg := Lib.hid (kp1 (A := A6) (i := 2) (u := .slice (some ⟨w6.heap.size, 0, none⟩) 1 1) (b := w.heap.size) (by omega) HX6.out)
  have HNg := Lib.hid (kp1 (A := A6) (i := 2) (u := .slice (some ⟨w6.heap.size, 0, none⟩) 1 1) (b := w.heap.size + 1) (by omega) HN6.out)
  have HZg := Lib.hid (kp1 (A := A6) (i := 2) (u := .slice (some ⟨w6.heap.size, 0, none⟩) 1 1) (b := w.heap.size + 2) (by omega) HZ6.out)
  have HOg := Lib.hid (kp1 (A := A6) (i := 2) (u := .slice (some ⟨w6.heap.size, 0, none⟩) 1 1) (b := w.heap.size + 3) (by omega) HO6.out)
  have HR1g := Lib.hid (kp1 (A := A6) (i := 2) (u := .slice (some ⟨w6.heap.size, 0, none⟩) 1 1) (b := R1) (by omega) HR16.out)
  have HBg := Lib.hid (HB6.out.setCell (p := ⟨A6, 2, none⟩) (show w.heap.size ≤ A6 by omega) (.slice (some ⟨w6.heap.size, 0, none⟩) 1 1))
  obtain ⟨HRn, HBn⟩ := bxOne (w6.setCell ⟨A6, 2, none⟩ (.slice (some ⟨w6.heap.size, 0, none⟩) 1 1)) #[.int .i64 n.k, .string n.n, .string n.x, .string n.d, .int .i64 n.c, .int .i64 n.s, .int .i64 n.e, .int .i64 n.t, .bool n.o, .slice ai n.l.length ci, .slice az n.z.length cz] 42
  have HR27 : Hid (((w6.setCell ⟨A6, 2, none⟩ (.slice (some ⟨w6.heap.size, 0, none⟩) 1 1)).alloc (.cells #[.int .i64 n.k, .string n.n, .string n.x, .string n.d, .int .i64 n.c, .int .i64 n.s, .int .i64 n.e, .int .i64 n.t, .bool n.o, .slice ai n.l.length ci, .slice az n.z.length cz] 42)).heap[w6.heap.size]? = some (.cells #[.int .i64 n.k, .string n.n, .string n.x, .string n.d, .int .i64 n.c, .int .i64 n.s, .int .i64 n.e, .int .i64 n.t, .bool n.o, .slice ai n.l.length ci, .slice az n.z.length cz] 42 (0, 0))) := by
    have h := HRn.out
    rw [st_size] at h
    exact h
  have HX7 := kpB HBn.out HXg
  have HN7 := kpB HBn.out HNg
  have HZ7 := kpB HBn.out HZg
  have HO7 := kpB HBn.out HOg
  have HD7 := kpB HBn.out HDg
  have HR17 := kpB HBn.out HR1g
  have HB7 := Lib.hid (HBg.out.trans (HBn.out.mono (by rw [st_size]; exact HB6.out.size)))
  have hR2 : A6 < w6.heap.size := hA6
  clear m0 m1 m2 m3 m4 m5 m6 m7 m8
  clear k0 k1 k2 k3 k4 k5 k6 k7 k8 k9 k10
  clear d0 d1 d2
  clear hA6
  clear HRn HBn HXg HNg HZg HOg HDg HR1g HBg HX6 HN6 HZ6 HO6 HD6 HR16 HB6
  generalize ((w6.setCell ⟨A6, 2, none⟩ (.slice (some ⟨w6.heap.size, 0, none⟩) 1 1)).alloc (.cells #[.int .i64 n.k, .string n.n, .string n.x, .string n.d, .int .i64 n.c, .int .i64 n.s, .int .i64 n.e, .int .i64 n.t, .bool n.o, .slice ai n.l.length ci, .slice az n.z.length cz] 42)) = w7 at HX7 HN7 HZ7 HO7 HD7 HR17 HR27 HB7 ⊢
  generalize w6.heap.size = R2 at HD7 HR27 hR2 ⊢
  have hA7 : A6 < w7.heap.size := heap_lt HD7.out
  obtain ⟨m0, m1, m2, m3, m4, m5, m6, m7, m8⟩ := bx9 HX7.out
  obtain ⟨k0, k1, k2, k3, k4, k5, k6, k7, k8, k9, k10⟩ := bx11 HN7.out
  obtain ⟨d0, d1, d2⟩ := bx3 HD7.out
  obtain ⟨f0, f1, f2, f3, f4, f5, f6, f7, f8⟩ := bx9f HX7.out
  go_upto_region 29 with fail
  clear f0 f1 f2 f3 f4 f5 f6 f7 f8
  have HX8 : Hid ((w7.setCell ⟨w.heap.size, 7, none⟩ (.int .i64 0)).heap[w.heap.size]? = some (.cells #[.int .i64 5, .string s.n, .string s.d, .int .i64 s.s, .int .i64 s.t, .int .i64 s.c, .int .i64 0, .int .i64 0, .int .i64 s.e] 28 (0, 0))) := by
    show _ = _
    simp only [World.setCell, Array.getElem?_modify, HX7.out]
    simp
  have HN8 := Lib.hid (kp1 (A := w.heap.size) (i := 7) (u := .int .i64 0) (b := w.heap.size + 1) (by omega) HN7.out)
  have HZ8 := Lib.hid (kp1 (A := w.heap.size) (i := 7) (u := .int .i64 0) (b := w.heap.size + 2) (by omega) HZ7.out)
  have HO8 := Lib.hid (kp1 (A := w.heap.size) (i := 7) (u := .int .i64 0) (b := w.heap.size + 3) (by omega) HO7.out)
  have HD8 := Lib.hid (kp1 (A := w.heap.size) (i := 7) (u := .int .i64 0) (b := A6) (by omega) HD7.out)
  have HR18 := Lib.hid (kp1 (A := w.heap.size) (i := 7) (u := .int .i64 0) (b := R1) (by omega) HR17.out)
  have HR28 := Lib.hid (kp1 (A := w.heap.size) (i := 7) (u := .int .i64 0) (b := R2) (by omega) HR27.out)
  have HB8 := Lib.hid (HB7.out.setCell (p := ⟨w.heap.size, 7, none⟩) (show w.heap.size ≤ w.heap.size by omega) (.int .i64 0))
  clear m0 m1 m2 m3 m4 m5 m6 m7 m8
  clear k0 k1 k2 k3 k4 k5 k6 k7 k8 k9 k10
  clear d0 d1 d2
  clear hA7
  clear HX7 HN7 HZ7 HO7 HD7 HR17 HR27 HB7
  generalize (w7.setCell ⟨w.heap.size, 7, none⟩ (.int .i64 0)) = w8 at HX8 HN8 HZ8 HO8 HD8 HR18 HR28 HB8 ⊢
  have hA8 : A6 < w8.heap.size := heap_lt HD8.out
  obtain ⟨m0, m1, m2, m3, m4, m5, m6, m7, m8⟩ := bx9 HX8.out
  obtain ⟨k0, k1, k2, k3, k4, k5, k6, k7, k8, k9, k10⟩ := bx11 HN8.out
  obtain ⟨d0, d1, d2⟩ := bx3 HD8.out
  clear m0 m1 m2 m3 m4 m5 m6 m7 m8
  clear k0 k1 k2 k3 k4 k5 k6 k7 k8 k9 k10
  clear d0 d1 d2
  clear hA8
  have hZN : w.heap.size + 1 + 1 < w8.heap.size := heap_lt HZ8.out
  have hAN : A6 < w8.heap.size := heap_lt HD8.out
  refine region_Z (w := w) (Z := w.heap.size + 1 + 1) 3 2 (fun j => [140, 141, 100002].getD j 0) [140, 141] [.eq (.agg #[.int .i64 5, .string s.n, .string s.d, .int .i64 s.s, .int .i64 s.t, .int .i64 s.c, .int .i64 0, .int .i64 0, .int .i64 s.e]), .eq (.agg #[.slice (some ⟨R1, 0, none⟩) 2 2, .bool false, .slice (some ⟨R2, 0, none⟩) 1 1]), .st #[.int .i64 5, .string s.n, .string s.d, .int .i64 s.s, .int .i64 s.t, .int .i64 s.c, .int .i64 0, .int .i64 0, .int .i64 s.e]] (by kernel_rfl) (by kernel_rfl) (by kernel_rfl) (by kernel_rfl) (by decide) (by kernel_rfl) (by kernel_rfl) (by kernel_rfl) (by kernel_rfl) (fun h => absurd (show 2 < 3 by decide) h) HB8.out HZ8.out ?_ ?_
  · intro i o hi ho q W hsz hout hJ hZ0 hdep
    have HXW := oldJ hJ (by omega) HX8
    obtain ⟨x0, x1, x2, x3, x4, x5, x6, x7, x8⟩ := bx9 HXW.out
    have HDW := oldJ hJ (by omega) HD8
    obtain ⟨y0, y1, y2⟩ := bx3 HDW.out
    have hc : i = 0 ∨ i = 1 ∨ i = 2 := by omega
    rcases hc with rfl | rfl | rfl
    · -- 0
      cases ho
      refine plainR (by decide) ?_
      have e2 : q.eval (.tmp 2) = .pointer (some ⟨w.heap.size, 0, none⟩) := (hout 2 (by decide)).trans rfl
      refine gives_read (v := .agg #[.int .i64 5, .string s.n, .string s.d, .int .i64 s.s, .int .i64 s.t, .int .i64 s.c, .int .i64 0, .int .i64 0, .int .i64 s.e]) ?_ rfl
      unfold execOp
      dsimp only
      rw [e2]
      go_simp
    · -- 1
      cases ho
      refine plainR (by decide) ?_
      have e6 : q.eval (.tmp 6) = .pointer (some ⟨A6, 0, none⟩) := (hout 6 (by decide)).trans rfl
      refine gives_read (v := .agg #[.slice (some ⟨R1, 0, none⟩) 2 2, .bool false, .slice (some ⟨R2, 0, none⟩) 1 1]) ?_ rfl
      unfold execOp
      dsimp only
      rw [e6]
      go_simp
    · -- 2
      cases ho
      have e4 : q.eval (.tmp 4) = .pointer (some ⟨w.heap.size + 1 + 1, 0, none⟩) := (hout 4 (by decide)).trans rfl
      have e140 : q.eval (.tmp 140) = .agg #[.int .i64 5, .string s.n, .string s.d, .int .i64 s.s, .int .i64 s.t, .int .i64 s.c, .int .i64 0, .int .i64 0, .int .i64 s.e] := hdep ⟨0, .data⟩ (by simp) rfl (by decide)
      have hz := hZ0 (by kernel_rfl)
      obtain ⟨zc0, zc1, zc2, zc3, zc4, zc5, zc6, zc7, zc8⟩ := bx9 hz
      obtain ⟨zf0, zf1, zf2, zf3, zf4, zf5, zf6, zf7, zf8⟩ := bx9f hz
      refine givesR_skip ?_ (stZ_of (by omega) hz (.int .i64 5) (.string s.n) (.string s.d) (.int .i64 s.s) (.int .i64 s.t) (.int .i64 s.c) (.int .i64 0) (.int .i64 0) (.int .i64 s.e)) (st9 hz (.int .i64 5) (.string s.n) (.string s.d) (.int .i64 s.s) (.int .i64 s.t) (.int .i64 s.c) (.int .i64 0) (.int .i64 0) (.int .i64 s.e))
      unfold execOp
      dsimp only
      rw [e4, e140]
      go_simp
  · intro q W hq hJ hv
    have e141 : q.eval (.tmp 141) = .agg #[.slice (some ⟨R1, 0, none⟩) 2 2, .bool false, .slice (some ⟨R2, 0, none⟩) 1 1] := hv 1 (by decide)
    have hZW : W.heap[w.heap.size + 1 + 1]? = some (.cells #[.int .i64 5, .string s.n, .string s.d, .int .i64 s.s, .int .i64 s.t, .int .i64 s.c, .int .i64 0, .int .i64 0, .int .i64 s.e] 28 (0, 0)) := hv 2 (by decide)
    have HBW := Lib.hid hJ.bel
    have HOW := oldJ hJ (by omega) HO8
    have HZW := Lib.hid hZW
    have HR1W := oldJ hJ (by omega) HR18
    have HR2W := oldJ hJ (by omega) HR28
    clear hJ hZW HX8 HN8 HZ8 HO8 HD8 HR18 HR28
    have hq2 : q = canonL q [140, 141] _ := hq
    simp only [canonL] at hq2
    rw [e141] at hq2
    clear hq hv e141
    generalize q.eval (.tmp 140) = u140 at hq2
    subst hq2
    obtain ⟨y0, y1, y2⟩ := bx3 HOW.out
    obtain ⟨v0, v1, v2⟩ := bx3f HOW.out
    simp only [List.drop_succ_cons, List.drop_zero]
    go_wp2_with fail
    exact bodyPost_ret (results_two Tryz.results25 _ _ (w.heap.size + 2) (w.heap.size + 3) _ _ rfl rfl (load_s ((st3k (by omega) (.slice (some ⟨R1, 0, none⟩) 2 2) (.bool false) (.slice (some ⟨R2, 0, none⟩) 1 1)).trans HZW.out)) (load_o (st3 HOW.out (.slice (some ⟨R1, 0, none⟩) 2 2) (.bool false) (.slice (some ⟨R2, 0, none⟩) 1 1)))) rfl ⟨some ⟨R1, 0, none⟩, some ⟨R2, 0, none⟩, 2, 1, rfl, st3b HBW.out (by omega) (.slice (some ⟨R1, 0, none⟩) 2 2) (.bool false) (.slice (some ⟨R2, 0, none⟩) 1 1), fr_two (nK 10) { nK 11 with s := s.s } (by omega) ((st3k (by omega) (.slice (some ⟨R1, 0, none⟩) 2 2) (.bool false) (.slice (some ⟨R2, 0, none⟩) 1 1)).trans HR1W.out) (fun _ _ => ntl_plain _ rfl rfl (Nat.zero_le _) (Nat.zero_le _) (Nat.zero_le _)) (fun _ _ => ntl_plain _ rfl rfl (Nat.zero_le _) (Nat.zero_le _) (Nat.zero_le _)), fv_one n (by omega) ((st3k (by omega) (.slice (some ⟨R1, 0, none⟩) 2 2) (.bool false) (.slice (some ⟨R2, 0, none⟩) 1 1)).trans HR2W.out)⟩
end Go.Proofs.YthbeempmdpfnmaaGreatDoor.T
