/- Contracts: the document's Stop, Tick. Conditions: those of each theorem's head. -/
import Derived.Test.YthbeempmdpfnmaaGreatDoorSg
namespace Go.Proofs.YthbeempmdpfnmaaGreatDoor.T
open Go.RowKit Go.Lib

set_option maxRecDepth 100000 in
set_option maxHeartbeats 8000000 in
theorem rstop_off (s : Ss) (code : Int) (w : World) (hu : undr s.p = false) : Calls Tryz.prog 27 #[.agg #[.int .i64 s.p, .string s.n, .string s.d, .int .i64 s.s, .int .i64 s.t, .int .i64 s.c, .int .i64 s.h, .int .i64 s.a, .int .i64 s.e], .int .i64 code] w (StQ (s, zO) w) := by
  have CU := Lib.hid (fun W => rundr_any s W)
  rw [hu] at CU
  clear hu
  obtain ⟨HB, HX, HZ, HO⟩ := bxThree w #[.int .i64 s.p, .string s.n, .string s.d, .int .i64 s.s, .int .i64 s.t, .int .i64 s.c, .int .i64 s.h, .int .i64 s.a, .int .i64 s.e] 28 #[.int .i64 0, .string ⟨#[]⟩, .string ⟨#[]⟩, .int .i64 0, .int .i64 0, .int .i64 0, .int .i64 0, .int .i64 0, .int .i64 0] 28 #[.slice none 0 0, .bool false, .slice none 0 0] 31
  obtain ⟨m0, m1, m2, m3, m4, m5, m6, m7, m8⟩ := bx9 HX.out
  go_enter Tryz.func27, Tryz.ntmps27
  go_wp2_with fail
  refine (CU.out _).mono ?_
  rintro e w1 ⟨rfl, hb⟩
  clear m0 m1 m2 m3 m4 m5 m6 m7 m8
  have HX1 := kpB hb HX
  have HZ1 := kpB hb HZ
  have HO1 := kpB hb HO
  have HB1 := Lib.hid (HB.out.trans (hb.mono HB.out.size))
  clear hb HB HX HZ HO CU
  obtain ⟨m0, m1, m2, m3, m4, m5, m6, m7, m8⟩ := bx9 HX1.out
  obtain ⟨z0, z1, z2, z3, z4, z5, z6, z7, z8⟩ := bx9 HZ1.out
  obtain ⟨zf0, zf1, zf2, zf3, zf4, zf5, zf6, zf7, zf8⟩ := bx9f HZ1.out
  obtain ⟨y0, y1, y2⟩ := bx3 HO1.out
  obtain ⟨yf0, yf1, yf2⟩ := bx3f HO1.out
  have hP : w.heap.size + 2 < w1.heap.size := heap_lt HO1.out
  have hPa : w.heap.size + 1 < w1.heap.size := heap_lt HZ1.out
  have hPb : w.heap.size < w1.heap.size := heap_lt HX1.out
  go_wp2_with fail
  exact bodyPost_ret (results_two Tryz.results27 _ _ (w.heap.size + 1) (w.heap.size + 2) _ _ rfl rfl (load_s ((st3k (by omega) (.slice none 0 0) (.bool false) (.slice none 0 0)).trans (st9 HZ1.out (.int .i64 s.p) (.string s.n) (.string s.d) (.int .i64 s.s) (.int .i64 s.t) (.int .i64 s.c) (.int .i64 s.h) (.int .i64 s.a) (.int .i64 s.e)))) (load_o (st3 ((st9k (by omega) (.int .i64 s.p) (.string s.n) (.string s.d) (.int .i64 s.s) (.int .i64 s.t) (.int .i64 s.c) (.int .i64 s.h) (.int .i64 s.a) (.int .i64 s.e)).trans HO1.out) (.slice none 0 0) (.bool false) (.slice none 0 0)))) rfl ⟨none, none, 0, 0, rfl, st3b (st9b HB1.out (by omega) (.int .i64 s.p) (.string s.n) (.string s.d) (.int .i64 s.s) (.int .i64 s.t) (.int .i64 s.c) (.int .i64 s.h) (.int .i64 s.a) (.int .i64 s.e)) (by omega) (.slice none 0 0) (.bool false) (.slice none 0 0), fr_nil _ _ _, fr_nil _ _ _⟩
set_option maxRecDepth 100000 in
set_option maxHeartbeats 8000000 in
theorem rstop_on (s : Ss) (code : Int) (w : World) (hu : undr s.p = true) : Calls Tryz.prog 27 #[.agg #[.int .i64 s.p, .string s.n, .string s.d, .int .i64 s.s, .int .i64 s.t, .int .i64 s.c, .int .i64 s.h, .int .i64 s.a, .int .i64 s.e], .int .i64 code] w (StQ ({ s with p := 6, e := code, a := 0 }, ⟨[nK 3], false, []⟩) w) := by
  have CU := Lib.hid (fun W => rundr_any s W)
  rw [hu] at CU
  clear hu
  obtain ⟨HB, HX, HZ, HO⟩ := bxThree w #[.int .i64 s.p, .string s.n, .string s.d, .int .i64 s.s, .int .i64 s.t, .int .i64 s.c, .int .i64 s.h, .int .i64 s.a, .int .i64 s.e] 28 #[.int .i64 0, .string ⟨#[]⟩, .string ⟨#[]⟩, .int .i64 0, .int .i64 0, .int .i64 0, .int .i64 0, .int .i64 0, .int .i64 0] 28 #[.slice none 0 0, .bool false, .slice none 0 0] 31
  obtain ⟨m0, m1, m2, m3, m4, m5, m6, m7, m8⟩ := bx9 HX.out
  go_enter Tryz.func27, Tryz.ntmps27
  go_wp2_with fail
  refine (CU.out _).mono ?_
  rintro e w1 ⟨rfl, hb⟩
  clear m0 m1 m2 m3 m4 m5 m6 m7 m8
  have HX1 := kpB hb HX
  have HZ1 := kpB hb HZ
  have HO1 := kpB hb HO
  have HB1 := Lib.hid (HB.out.trans (hb.mono HB.out.size))
  clear hb HB HX HZ HO CU
  obtain ⟨m0, m1, m2, m3, m4, m5, m6, m7, m8⟩ := bx9 HX1.out
  obtain ⟨f0, f1, f2, f3, f4, f5, f6, f7, f8⟩ := bx9f HX1.out
  have hQ : w.heap.size < w1.heap.size := heap_lt HX1.out
  go_upto_region 4 with fail
  have HX2 : Hid ((((w1.setCell ⟨w.heap.size, 0, none⟩ (.int .i64 6)).setCell ⟨w.heap.size, 8, none⟩ (.int .i64 code)).setCell ⟨w.heap.size, 7, none⟩ (.int .i64 0)).heap[w.heap.size]? = some (.cells #[.int .i64 6, .string s.n, .string s.d, .int .i64 s.s, .int .i64 s.t, .int .i64 s.c, .int .i64 s.h, .int .i64 0, .int .i64 code] 28 (0, 0))) := by
    show _ = _
    simp [World.setCell, Array.getElem?_modify, HX1.out]
  have HZ2 := Lib.hid (kp1 (A := w.heap.size) (i := 7) (u := .int .i64 0) (b := w.heap.size + 1) (by omega) (kp1 (A := w.heap.size) (i := 8) (u := .int .i64 code) (b := w.heap.size + 1) (by omega) (kp1 (A := w.heap.size) (i := 0) (u := .int .i64 6) (b := w.heap.size + 1) (by omega) HZ1.out)))
  have HO2 := Lib.hid (kp1 (A := w.heap.size) (i := 7) (u := .int .i64 0) (b := w.heap.size + 2) (by omega) (kp1 (A := w.heap.size) (i := 8) (u := .int .i64 code) (b := w.heap.size + 2) (by omega) (kp1 (A := w.heap.size) (i := 0) (u := .int .i64 6) (b := w.heap.size + 2) (by omega) HO1.out)))
  have HB2 := Lib.hid (((HB1.out.setCell (p := ⟨w.heap.size, 0, none⟩) (Nat.le_refl _) (.int .i64 6)).setCell (p := ⟨w.heap.size, 8, none⟩) (Nat.le_refl _) (.int .i64 code)).setCell (p := ⟨w.heap.size, 7, none⟩) (Nat.le_refl _) (.int .i64 0))
  clear m0 m1 m2 m3 m4 m5 m6 m7 m8 f0 f1 f2 f3 f4 f5 f6 f7 f8
  clear HX1 HZ1 HO1 HB1 hQ
  generalize (((w1.setCell ⟨w.heap.size, 0, none⟩ (.int .i64 6)).setCell ⟨w.heap.size, 8, none⟩ (.int .i64 code)).setCell ⟨w.heap.size, 7, none⟩ (.int .i64 0)) = w2 at HX2 HZ2 HO2 HB2 ⊢
  obtain ⟨m0, m1, m2, m3, m4, m5, m6, m7, m8⟩ := bx9 HX2.out
  obtain ⟨z0, z1, z2, z3, z4, z5, z6, z7, z8⟩ := bx9 HZ2.out
  obtain ⟨zf0, zf1, zf2, zf3, zf4, zf5, zf6, zf7, zf8⟩ := bx9f HZ2.out
  obtain ⟨y0, y1, y2⟩ := bx3 HO2.out
  obtain ⟨yf0, yf1, yf2⟩ := bx3f HO2.out
  have hP : w.heap.size + 2 < w2.heap.size := heap_lt HO2.out
  have hPa : w.heap.size + 1 < w2.heap.size := heap_lt HZ2.out
  have hPb : w.heap.size < w2.heap.size := heap_lt HX2.out
  go_wp2_with fail
  have K0 := Lib.hid ((st3k (A := w.heap.size + 2) (b := w.heap.size + 1) (by omega) (.slice (some ⟨w2.heap.size, 0, none⟩) 1 1) (.bool false) (.slice none 0 0)).trans (st9 HZ2.out (.int .i64 6) (.string s.n) (.string s.d) (.int .i64 s.s) (.int .i64 s.t) (.int .i64 s.c) (.int .i64 s.h) (.int .i64 0) (.int .i64 code)))
  have K1 := Lib.hid (st3 ((st9k (A := w.heap.size + 1) (b := w.heap.size + 2) (by omega) (.int .i64 6) (.string s.n) (.string s.d) (.int .i64 s.s) (.int .i64 s.t) (.int .i64 s.c) (.int .i64 s.h) (.int .i64 0) (.int .i64 code)).trans HO2.out) (.slice (some ⟨w2.heap.size, 0, none⟩) 1 1) (.bool false) (.slice none 0 0))
  have KB := Lib.hid (st3b (st9b HB2.out (show w.heap.size ≤ w.heap.size + 1 by omega) (.int .i64 6) (.string s.n) (.string s.d) (.int .i64 s.s) (.int .i64 s.t) (.int .i64 s.c) (.int .i64 s.h) (.int .i64 0) (.int .i64 code)) (show w.heap.size ≤ w.heap.size + 2 by omega) (.slice (some ⟨w2.heap.size, 0, none⟩) 1 1) (.bool false) (.slice none 0 0))
  have hsz : ((((((((((((w2.setCell ⟨w.heap.size + 1, 0, none⟩ (.int .i64 6)).setCell ⟨w.heap.size + 1, 1, none⟩ (.string s.n)).setCell ⟨w.heap.size + 1, 2, none⟩ (.string s.d)).setCell ⟨w.heap.size + 1, 3, none⟩ (.int .i64 s.s)).setCell ⟨w.heap.size + 1, 4, none⟩ (.int .i64 s.t)).setCell ⟨w.heap.size + 1, 5, none⟩ (.int .i64 s.c)).setCell ⟨w.heap.size + 1, 6, none⟩ (.int .i64 s.h)).setCell ⟨w.heap.size + 1, 7, none⟩ (.int .i64 0)).setCell ⟨w.heap.size + 1, 8, none⟩ (.int .i64 code)).setCell ⟨w.heap.size + 2, 0, none⟩ (.slice (some ⟨w2.heap.size, 0, none⟩) 1 1)).setCell ⟨w.heap.size + 2, 1, none⟩ (.bool false)).setCell ⟨w.heap.size + 2, 2, none⟩ (.slice none 0 0)).heap.size = w2.heap.size := by simp only [st_size]
  obtain ⟨R0, HE⟩ := bxOne ((((((((((((w2.setCell ⟨w.heap.size + 1, 0, none⟩ (.int .i64 6)).setCell ⟨w.heap.size + 1, 1, none⟩ (.string s.n)).setCell ⟨w.heap.size + 1, 2, none⟩ (.string s.d)).setCell ⟨w.heap.size + 1, 3, none⟩ (.int .i64 s.s)).setCell ⟨w.heap.size + 1, 4, none⟩ (.int .i64 s.t)).setCell ⟨w.heap.size + 1, 5, none⟩ (.int .i64 s.c)).setCell ⟨w.heap.size + 1, 6, none⟩ (.int .i64 s.h)).setCell ⟨w.heap.size + 1, 7, none⟩ (.int .i64 0)).setCell ⟨w.heap.size + 1, 8, none⟩ (.int .i64 code)).setCell ⟨w.heap.size + 2, 0, none⟩ (.slice (some ⟨w2.heap.size, 0, none⟩) 1 1)).setCell ⟨w.heap.size + 2, 1, none⟩ (.bool false)).setCell ⟨w.heap.size + 2, 2, none⟩ (.slice none 0 0)) #[.int .i64 3, .string ⟨#[]⟩, .string ⟨#[]⟩, .string ⟨#[]⟩, .int .i64 0, .int .i64 0, .int .i64 0, .int .i64 0, .bool false, .slice none 0 0, .slice none 0 0] 42
  replace K0 := kpB HE.out K0
  replace K1 := kpB HE.out K1
  replace KB := Lib.hid (KB.out.trans (HE.out.mono KB.out.size))
  clear HE
  rw [hsz] at R0
  exact bodyPost_ret (results_two Tryz.results27 _ _ (w.heap.size + 1) (w.heap.size + 2) _ _ rfl rfl (load_s K0.out) (load_o K1.out)) rfl ⟨some ⟨w2.heap.size, 0, none⟩, none, 1, 0, rfl, KB.out, fr_one (nK 3) (by omega) R0.out (fun _ _ => ntl_plain _ rfl rfl (Nat.zero_le _) (Nat.zero_le _) (Nat.zero_le _)), fr_nil _ _ _⟩
theorem rstop_any (s : Ss) (code : Int) (w : World) : Calls Tryz.prog 27 #[sA s, .int .i64 code] w (StQ (sp s code) w) := by
  unfold sA sp
  by_cases hu : undr s.p = false
  · rw [if_pos hu]
    exact rstop_off s code w hu
  rw [if_neg hu]
  exact rstop_on s code w (by simpa using hu)
set_option maxRecDepth 100000 in
set_option maxHeartbeats 8000000 in
theorem rtick_off (s : Ss) (w : World) (hu : undr s.p = false) : Calls Tryz.prog 26 #[.agg #[.int .i64 s.p, .string s.n, .string s.d, .int .i64 s.s, .int .i64 s.t, .int .i64 s.c, .int .i64 s.h, .int .i64 s.a, .int .i64 s.e]] w (StQ (s, zO) w) := by
  have CU := Lib.hid (fun W => rundr_any s W)
  rw [hu] at CU
  clear hu
  obtain ⟨HB, HX, HZ, HO⟩ := bxThree w #[.int .i64 s.p, .string s.n, .string s.d, .int .i64 s.s, .int .i64 s.t, .int .i64 s.c, .int .i64 s.h, .int .i64 s.a, .int .i64 s.e] 28 #[.int .i64 0, .string ⟨#[]⟩, .string ⟨#[]⟩, .int .i64 0, .int .i64 0, .int .i64 0, .int .i64 0, .int .i64 0, .int .i64 0] 28 #[.slice none 0 0, .bool false, .slice none 0 0] 31
  obtain ⟨m0, m1, m2, m3, m4, m5, m6, m7, m8⟩ := bx9 HX.out
  go_enter Tryz.func26, Tryz.ntmps26
  go_wp2_with fail
  refine (CU.out _).mono ?_
  rintro e w1 ⟨rfl, hb⟩
  clear m0 m1 m2 m3 m4 m5 m6 m7 m8
  have HX1 := kpB hb HX
  have HZ1 := kpB hb HZ
  have HO1 := kpB hb HO
  have HB1 := Lib.hid (HB.out.trans (hb.mono HB.out.size))
  clear hb HB HX HZ HO CU
  obtain ⟨m0, m1, m2, m3, m4, m5, m6, m7, m8⟩ := bx9 HX1.out
  obtain ⟨z0, z1, z2, z3, z4, z5, z6, z7, z8⟩ := bx9 HZ1.out
  obtain ⟨zf0, zf1, zf2, zf3, zf4, zf5, zf6, zf7, zf8⟩ := bx9f HZ1.out
  obtain ⟨y0, y1, y2⟩ := bx3 HO1.out
  obtain ⟨yf0, yf1, yf2⟩ := bx3f HO1.out
  have hP : w.heap.size + 2 < w1.heap.size := heap_lt HO1.out
  have hPa : w.heap.size + 1 < w1.heap.size := heap_lt HZ1.out
  have hPb : w.heap.size < w1.heap.size := heap_lt HX1.out
  go_wp2_with fail
  exact bodyPost_ret (results_two Tryz.results26 _ _ (w.heap.size + 1) (w.heap.size + 2) _ _ rfl rfl (load_s ((st3k (by omega) (.slice none 0 0) (.bool false) (.slice none 0 0)).trans (st9 HZ1.out (.int .i64 s.p) (.string s.n) (.string s.d) (.int .i64 s.s) (.int .i64 s.t) (.int .i64 s.c) (.int .i64 s.h) (.int .i64 s.a) (.int .i64 s.e)))) (load_o (st3 ((st9k (by omega) (.int .i64 s.p) (.string s.n) (.string s.d) (.int .i64 s.s) (.int .i64 s.t) (.int .i64 s.c) (.int .i64 s.h) (.int .i64 s.a) (.int .i64 s.e)).trans HO1.out) (.slice none 0 0) (.bool false) (.slice none 0 0)))) rfl ⟨none, none, 0, 0, rfl, st3b (st9b HB1.out (by omega) (.int .i64 s.p) (.string s.n) (.string s.d) (.int .i64 s.s) (.int .i64 s.t) (.int .i64 s.c) (.int .i64 s.h) (.int .i64 s.a) (.int .i64 s.e)) (by omega) (.slice none 0 0) (.bool false) (.slice none 0 0), fr_nil _ _ _, fr_nil _ _ _⟩
set_option maxRecDepth 100000 in
set_option maxHeartbeats 8000000 in
theorem rtick_n1 (s : Ss) (w : World) (hu : undr s.p = true) (hh : 0 ≤ s.h ∧ s.h ≤ 1000000000) (ha : 0 ≤ s.a ∧ s.a ≤ 1000000000) (h1 : ¬ 90 ≤ s.h + 1) (h2 : ¬ 30 ≤ s.a + 1) : Calls Tryz.prog 26 #[.agg #[.int .i64 s.p, .string s.n, .string s.d, .int .i64 s.s, .int .i64 s.t, .int .i64 s.c, .int .i64 s.h, .int .i64 s.a, .int .i64 s.e]] w (StQ ({ s with h := s.h + 1, a := s.a + 1 }, zO) w) := by
  have b1 : s.h ≤ 1000000000 := hh.2
  have b2 : 0 ≤ s.h := hh.1
  have b3 : s.a ≤ 1000000000 := ha.2
  have b4 : 0 ≤ s.a := ha.1
  clear hh ha
  have CU := Lib.hid (fun W => rundr_any s W)
  rw [hu] at CU
  clear hu
  obtain ⟨HB, HX, HZ, HO⟩ := bxThree w #[.int .i64 s.p, .string s.n, .string s.d, .int .i64 s.s, .int .i64 s.t, .int .i64 s.c, .int .i64 s.h, .int .i64 s.a, .int .i64 s.e] 28 #[.int .i64 0, .string ⟨#[]⟩, .string ⟨#[]⟩, .int .i64 0, .int .i64 0, .int .i64 0, .int .i64 0, .int .i64 0, .int .i64 0] 28 #[.slice none 0 0, .bool false, .slice none 0 0] 31
  obtain ⟨m0, m1, m2, m3, m4, m5, m6, m7, m8⟩ := bx9 HX.out
  go_enter Tryz.func26, Tryz.ntmps26
  go_wp2_with fail
  refine (CU.out _).mono ?_
  rintro e w1 ⟨rfl, hb⟩
  clear m0 m1 m2 m3 m4 m5 m6 m7 m8
  have HX1 := kpB hb HX
  have HZ1 := kpB hb HZ
  have HO1 := kpB hb HO
  have HB1 := Lib.hid (HB.out.trans (hb.mono HB.out.size))
  clear hb HB HX HZ HO CU
  obtain ⟨m0, m1, m2, m3, m4, m5, m6, m7, m8⟩ := bx9 HX1.out
  obtain ⟨f0, f1, f2, f3, f4, f5, f6, f7, f8⟩ := bx9f HX1.out
  have hQ : w.heap.size < w1.heap.size := heap_lt HX1.out
  go_upto_region 5 with fail
  have HX2 : Hid (((w1.setCell ⟨w.heap.size, 6, none⟩ (.int .i64 (s.h + 1))).setCell ⟨w.heap.size, 7, none⟩ (.int .i64 (s.a + 1))).heap[w.heap.size]? = some (.cells #[.int .i64 s.p, .string s.n, .string s.d, .int .i64 s.s, .int .i64 s.t, .int .i64 s.c, .int .i64 (s.h + 1), .int .i64 (s.a + 1), .int .i64 s.e] 28 (0, 0))) := by
    show _ = _
    simp [World.setCell, Array.getElem?_modify, HX1.out]
  have HZ2 := Lib.hid (kp1 (A := w.heap.size) (i := 7) (u := .int .i64 (s.a + 1)) (b := w.heap.size + 1) (by omega) (kp1 (A := w.heap.size) (i := 6) (u := .int .i64 (s.h + 1)) (b := w.heap.size + 1) (by omega) HZ1.out))
  have HO2 := Lib.hid (kp1 (A := w.heap.size) (i := 7) (u := .int .i64 (s.a + 1)) (b := w.heap.size + 2) (by omega) (kp1 (A := w.heap.size) (i := 6) (u := .int .i64 (s.h + 1)) (b := w.heap.size + 2) (by omega) HO1.out))
  have HB2 := Lib.hid ((HB1.out.setCell (p := ⟨w.heap.size, 6, none⟩) (Nat.le_refl _) (.int .i64 (s.h + 1))).setCell (p := ⟨w.heap.size, 7, none⟩) (Nat.le_refl _) (.int .i64 (s.a + 1)))
  clear m0 m1 m2 m3 m4 m5 m6 m7 m8 f0 f1 f2 f3 f4 f5 f6 f7 f8
  clear HX1 HZ1 HO1 HB1 hQ
  generalize ((w1.setCell ⟨w.heap.size, 6, none⟩ (.int .i64 (s.h + 1))).setCell ⟨w.heap.size, 7, none⟩ (.int .i64 (s.a + 1))) = w2 at HX2 HZ2 HO2 HB2 ⊢
  obtain ⟨m0, m1, m2, m3, m4, m5, m6, m7, m8⟩ := bx9 HX2.out
  obtain ⟨z0, z1, z2, z3, z4, z5, z6, z7, z8⟩ := bx9 HZ2.out
  obtain ⟨zf0, zf1, zf2, zf3, zf4, zf5, zf6, zf7, zf8⟩ := bx9f HZ2.out
  obtain ⟨y0, y1, y2⟩ := bx3 HO2.out
  obtain ⟨yf0, yf1, yf2⟩ := bx3f HO2.out
  have hP : w.heap.size + 2 < w2.heap.size := heap_lt HO2.out
  have hPa : w.heap.size + 1 < w2.heap.size := heap_lt HZ2.out
  have hPb : w.heap.size < w2.heap.size := heap_lt HX2.out
  go_wp2_with fail
  exact bodyPost_ret (results_two Tryz.results26 _ _ (w.heap.size + 1) (w.heap.size + 2) _ _ rfl rfl (load_s ((st3k (by omega) (.slice none 0 0) (.bool false) (.slice none 0 0)).trans (st9 HZ2.out (.int .i64 s.p) (.string s.n) (.string s.d) (.int .i64 s.s) (.int .i64 s.t) (.int .i64 s.c) (.int .i64 (s.h + 1)) (.int .i64 (s.a + 1)) (.int .i64 s.e)))) (load_o (st3 ((st9k (by omega) (.int .i64 s.p) (.string s.n) (.string s.d) (.int .i64 s.s) (.int .i64 s.t) (.int .i64 s.c) (.int .i64 (s.h + 1)) (.int .i64 (s.a + 1)) (.int .i64 s.e)).trans HO2.out) (.slice none 0 0) (.bool false) (.slice none 0 0)))) rfl ⟨none, none, 0, 0, rfl, st3b (st9b HB2.out (by omega) (.int .i64 s.p) (.string s.n) (.string s.d) (.int .i64 s.s) (.int .i64 s.t) (.int .i64 s.c) (.int .i64 (s.h + 1)) (.int .i64 (s.a + 1)) (.int .i64 s.e)) (by omega) (.slice none 0 0) (.bool false) (.slice none 0 0), fr_nil _ _ _, fr_nil _ _ _⟩
set_option maxRecDepth 100000 in
set_option maxHeartbeats 8000000 in
theorem rtick_n2 (s : Ss) (w : World) (hu : undr s.p = true) (hh : 0 ≤ s.h ∧ s.h ≤ 1000000000) (ha : 0 ≤ s.a ∧ s.a ≤ 1000000000) (h1 : ¬ 90 ≤ s.h + 1) (h2 : 30 ≤ s.a + 1) (h3 : (s.p == 5) = false) : Calls Tryz.prog 26 #[.agg #[.int .i64 s.p, .string s.n, .string s.d, .int .i64 s.s, .int .i64 s.t, .int .i64 s.c, .int .i64 s.h, .int .i64 s.a, .int .i64 s.e]] w (StQ ({ s with h := s.h + 1, a := s.a + 1 }, zO) w) := by
  have b1 : s.h ≤ 1000000000 := hh.2
  have b2 : 0 ≤ s.h := hh.1
  have b3 : s.a ≤ 1000000000 := ha.2
  have b4 : 0 ≤ s.a := ha.1
  clear hh ha
  have CU := Lib.hid (fun W => rundr_any s W)
  rw [hu] at CU
  clear hu
  obtain ⟨HB, HX, HZ, HO⟩ := bxThree w #[.int .i64 s.p, .string s.n, .string s.d, .int .i64 s.s, .int .i64 s.t, .int .i64 s.c, .int .i64 s.h, .int .i64 s.a, .int .i64 s.e] 28 #[.int .i64 0, .string ⟨#[]⟩, .string ⟨#[]⟩, .int .i64 0, .int .i64 0, .int .i64 0, .int .i64 0, .int .i64 0, .int .i64 0] 28 #[.slice none 0 0, .bool false, .slice none 0 0] 31
  obtain ⟨m0, m1, m2, m3, m4, m5, m6, m7, m8⟩ := bx9 HX.out
  go_enter Tryz.func26, Tryz.ntmps26
  go_wp2_with fail
  refine (CU.out _).mono ?_
  rintro e w1 ⟨rfl, hb⟩
  clear m0 m1 m2 m3 m4 m5 m6 m7 m8
  have HX1 := kpB hb HX
  have HZ1 := kpB hb HZ
  have HO1 := kpB hb HO
  have HB1 := Lib.hid (HB.out.trans (hb.mono HB.out.size))
  clear hb HB HX HZ HO CU
  obtain ⟨m0, m1, m2, m3, m4, m5, m6, m7, m8⟩ := bx9 HX1.out
  obtain ⟨f0, f1, f2, f3, f4, f5, f6, f7, f8⟩ := bx9f HX1.out
  have hQ : w.heap.size < w1.heap.size := heap_lt HX1.out
  go_upto_region 5 with fail
  have HX2 : Hid (((w1.setCell ⟨w.heap.size, 6, none⟩ (.int .i64 (s.h + 1))).setCell ⟨w.heap.size, 7, none⟩ (.int .i64 (s.a + 1))).heap[w.heap.size]? = some (.cells #[.int .i64 s.p, .string s.n, .string s.d, .int .i64 s.s, .int .i64 s.t, .int .i64 s.c, .int .i64 (s.h + 1), .int .i64 (s.a + 1), .int .i64 s.e] 28 (0, 0))) := by
    show _ = _
    simp [World.setCell, Array.getElem?_modify, HX1.out]
  have HZ2 := Lib.hid (kp1 (A := w.heap.size) (i := 7) (u := .int .i64 (s.a + 1)) (b := w.heap.size + 1) (by omega) (kp1 (A := w.heap.size) (i := 6) (u := .int .i64 (s.h + 1)) (b := w.heap.size + 1) (by omega) HZ1.out))
  have HO2 := Lib.hid (kp1 (A := w.heap.size) (i := 7) (u := .int .i64 (s.a + 1)) (b := w.heap.size + 2) (by omega) (kp1 (A := w.heap.size) (i := 6) (u := .int .i64 (s.h + 1)) (b := w.heap.size + 2) (by omega) HO1.out))
  have HB2 := Lib.hid ((HB1.out.setCell (p := ⟨w.heap.size, 6, none⟩) (Nat.le_refl _) (.int .i64 (s.h + 1))).setCell (p := ⟨w.heap.size, 7, none⟩) (Nat.le_refl _) (.int .i64 (s.a + 1)))
  clear m0 m1 m2 m3 m4 m5 m6 m7 m8 f0 f1 f2 f3 f4 f5 f6 f7 f8
  clear HX1 HZ1 HO1 HB1 hQ
  generalize ((w1.setCell ⟨w.heap.size, 6, none⟩ (.int .i64 (s.h + 1))).setCell ⟨w.heap.size, 7, none⟩ (.int .i64 (s.a + 1))) = w2 at HX2 HZ2 HO2 HB2 ⊢
  obtain ⟨m0, m1, m2, m3, m4, m5, m6, m7, m8⟩ := bx9 HX2.out
  obtain ⟨z0, z1, z2, z3, z4, z5, z6, z7, z8⟩ := bx9 HZ2.out
  obtain ⟨zf0, zf1, zf2, zf3, zf4, zf5, zf6, zf7, zf8⟩ := bx9f HZ2.out
  obtain ⟨y0, y1, y2⟩ := bx3 HO2.out
  obtain ⟨yf0, yf1, yf2⟩ := bx3f HO2.out
  have hP : w.heap.size + 2 < w2.heap.size := heap_lt HO2.out
  have hPa : w.heap.size + 1 < w2.heap.size := heap_lt HZ2.out
  have hPb : w.heap.size < w2.heap.size := heap_lt HX2.out
  go_wp2_with fail
  exact bodyPost_ret (results_two Tryz.results26 _ _ (w.heap.size + 1) (w.heap.size + 2) _ _ rfl rfl (load_s ((st3k (by omega) (.slice none 0 0) (.bool false) (.slice none 0 0)).trans (st9 HZ2.out (.int .i64 s.p) (.string s.n) (.string s.d) (.int .i64 s.s) (.int .i64 s.t) (.int .i64 s.c) (.int .i64 (s.h + 1)) (.int .i64 (s.a + 1)) (.int .i64 s.e)))) (load_o (st3 ((st9k (by omega) (.int .i64 s.p) (.string s.n) (.string s.d) (.int .i64 s.s) (.int .i64 s.t) (.int .i64 s.c) (.int .i64 (s.h + 1)) (.int .i64 (s.a + 1)) (.int .i64 s.e)).trans HO2.out) (.slice none 0 0) (.bool false) (.slice none 0 0)))) rfl ⟨none, none, 0, 0, rfl, st3b (st9b HB2.out (by omega) (.int .i64 s.p) (.string s.n) (.string s.d) (.int .i64 s.s) (.int .i64 s.t) (.int .i64 s.c) (.int .i64 (s.h + 1)) (.int .i64 (s.a + 1)) (.int .i64 s.e)) (by omega) (.slice none 0 0) (.bool false) (.slice none 0 0), fr_nil _ _ _, fr_nil _ _ _⟩
set_option maxRecDepth 100000 in
set_option maxHeartbeats 8000000 in
theorem rtick_b (s : Ss) (w : World) (hu : undr s.p = true) (hh : 0 ≤ s.h ∧ s.h ≤ 1000000000) (ha : 0 ≤ s.a ∧ s.a ≤ 1000000000) (h1 : ¬ 90 ≤ s.h + 1) (h2 : 30 ≤ s.a + 1) (h3 : (s.p == 5) = true) : Calls Tryz.prog 26 #[.agg #[.int .i64 s.p, .string s.n, .string s.d, .int .i64 s.s, .int .i64 s.t, .int .i64 s.c, .int .i64 s.h, .int .i64 s.a, .int .i64 s.e]] w (StQ ({ s with h := s.h + 1, a := 0 }, ⟨[nK 4], false, []⟩) w) := by
  have b1 : s.h ≤ 1000000000 := hh.2
  have b2 : 0 ≤ s.h := hh.1
  have b3 : s.a ≤ 1000000000 := ha.2
  have b4 : 0 ≤ s.a := ha.1
  clear hh ha
  have CU := Lib.hid (fun W => rundr_any s W)
  rw [hu] at CU
  clear hu
  obtain ⟨HB, HX, HZ, HO⟩ := bxThree w #[.int .i64 s.p, .string s.n, .string s.d, .int .i64 s.s, .int .i64 s.t, .int .i64 s.c, .int .i64 s.h, .int .i64 s.a, .int .i64 s.e] 28 #[.int .i64 0, .string ⟨#[]⟩, .string ⟨#[]⟩, .int .i64 0, .int .i64 0, .int .i64 0, .int .i64 0, .int .i64 0, .int .i64 0] 28 #[.slice none 0 0, .bool false, .slice none 0 0] 31
  obtain ⟨m0, m1, m2, m3, m4, m5, m6, m7, m8⟩ := bx9 HX.out
  go_enter Tryz.func26, Tryz.ntmps26
  go_wp2_with fail
  refine (CU.out _).mono ?_
  rintro e w1 ⟨rfl, hb⟩
  clear m0 m1 m2 m3 m4 m5 m6 m7 m8
  have HX1 := kpB hb HX
  have HZ1 := kpB hb HZ
  have HO1 := kpB hb HO
  have HB1 := Lib.hid (HB.out.trans (hb.mono HB.out.size))
  clear hb HB HX HZ HO CU
  obtain ⟨m0, m1, m2, m3, m4, m5, m6, m7, m8⟩ := bx9 HX1.out
  obtain ⟨f0, f1, f2, f3, f4, f5, f6, f7, f8⟩ := bx9f HX1.out
  have hQ : w.heap.size < w1.heap.size := heap_lt HX1.out
  go_upto_region 5 with fail
  have HX2 : Hid (((w1.setCell ⟨w.heap.size, 6, none⟩ (.int .i64 (s.h + 1))).setCell ⟨w.heap.size, 7, none⟩ (.int .i64 (s.a + 1))).heap[w.heap.size]? = some (.cells #[.int .i64 s.p, .string s.n, .string s.d, .int .i64 s.s, .int .i64 s.t, .int .i64 s.c, .int .i64 (s.h + 1), .int .i64 (s.a + 1), .int .i64 s.e] 28 (0, 0))) := by
    show _ = _
    simp [World.setCell, Array.getElem?_modify, HX1.out]
  have HZ2 := Lib.hid (kp1 (A := w.heap.size) (i := 7) (u := .int .i64 (s.a + 1)) (b := w.heap.size + 1) (by omega) (kp1 (A := w.heap.size) (i := 6) (u := .int .i64 (s.h + 1)) (b := w.heap.size + 1) (by omega) HZ1.out))
  have HO2 := Lib.hid (kp1 (A := w.heap.size) (i := 7) (u := .int .i64 (s.a + 1)) (b := w.heap.size + 2) (by omega) (kp1 (A := w.heap.size) (i := 6) (u := .int .i64 (s.h + 1)) (b := w.heap.size + 2) (by omega) HO1.out))
  have HB2 := Lib.hid ((HB1.out.setCell (p := ⟨w.heap.size, 6, none⟩) (Nat.le_refl _) (.int .i64 (s.h + 1))).setCell (p := ⟨w.heap.size, 7, none⟩) (Nat.le_refl _) (.int .i64 (s.a + 1)))
  clear m0 m1 m2 m3 m4 m5 m6 m7 m8 f0 f1 f2 f3 f4 f5 f6 f7 f8
  clear HX1 HZ1 HO1 HB1 hQ
  generalize ((w1.setCell ⟨w.heap.size, 6, none⟩ (.int .i64 (s.h + 1))).setCell ⟨w.heap.size, 7, none⟩ (.int .i64 (s.a + 1))) = w2 at HX2 HZ2 HO2 HB2 ⊢
  obtain ⟨m0, m1, m2, m3, m4, m5, m6, m7, m8⟩ := bx9 HX2.out
  obtain ⟨f0, f1, f2, f3, f4, f5, f6, f7, f8⟩ := bx9f HX2.out
  have hQ : w.heap.size < w2.heap.size := heap_lt HX2.out
  go_upto_region 10 with fail
  have HX3 : Hid ((w2.setCell ⟨w.heap.size, 7, none⟩ (.int .i64 0)).heap[w.heap.size]? = some (.cells #[.int .i64 s.p, .string s.n, .string s.d, .int .i64 s.s, .int .i64 s.t, .int .i64 s.c, .int .i64 (s.h + 1), .int .i64 0, .int .i64 s.e] 28 (0, 0))) := by
    show _ = _
    simp [World.setCell, Array.getElem?_modify, HX2.out]
  have HZ3 := Lib.hid (kp1 (A := w.heap.size) (i := 7) (u := .int .i64 0) (b := w.heap.size + 1) (by omega) HZ2.out)
  have HO3 := Lib.hid (kp1 (A := w.heap.size) (i := 7) (u := .int .i64 0) (b := w.heap.size + 2) (by omega) HO2.out)
  have HB3 := Lib.hid (HB2.out.setCell (p := ⟨w.heap.size, 7, none⟩) (Nat.le_refl _) (.int .i64 0))
  clear m0 m1 m2 m3 m4 m5 m6 m7 m8 f0 f1 f2 f3 f4 f5 f6 f7 f8
  clear HX2 HZ2 HO2 HB2 hQ
  generalize (w2.setCell ⟨w.heap.size, 7, none⟩ (.int .i64 0)) = w3 at HX3 HZ3 HO3 HB3 ⊢
  obtain ⟨m0, m1, m2, m3, m4, m5, m6, m7, m8⟩ := bx9 HX3.out
  obtain ⟨z0, z1, z2, z3, z4, z5, z6, z7, z8⟩ := bx9 HZ3.out
  obtain ⟨zf0, zf1, zf2, zf3, zf4, zf5, zf6, zf7, zf8⟩ := bx9f HZ3.out
  obtain ⟨y0, y1, y2⟩ := bx3 HO3.out
  obtain ⟨yf0, yf1, yf2⟩ := bx3f HO3.out
  have hP : w.heap.size + 2 < w3.heap.size := heap_lt HO3.out
  have hPa : w.heap.size + 1 < w3.heap.size := heap_lt HZ3.out
  have hPb : w.heap.size < w3.heap.size := heap_lt HX3.out
  go_wp2_with fail
  have K0 := Lib.hid ((st3k (A := w.heap.size + 2) (b := w.heap.size + 1) (by omega) (.slice (some ⟨w3.heap.size, 0, none⟩) 1 1) (.bool false) (.slice none 0 0)).trans (st9 HZ3.out (.int .i64 s.p) (.string s.n) (.string s.d) (.int .i64 s.s) (.int .i64 s.t) (.int .i64 s.c) (.int .i64 (s.h + 1)) (.int .i64 0) (.int .i64 s.e)))
  have K1 := Lib.hid (st3 ((st9k (A := w.heap.size + 1) (b := w.heap.size + 2) (by omega) (.int .i64 s.p) (.string s.n) (.string s.d) (.int .i64 s.s) (.int .i64 s.t) (.int .i64 s.c) (.int .i64 (s.h + 1)) (.int .i64 0) (.int .i64 s.e)).trans HO3.out) (.slice (some ⟨w3.heap.size, 0, none⟩) 1 1) (.bool false) (.slice none 0 0))
  have KB := Lib.hid (st3b (st9b HB3.out (show w.heap.size ≤ w.heap.size + 1 by omega) (.int .i64 s.p) (.string s.n) (.string s.d) (.int .i64 s.s) (.int .i64 s.t) (.int .i64 s.c) (.int .i64 (s.h + 1)) (.int .i64 0) (.int .i64 s.e)) (show w.heap.size ≤ w.heap.size + 2 by omega) (.slice (some ⟨w3.heap.size, 0, none⟩) 1 1) (.bool false) (.slice none 0 0))
  have hsz : ((((((((((((w3.setCell ⟨w.heap.size + 1, 0, none⟩ (.int .i64 s.p)).setCell ⟨w.heap.size + 1, 1, none⟩ (.string s.n)).setCell ⟨w.heap.size + 1, 2, none⟩ (.string s.d)).setCell ⟨w.heap.size + 1, 3, none⟩ (.int .i64 s.s)).setCell ⟨w.heap.size + 1, 4, none⟩ (.int .i64 s.t)).setCell ⟨w.heap.size + 1, 5, none⟩ (.int .i64 s.c)).setCell ⟨w.heap.size + 1, 6, none⟩ (.int .i64 (s.h + 1))).setCell ⟨w.heap.size + 1, 7, none⟩ (.int .i64 0)).setCell ⟨w.heap.size + 1, 8, none⟩ (.int .i64 s.e)).setCell ⟨w.heap.size + 2, 0, none⟩ (.slice (some ⟨w3.heap.size, 0, none⟩) 1 1)).setCell ⟨w.heap.size + 2, 1, none⟩ (.bool false)).setCell ⟨w.heap.size + 2, 2, none⟩ (.slice none 0 0)).heap.size = w3.heap.size := by simp only [st_size]
  obtain ⟨R0, HE⟩ := bxOne ((((((((((((w3.setCell ⟨w.heap.size + 1, 0, none⟩ (.int .i64 s.p)).setCell ⟨w.heap.size + 1, 1, none⟩ (.string s.n)).setCell ⟨w.heap.size + 1, 2, none⟩ (.string s.d)).setCell ⟨w.heap.size + 1, 3, none⟩ (.int .i64 s.s)).setCell ⟨w.heap.size + 1, 4, none⟩ (.int .i64 s.t)).setCell ⟨w.heap.size + 1, 5, none⟩ (.int .i64 s.c)).setCell ⟨w.heap.size + 1, 6, none⟩ (.int .i64 (s.h + 1))).setCell ⟨w.heap.size + 1, 7, none⟩ (.int .i64 0)).setCell ⟨w.heap.size + 1, 8, none⟩ (.int .i64 s.e)).setCell ⟨w.heap.size + 2, 0, none⟩ (.slice (some ⟨w3.heap.size, 0, none⟩) 1 1)).setCell ⟨w.heap.size + 2, 1, none⟩ (.bool false)).setCell ⟨w.heap.size + 2, 2, none⟩ (.slice none 0 0)) #[.int .i64 4, .string ⟨#[]⟩, .string ⟨#[]⟩, .string ⟨#[]⟩, .int .i64 0, .int .i64 0, .int .i64 0, .int .i64 0, .bool false, .slice none 0 0, .slice none 0 0] 42
  replace K0 := kpB HE.out K0
  replace K1 := kpB HE.out K1
  replace KB := Lib.hid (KB.out.trans (HE.out.mono KB.out.size))
  clear HE
  rw [hsz] at R0
  exact bodyPost_ret (results_two Tryz.results26 _ _ (w.heap.size + 1) (w.heap.size + 2) _ _ rfl rfl (load_s K0.out) (load_o K1.out)) rfl ⟨some ⟨w3.heap.size, 0, none⟩, none, 1, 0, rfl, KB.out, fr_one (nK 4) (by omega) R0.out (fun _ _ => ntl_plain _ rfl rfl (Nat.zero_le _) (Nat.zero_le _) (Nat.zero_le _)), fr_nil _ _ _⟩
set_option maxRecDepth 100000 in
set_option maxHeartbeats 8000000 in
theorem rtick_s (s : Ss) (w : World) (hu : undr s.p = true) (hh : 0 ≤ s.h ∧ s.h ≤ 1000000000) (ha : 0 ≤ s.a ∧ s.a ≤ 1000000000) (h1 : 90 ≤ s.h + 1) : Calls Tryz.prog 26 #[.agg #[.int .i64 s.p, .string s.n, .string s.d, .int .i64 s.s, .int .i64 s.t, .int .i64 s.c, .int .i64 s.h, .int .i64 s.a, .int .i64 s.e]] w (StQ ({ s with h := s.h + 1, p := 6, e := 200, a := 0 }, ⟨[nK 3], false, [{ nK 3 with c := 200 }]⟩) w) := by
  have b1 : s.h ≤ 1000000000 := hh.2
  have b2 : 0 ≤ s.h := hh.1
  have b3 : s.a ≤ 1000000000 := ha.2
  have b4 : 0 ≤ s.a := ha.1
  clear hh ha
  have CU := Lib.hid (fun W => rundr_any s W)
  rw [hu] at CU
  clear hu
  obtain ⟨HB, HX, HZ, HO⟩ := bxThree w #[.int .i64 s.p, .string s.n, .string s.d, .int .i64 s.s, .int .i64 s.t, .int .i64 s.c, .int .i64 s.h, .int .i64 s.a, .int .i64 s.e] 28 #[.int .i64 0, .string ⟨#[]⟩, .string ⟨#[]⟩, .int .i64 0, .int .i64 0, .int .i64 0, .int .i64 0, .int .i64 0, .int .i64 0] 28 #[.slice none 0 0, .bool false, .slice none 0 0] 31
  obtain ⟨m0, m1, m2, m3, m4, m5, m6, m7, m8⟩ := bx9 HX.out
  go_enter Tryz.func26, Tryz.ntmps26
  go_wp2_with fail
  refine (CU.out _).mono ?_
  rintro e w1 ⟨rfl, hb⟩
  clear m0 m1 m2 m3 m4 m5 m6 m7 m8
  have HX1 := kpB hb HX
  have HZ1 := kpB hb HZ
  have HO1 := kpB hb HO
  have HB1 := Lib.hid (HB.out.trans (hb.mono HB.out.size))
  clear hb HB HX HZ HO CU
  obtain ⟨m0, m1, m2, m3, m4, m5, m6, m7, m8⟩ := bx9 HX1.out
  obtain ⟨f0, f1, f2, f3, f4, f5, f6, f7, f8⟩ := bx9f HX1.out
  have hQ : w.heap.size < w1.heap.size := heap_lt HX1.out
  go_upto_region 5 with fail
  have HX2 : Hid (((w1.setCell ⟨w.heap.size, 6, none⟩ (.int .i64 (s.h + 1))).setCell ⟨w.heap.size, 7, none⟩ (.int .i64 (s.a + 1))).heap[w.heap.size]? = some (.cells #[.int .i64 s.p, .string s.n, .string s.d, .int .i64 s.s, .int .i64 s.t, .int .i64 s.c, .int .i64 (s.h + 1), .int .i64 (s.a + 1), .int .i64 s.e] 28 (0, 0))) := by
    show _ = _
    simp [World.setCell, Array.getElem?_modify, HX1.out]
  have HZ2 := Lib.hid (kp1 (A := w.heap.size) (i := 7) (u := .int .i64 (s.a + 1)) (b := w.heap.size + 1) (by omega) (kp1 (A := w.heap.size) (i := 6) (u := .int .i64 (s.h + 1)) (b := w.heap.size + 1) (by omega) HZ1.out))
  have HO2 := Lib.hid (kp1 (A := w.heap.size) (i := 7) (u := .int .i64 (s.a + 1)) (b := w.heap.size + 2) (by omega) (kp1 (A := w.heap.size) (i := 6) (u := .int .i64 (s.h + 1)) (b := w.heap.size + 2) (by omega) HO1.out))
  have HB2 := Lib.hid ((HB1.out.setCell (p := ⟨w.heap.size, 6, none⟩) (Nat.le_refl _) (.int .i64 (s.h + 1))).setCell (p := ⟨w.heap.size, 7, none⟩) (Nat.le_refl _) (.int .i64 (s.a + 1)))
  clear m0 m1 m2 m3 m4 m5 m6 m7 m8 f0 f1 f2 f3 f4 f5 f6 f7 f8
  clear HX1 HZ1 HO1 HB1 hQ
  generalize ((w1.setCell ⟨w.heap.size, 6, none⟩ (.int .i64 (s.h + 1))).setCell ⟨w.heap.size, 7, none⟩ (.int .i64 (s.a + 1))) = w2 at HX2 HZ2 HO2 HB2 ⊢
  obtain ⟨m0, m1, m2, m3, m4, m5, m6, m7, m8⟩ := bx9 HX2.out
  obtain ⟨f0, f1, f2, f3, f4, f5, f6, f7, f8⟩ := bx9f HX2.out
  have hQ : w.heap.size < w2.heap.size := heap_lt HX2.out
  go_upto_region 7 with fail
  have HX3 : Hid ((((w2.setCell ⟨w.heap.size, 0, none⟩ (.int .i64 6)).setCell ⟨w.heap.size, 8, none⟩ (.int .i64 200)).setCell ⟨w.heap.size, 7, none⟩ (.int .i64 0)).heap[w.heap.size]? = some (.cells #[.int .i64 6, .string s.n, .string s.d, .int .i64 s.s, .int .i64 s.t, .int .i64 s.c, .int .i64 (s.h + 1), .int .i64 0, .int .i64 200] 28 (0, 0))) := by
    show _ = _
    simp [World.setCell, Array.getElem?_modify, HX2.out]
  have HZ3 := Lib.hid (kp1 (A := w.heap.size) (i := 7) (u := .int .i64 0) (b := w.heap.size + 1) (by omega) (kp1 (A := w.heap.size) (i := 8) (u := .int .i64 200) (b := w.heap.size + 1) (by omega) (kp1 (A := w.heap.size) (i := 0) (u := .int .i64 6) (b := w.heap.size + 1) (by omega) HZ2.out)))
  have HO3 := Lib.hid (kp1 (A := w.heap.size) (i := 7) (u := .int .i64 0) (b := w.heap.size + 2) (by omega) (kp1 (A := w.heap.size) (i := 8) (u := .int .i64 200) (b := w.heap.size + 2) (by omega) (kp1 (A := w.heap.size) (i := 0) (u := .int .i64 6) (b := w.heap.size + 2) (by omega) HO2.out)))
  have HB3 := Lib.hid (((HB2.out.setCell (p := ⟨w.heap.size, 0, none⟩) (Nat.le_refl _) (.int .i64 6)).setCell (p := ⟨w.heap.size, 8, none⟩) (Nat.le_refl _) (.int .i64 200)).setCell (p := ⟨w.heap.size, 7, none⟩) (Nat.le_refl _) (.int .i64 0))
  clear m0 m1 m2 m3 m4 m5 m6 m7 m8 f0 f1 f2 f3 f4 f5 f6 f7 f8
  clear HX2 HZ2 HO2 HB2 hQ
  generalize (((w2.setCell ⟨w.heap.size, 0, none⟩ (.int .i64 6)).setCell ⟨w.heap.size, 8, none⟩ (.int .i64 200)).setCell ⟨w.heap.size, 7, none⟩ (.int .i64 0)) = w3 at HX3 HZ3 HO3 HB3 ⊢
  obtain ⟨m0, m1, m2, m3, m4, m5, m6, m7, m8⟩ := bx9 HX3.out
  obtain ⟨z0, z1, z2, z3, z4, z5, z6, z7, z8⟩ := bx9 HZ3.out
  obtain ⟨zf0, zf1, zf2, zf3, zf4, zf5, zf6, zf7, zf8⟩ := bx9f HZ3.out
  obtain ⟨y0, y1, y2⟩ := bx3 HO3.out
  obtain ⟨yf0, yf1, yf2⟩ := bx3f HO3.out
  have hP : w.heap.size + 2 < w3.heap.size := heap_lt HO3.out
  have hPa : w.heap.size + 1 < w3.heap.size := heap_lt HZ3.out
  have hPb : w.heap.size < w3.heap.size := heap_lt HX3.out
  go_wp2_with fail
  have K0 := Lib.hid ((st3k (A := w.heap.size + 2) (b := w.heap.size + 1) (by omega) (.slice (some ⟨w3.heap.size, 0, none⟩) 1 1) (.bool false) (.slice (some ⟨w3.heap.size + 1, 0, none⟩) 1 1)).trans (st9 HZ3.out (.int .i64 6) (.string s.n) (.string s.d) (.int .i64 s.s) (.int .i64 s.t) (.int .i64 s.c) (.int .i64 (s.h + 1)) (.int .i64 0) (.int .i64 200)))
  have K1 := Lib.hid (st3 ((st9k (A := w.heap.size + 1) (b := w.heap.size + 2) (by omega) (.int .i64 6) (.string s.n) (.string s.d) (.int .i64 s.s) (.int .i64 s.t) (.int .i64 s.c) (.int .i64 (s.h + 1)) (.int .i64 0) (.int .i64 200)).trans HO3.out) (.slice (some ⟨w3.heap.size, 0, none⟩) 1 1) (.bool false) (.slice (some ⟨w3.heap.size + 1, 0, none⟩) 1 1))
  have KB := Lib.hid (st3b (st9b HB3.out (show w.heap.size ≤ w.heap.size + 1 by omega) (.int .i64 6) (.string s.n) (.string s.d) (.int .i64 s.s) (.int .i64 s.t) (.int .i64 s.c) (.int .i64 (s.h + 1)) (.int .i64 0) (.int .i64 200)) (show w.heap.size ≤ w.heap.size + 2 by omega) (.slice (some ⟨w3.heap.size, 0, none⟩) 1 1) (.bool false) (.slice (some ⟨w3.heap.size + 1, 0, none⟩) 1 1))
  have hsz : ((((((((((((w3.setCell ⟨w.heap.size + 1, 0, none⟩ (.int .i64 6)).setCell ⟨w.heap.size + 1, 1, none⟩ (.string s.n)).setCell ⟨w.heap.size + 1, 2, none⟩ (.string s.d)).setCell ⟨w.heap.size + 1, 3, none⟩ (.int .i64 s.s)).setCell ⟨w.heap.size + 1, 4, none⟩ (.int .i64 s.t)).setCell ⟨w.heap.size + 1, 5, none⟩ (.int .i64 s.c)).setCell ⟨w.heap.size + 1, 6, none⟩ (.int .i64 (s.h + 1))).setCell ⟨w.heap.size + 1, 7, none⟩ (.int .i64 0)).setCell ⟨w.heap.size + 1, 8, none⟩ (.int .i64 200)).setCell ⟨w.heap.size + 2, 0, none⟩ (.slice (some ⟨w3.heap.size, 0, none⟩) 1 1)).setCell ⟨w.heap.size + 2, 1, none⟩ (.bool false)).setCell ⟨w.heap.size + 2, 2, none⟩ (.slice (some ⟨w3.heap.size + 1, 0, none⟩) 1 1)).heap.size = w3.heap.size := by simp only [st_size]
  obtain ⟨R0, HE⟩ := bxOne ((((((((((((w3.setCell ⟨w.heap.size + 1, 0, none⟩ (.int .i64 6)).setCell ⟨w.heap.size + 1, 1, none⟩ (.string s.n)).setCell ⟨w.heap.size + 1, 2, none⟩ (.string s.d)).setCell ⟨w.heap.size + 1, 3, none⟩ (.int .i64 s.s)).setCell ⟨w.heap.size + 1, 4, none⟩ (.int .i64 s.t)).setCell ⟨w.heap.size + 1, 5, none⟩ (.int .i64 s.c)).setCell ⟨w.heap.size + 1, 6, none⟩ (.int .i64 (s.h + 1))).setCell ⟨w.heap.size + 1, 7, none⟩ (.int .i64 0)).setCell ⟨w.heap.size + 1, 8, none⟩ (.int .i64 200)).setCell ⟨w.heap.size + 2, 0, none⟩ (.slice (some ⟨w3.heap.size, 0, none⟩) 1 1)).setCell ⟨w.heap.size + 2, 1, none⟩ (.bool false)).setCell ⟨w.heap.size + 2, 2, none⟩ (.slice (some ⟨w3.heap.size + 1, 0, none⟩) 1 1)) #[.int .i64 3, .string ⟨#[]⟩, .string ⟨#[]⟩, .string ⟨#[]⟩, .int .i64 0, .int .i64 0, .int .i64 0, .int .i64 0, .bool false, .slice none 0 0, .slice none 0 0] 42
  replace K0 := kpB HE.out K0
  replace K1 := kpB HE.out K1
  replace KB := Lib.hid (KB.out.trans (HE.out.mono KB.out.size))
  clear HE
  rw [hsz] at R0
  obtain ⟨R1, HE⟩ := bxOne (((((((((((((w3.setCell ⟨w.heap.size + 1, 0, none⟩ (.int .i64 6)).setCell ⟨w.heap.size + 1, 1, none⟩ (.string s.n)).setCell ⟨w.heap.size + 1, 2, none⟩ (.string s.d)).setCell ⟨w.heap.size + 1, 3, none⟩ (.int .i64 s.s)).setCell ⟨w.heap.size + 1, 4, none⟩ (.int .i64 s.t)).setCell ⟨w.heap.size + 1, 5, none⟩ (.int .i64 s.c)).setCell ⟨w.heap.size + 1, 6, none⟩ (.int .i64 (s.h + 1))).setCell ⟨w.heap.size + 1, 7, none⟩ (.int .i64 0)).setCell ⟨w.heap.size + 1, 8, none⟩ (.int .i64 200)).setCell ⟨w.heap.size + 2, 0, none⟩ (.slice (some ⟨w3.heap.size, 0, none⟩) 1 1)).setCell ⟨w.heap.size + 2, 1, none⟩ (.bool false)).setCell ⟨w.heap.size + 2, 2, none⟩ (.slice (some ⟨w3.heap.size + 1, 0, none⟩) 1 1)).alloc (.cells #[.int .i64 3, .string ⟨#[]⟩, .string ⟨#[]⟩, .string ⟨#[]⟩, .int .i64 0, .int .i64 0, .int .i64 0, .int .i64 0, .bool false, .slice none 0 0, .slice none 0 0] 42)) #[.int .i64 3, .string ⟨#[]⟩, .string ⟨#[]⟩, .string ⟨#[]⟩, .int .i64 200, .int .i64 0, .int .i64 0, .int .i64 0, .bool false, .slice none 0 0, .slice none 0 0] 42
  replace K0 := kpB HE.out K0
  replace K1 := kpB HE.out K1
  replace KB := Lib.hid (KB.out.trans (HE.out.mono KB.out.size))
  replace R0 := kpB HE.out R0
  clear HE
  rw [alloc_size, hsz] at R1
  exact bodyPost_ret (results_two Tryz.results26 _ _ (w.heap.size + 1) (w.heap.size + 2) _ _ rfl rfl (load_s K0.out) (load_o K1.out)) rfl ⟨some ⟨w3.heap.size, 0, none⟩, some ⟨w3.heap.size + 1, 0, none⟩, 1, 1, rfl, KB.out, fr_one (nK 3) (by omega) R0.out (fun _ _ => ntl_plain _ rfl rfl (Nat.zero_le _) (Nat.zero_le _) (Nat.zero_le _)), fr_one { nK 3 with c := 200 } (by omega) R1.out (fun _ _ => ntl_plain _ rfl rfl (Nat.zero_le _) (Nat.zero_le _) (Nat.zero_le _))⟩
theorem rtick_any (s : Ss) (w : World) (hh : 0 ≤ s.h ∧ s.h ≤ 1000000000) (ha : 0 ≤ s.a ∧ s.a ≤ 1000000000) : Calls Tryz.prog 26 #[sA s] w (StQ (tc s) w) := by
  unfold sA tc
  by_cases hu : undr s.p = false
  · rw [if_pos hu]
    exact rtick_off s w hu
  rw [if_neg hu]
  have hu : undr s.p = true := by simpa using hu
  by_cases h1 : 90 ≤ s.h + 1
  · rw [if_pos h1]
    exact rtick_s s w hu hh ha h1
  rw [if_neg h1]
  by_cases h2 : 30 ≤ s.a + 1
  · by_cases h3 : s.p = 5
    · rw [if_pos ⟨h2, h3⟩]
      exact rtick_b s w hu hh ha h1 h2 (by rw [h3]; rfl)
    · rw [if_neg (fun h => h3 h.2)]
      exact rtick_n2 s w hu hh ha h1 h2 (beqf h3)
  · rw [if_neg (fun h => h2 h.1)]
    exact rtick_n1 s w hu hh ha h1 h2
end Go.Proofs.YthbeempmdpfnmaaGreatDoor.T
