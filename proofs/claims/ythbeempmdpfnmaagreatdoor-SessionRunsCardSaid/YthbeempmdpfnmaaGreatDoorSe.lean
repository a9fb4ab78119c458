/- Take of package session: what is not under way, a key, a let, a host, what does nothing. Conditions: those of each theorem's head. -/
import Derived.Test.YthbeempmdpfnmaaGreatDoorSd
namespace Go.Proofs.YthbeempmdpfnmaaGreatDoor.T
open Go.RowKit Go.Lib

theorem salt_size (k p : ByteArray) : (salt k p).size = 16 := by
  unfold salt
  rw [Lib.size_eq]
  exact Dg.md5_length _
set_option maxRecDepth 100000 in
set_option maxHeartbeats 8000000 in
theorem take_off (s : Ss) (n : Nt) (ai az : Option Addr) (ci cz : Nat) (w : World) (hu : undr s.p = false) : Calls Tryz.prog 17 #[.agg #[.int .i64 s.p, .string s.n, .string s.d, .int .i64 s.s, .int .i64 s.t, .int .i64 s.c, .int .i64 s.h, .int .i64 s.a, .int .i64 s.e], .agg #[.int .i64 n.k, .string n.n, .string n.x, .string n.d, .int .i64 n.c, .int .i64 n.s, .int .i64 n.e, .int .i64 n.t, .bool n.o, .slice ai n.l.length ci, .slice az n.z.length cz]] w (StQ (s, zO) w) := by
  have CU : Hid (∀ W, Calls Tryz.prog 34 #[.agg #[.int .i64 s.p, .string s.n, .string s.d, .int .i64 s.s, .int .i64 s.t, .int .i64 s.c, .int .i64 s.h, .int .i64 s.a, .int .i64 s.e]] W (Gives (.bool false) W)) := fun W => by
    have q := undr_any s W
    rw [show undr _ = false from hu] at q
    exact q
  clear hu
  obtain ⟨HB, HX, HN, HZ, HO⟩ := bxFour w #[.int .i64 s.p, .string s.n, .string s.d, .int .i64 s.s, .int .i64 s.t, .int .i64 s.c, .int .i64 s.h, .int .i64 s.a, .int .i64 s.e] 28 #[.int .i64 n.k, .string n.n, .string n.x, .string n.d, .int .i64 n.c, .int .i64 n.s, .int .i64 n.e, .int .i64 n.t, .bool n.o, .slice ai n.l.length ci, .slice az n.z.length cz] 42 #[.int .i64 0, .string ⟨#[]⟩, .string ⟨#[]⟩, .int .i64 0, .int .i64 0, .int .i64 0, .int .i64 0, .int .i64 0, .int .i64 0] 28 #[.slice none 0 0, .bool false, .slice none 0 0] 31
  obtain ⟨m0, m1, m2, m3, m4, m5, m6, m7, m8⟩ := bx9 HX.out
  go_enter Tryz.func17, Tryz.ntmps17
  go_wp2_with fail
  refine (CU.out _).mono ?_
  rintro e w1 ⟨rfl, hb⟩
  clear m0 m1 m2 m3 m4 m5 m6 m7 m8
  have HX1 := kpB hb HX
  have HN1 := kpB hb HN
  have HZ1 := kpB hb HZ
  have HO1 := kpB hb HO
  have HB1 := Lib.hid (HB.out.trans (hb.mono HB.out.size))
  clear hb HB HX HN HZ HO CU
  obtain ⟨m0, m1, m2, m3, m4, m5, m6, m7, m8⟩ := bx9 HX1.out
  have hPx : w.heap.size + 3 < w1.heap.size := heap_lt HO1.out
  obtain ⟨z0, z1, z2, z3, z4, z5, z6, z7, z8⟩ := bx9 HZ1.out
  obtain ⟨zf0, zf1, zf2, zf3, zf4, zf5, zf6, zf7, zf8⟩ := bx9f HZ1.out
  obtain ⟨y0, y1, y2⟩ := bx3 HO1.out
  obtain ⟨yf0, yf1, yf2⟩ := bx3f HO1.out
  have hPz : w.heap.size + 3 < w1.heap.size := heap_lt HO1.out
  have hPza : w.heap.size + 2 < w1.heap.size := heap_lt HZ1.out
  have hPx1 : w.heap.size < w1.heap.size := by omega
  go_wp2_with fail
  exact bodyPost_ret (results_two Tryz.results17 _ _ (w.heap.size + 2) (w.heap.size + 3) _ _ rfl rfl (load_s ((st3k (by omega) (.slice none 0 0) (.bool false) (.slice none 0 0)).trans (st9 HZ1.out (.int .i64 s.p) (.string s.n) (.string s.d) (.int .i64 s.s) (.int .i64 s.t) (.int .i64 s.c) (.int .i64 s.h) (.int .i64 s.a) (.int .i64 s.e)))) (load_o (st3 ((st9k (by omega) (.int .i64 s.p) (.string s.n) (.string s.d) (.int .i64 s.s) (.int .i64 s.t) (.int .i64 s.c) (.int .i64 s.h) (.int .i64 s.a) (.int .i64 s.e)).trans HO1.out) (.slice none 0 0) (.bool false) (.slice none 0 0)))) rfl ⟨none, none, 0, 0, rfl, st3b (st9b HB1.out (by omega) (.int .i64 s.p) (.string s.n) (.string s.d) (.int .i64 s.s) (.int .i64 s.t) (.int .i64 s.c) (.int .i64 s.h) (.int .i64 s.a) (.int .i64 s.e)) (by omega) (.slice none 0 0) (.bool false) (.slice none 0 0), fr_nil _ _ _, fr_nil _ _ _⟩
set_option maxRecDepth 100000 in
set_option maxHeartbeats 8000000 in
theorem take_key (s : Ss) (n : Nt) (ai az : Option Addr) (ci cz : Nat) (w : World) (h1 : s.n.size ≤ 1000000) (h2 : s.d.size ≤ 20000) (h3 : n.d.size ≤ 20000) (hG : Gl w) : Calls Tryz.prog 17 #[.agg #[.int .i64 1, .string s.n, .string s.d, .int .i64 s.s, .int .i64 s.t, .int .i64 s.c, .int .i64 s.h, .int .i64 s.a, .int .i64 s.e], .agg #[.int .i64 6, .string n.n, .string n.x, .string n.d, .int .i64 n.c, .int .i64 n.s, .int .i64 n.e, .int .i64 n.t, .bool n.o, .slice ai n.l.length ci, .slice az n.z.length cz]] w (StQ ({ s with p := 2, h := 0, a := 0 }, ⟨[{ nK 7 with n := s.n, d := salt n.d s.d }], false, []⟩) w) := by
  have CL : Hid (∀ W, Below w.heap.size w W → Calls Tryz.prog 37 #[.agg #[.int .i64 1, .string s.n, .string s.d, .int .i64 s.s, .int .i64 s.t, .int .i64 s.c, .int .i64 0, .int .i64 s.a, .int .i64 s.e], .string n.d] W fun e w' => ∃ g, e = .returned (.tuple #[.agg #[.int .i64 2, .string s.n, .string s.d, .int .i64 s.s, .int .i64 s.t, .int .i64 s.c, .int .i64 0, .int .i64 0, .int .i64 s.e], .agg #[.slice (some ⟨g, 0, none⟩) 1 1, .bool false, .slice none 0 0]]) ∧ Below W.heap.size W w' ∧ w'.heap[g]? = some (.cells #[.int .i64 7, .string s.n, .string ⟨#[]⟩, .string (salt n.d s.d), .int .i64 0, .int .i64 0, .int .i64 0, .int .i64 0, .bool false, .slice none 0 0, .slice none 0 0] 42 (0, 0)) ∧ W.heap.size ≤ g) := fun W hb => logIn_any { s with p := 1, h := 0 } n.d W h1 h2 h3 (hG.below hb)
  have hsz := salt_size n.d s.d
  generalize salt n.d s.d = SL at CL hsz ⊢
  clear h2 h3 hG
  have hu : undr 1 = true := rfl
  have CU : Hid (∀ W, Calls Tryz.prog 34 #[.agg #[.int .i64 1, .string s.n, .string s.d, .int .i64 s.s, .int .i64 s.t, .int .i64 s.c, .int .i64 s.h, .int .i64 s.a, .int .i64 s.e]] W (Gives (.bool true) W)) := fun W => by
    have q := undr_any { s with p := 1 } W
    rw [show undr _ = true from hu] at q
    exact q
  clear hu
  obtain ⟨HB, HX, HN, HZ, HO⟩ := bxFour w #[.int .i64 1, .string s.n, .string s.d, .int .i64 s.s, .int .i64 s.t, .int .i64 s.c, .int .i64 s.h, .int .i64 s.a, .int .i64 s.e] 28 #[.int .i64 6, .string n.n, .string n.x, .string n.d, .int .i64 n.c, .int .i64 n.s, .int .i64 n.e, .int .i64 n.t, .bool n.o, .slice ai n.l.length ci, .slice az n.z.length cz] 42 #[.int .i64 0, .string ⟨#[]⟩, .string ⟨#[]⟩, .int .i64 0, .int .i64 0, .int .i64 0, .int .i64 0, .int .i64 0, .int .i64 0] 28 #[.slice none 0 0, .bool false, .slice none 0 0] 31
  obtain ⟨m0, m1, m2, m3, m4, m5, m6, m7, m8⟩ := bx9 HX.out
  go_enter Tryz.func17, Tryz.ntmps17
  go_wp2_with fail
  refine (CU.out _).mono ?_
  rintro e w1 ⟨rfl, hb⟩
  clear m0 m1 m2 m3 m4 m5 m6 m7 m8
  have HX1 := kpB hb HX
  have HN1 := kpB hb HN
  have HZ1 := kpB hb HZ
  have HO1 := kpB hb HO
  have HB1 := Lib.hid (HB.out.trans (hb.mono HB.out.size))
  clear hb HB HX HN HZ HO CU
  obtain ⟨m0, m1, m2, m3, m4, m5, m6, m7, m8⟩ := bx9 HX1.out
  have hPx : w.heap.size + 3 < w1.heap.size := heap_lt HO1.out
  obtain ⟨f0, f1, f2, f3, f4, f5, f6, f7, f8⟩ := bx9f HX1.out
  obtain ⟨k0, k1, k2, k3, k4, k5, k6, k7, k8, k9, k10⟩ := bx11 HN1.out
  go_upto_region 4 with fail
  clear m0 m1 m2 m3 m4 m5 m6 m7 m8 f0 f1 f2 f3 f4 f5 f6 f7 f8
  clear k0 k1 k2 k3 k4 k5 k6 k7 k8 k9 k10
  have HX2 : Hid ((w1.setCell ⟨w.heap.size, 6, none⟩ (.int .i64 0)).heap[w.heap.size]? = some (.cells #[.int .i64 1, .string s.n, .string s.d, .int .i64 s.s, .int .i64 s.t, .int .i64 s.c, .int .i64 0, .int .i64 s.a, .int .i64 s.e] 28 (0, 0))) := by
    show _ = _
    simp [World.setCell, Array.getElem?_modify, HX1.out]
  have HN2 := Lib.hid (kp1 (A := w.heap.size) (i := 6) (u := .int .i64 0) (b := w.heap.size + 1) (by omega) HN1.out)
  have HZ2 := Lib.hid (kp1 (A := w.heap.size) (i := 6) (u := .int .i64 0) (b := w.heap.size + 2) (by omega) HZ1.out)
  have HO2 := Lib.hid (kp1 (A := w.heap.size) (i := 6) (u := .int .i64 0) (b := w.heap.size + 3) (by omega) HO1.out)
  have HB2 := Lib.hid (HB1.out.setCell (p := ⟨w.heap.size, 6, none⟩) (Nat.le_refl _) (.int .i64 0))
  clear HX1 HN1 HZ1 HO1 HB1 hPx
  generalize (w1.setCell ⟨w.heap.size, 6, none⟩ (.int .i64 0)) = w2 at HX2 HN2 HZ2 HO2 HB2 ⊢
  obtain ⟨m0, m1, m2, m3, m4, m5, m6, m7, m8⟩ := bx9 HX2.out
  obtain ⟨k0, k1, k2, k3, k4, k5, k6, k7, k8, k9, k10⟩ := bx11 HN2.out
  obtain ⟨HP, HBp⟩ := bxOne w2 #[.int .i64 1, .int .i64 6] 69
  have HX3 := kpB HBp.out HX2
  have HN3 := kpB HBp.out HN2
  have HZ3 := kpB HBp.out HZ2
  have HO3 := kpB HBp.out HO2
  have HB3 := Lib.hid (HB2.out.trans (HBp.out.mono HB2.out.size))
  have hPy : w.heap.size + 3 < w2.heap.size := heap_lt HO2.out
  have p0 : (w2.alloc (.cells #[.int .i64 1, .int .i64 6] 69)).cell? ⟨w2.heap.size, 0, none⟩ = some (.int .i64 1) := by rw [Lib.cell_of_heap HP.out]; rfl
  have p1 : (w2.alloc (.cells #[.int .i64 1, .int .i64 6] 69)).cell? ⟨w2.heap.size, 1, none⟩ = some (.int .i64 6) := by rw [Lib.cell_of_heap HP.out]; rfl
  obtain ⟨mm0, mm1, mm2, mm3, mm4, mm5, mm6, mm7, mm8⟩ := bx9 HX3.out
  obtain ⟨kk0, kk1, kk2, kk3, kk4, kk5, kk6, kk7, kk8, kk9, kk10⟩ := bx11 HN3.out
  go_wp2_with fail
  refine (CL.out _ HB3.out).mono ?_
  rintro e w4 ⟨g, rfl, hb, hr, hg⟩
  have HZ4 := kpB hb HZ3
  have HO4 := kpB hb HO3
  have HB4 := Lib.hid (HB3.out.trans (hb.mono HB3.out.size))
  have HR4 := Lib.hid hr
  have hgw : w.heap.size + 3 < g := by have := heap_lt HO3.out; omega
  clear hb hr hg CL HX3 HN3 HZ3 HO3 HB3
  clear m0 m1 m2 m3 m4 m5 m6 m7 m8 mm0 mm1 mm2 mm3 mm4 mm5 mm6 mm7 mm8
  clear k0 k1 k2 k3 k4 k5 k6 k7 k8 k9 k10 kk0 kk1 kk2 kk3 kk4 kk5 kk6 kk7 kk8 kk9 kk10
  clear p0 p1 HP HBp HX2 HN2 HZ2 HO2 HB2
  obtain ⟨z0, z1, z2, z3, z4, z5, z6, z7, z8⟩ := bx9 HZ4.out
  obtain ⟨zf0, zf1, zf2, zf3, zf4, zf5, zf6, zf7, zf8⟩ := bx9f HZ4.out
  obtain ⟨y0, y1, y2⟩ := bx3 HO4.out
  obtain ⟨yf0, yf1, yf2⟩ := bx3f HO4.out
  have hPz : w.heap.size + 3 < w4.heap.size := heap_lt HO4.out
  have hPza : w.heap.size + 2 < w4.heap.size := heap_lt HZ4.out
  go_wp2_with fail
  exact bodyPost_ret (results_two Tryz.results17 _ _ (w.heap.size + 2) (w.heap.size + 3) _ _ rfl rfl (load_s ((st3k (by omega) (.slice (some ⟨g, 0, none⟩) 1 1) (.bool false) (.slice none 0 0)).trans (st9 HZ4.out (.int .i64 2) (.string s.n) (.string s.d) (.int .i64 s.s) (.int .i64 s.t) (.int .i64 s.c) (.int .i64 0) (.int .i64 0) (.int .i64 s.e)))) (load_o (st3 ((st9k (by omega) (.int .i64 2) (.string s.n) (.string s.d) (.int .i64 s.s) (.int .i64 s.t) (.int .i64 s.c) (.int .i64 0) (.int .i64 0) (.int .i64 s.e)).trans HO4.out) (.slice (some ⟨g, 0, none⟩) 1 1) (.bool false) (.slice none 0 0)))) rfl ⟨some ⟨g, 0, none⟩, none, 1, 0, rfl, st3b (st9b HB4.out (by omega) (.int .i64 2) (.string s.n) (.string s.d) (.int .i64 s.s) (.int .i64 s.t) (.int .i64 s.c) (.int .i64 0) (.int .i64 0) (.int .i64 s.e)) (by omega) (.slice (some ⟨g, 0, none⟩) 1 1) (.bool false) (.slice none 0 0), fr_one { nK 7 with n := s.n, d := SL } (by omega) ((st3k (by omega) (.slice (some ⟨g, 0, none⟩) 1 1) (.bool false) (.slice none 0 0)).trans ((st9k (by omega) (.int .i64 2) (.string s.n) (.string s.d) (.int .i64 s.s) (.int .i64 s.t) (.int .i64 s.c) (.int .i64 0) (.int .i64 0) (.int .i64 s.e)).trans HR4.out)) (fun _ _ => ntl_plain _ rfl rfl h1 (Nat.zero_le _) (by show SL.size ≤ _; omega)), fr_nil _ _ _⟩
set_option maxRecDepth 100000 in
set_option maxHeartbeats 8000000 in
theorem take_letc (s : Ss) (n : Nt) (ai az : Option Addr) (ci cz : Nat) (w : World) (h1 : n.n.size ≤ 1048576) (h2 : s.n.size ≤ 1048576) (hm : smN n.n s.n = true) (hc : n.c ≠ 0) : Calls Tryz.prog 17 #[.agg #[.int .i64 2, .string s.n, .string s.d, .int .i64 s.s, .int .i64 s.t, .int .i64 s.c, .int .i64 s.h, .int .i64 s.a, .int .i64 s.e], .agg #[.int .i64 8, .string n.n, .string n.x, .string n.d, .int .i64 n.c, .int .i64 n.s, .int .i64 n.e, .int .i64 n.t, .bool n.o, .slice ai n.l.length ci, .slice az n.z.length cz]] w (StQ ({ s with p := 6, h := 0, e := n.c }, ⟨[], false, [{ nK 3 with c := n.c }]⟩) w) := by
  have CM : Hid (∀ W, Calls Tryz.prog 38 #[.string n.n, .string s.n] W (Gives (.bool true) W)) := fun W => by
    have q := same_any n.n s.n W h1 h2
    rw [show decide _ = true from hm] at q
    exact q
  have CT : Hid (∀ W, Calls Tryz.prog 39 #[.agg #[.int .i64 2, .string s.n, .string s.d, .int .i64 s.s, .int .i64 s.t, .int .i64 s.c, .int .i64 0, .int .i64 s.a, .int .i64 s.e], .agg #[.int .i64 8, .string n.n, .string n.x, .string n.d, .int .i64 n.c, .int .i64 n.s, .int .i64 n.e, .int .i64 n.t, .bool n.o, .slice ai n.l.length ci, .slice az n.z.length cz]] W fun e w' => ∃ g, e = .returned (.tuple #[.agg #[.int .i64 6, .string s.n, .string s.d, .int .i64 s.s, .int .i64 s.t, .int .i64 s.c, .int .i64 0, .int .i64 s.a, .int .i64 n.c], .agg #[.slice none 0 0, .bool false, .slice (some ⟨g, 0, none⟩) 1 1]]) ∧ Below W.heap.size W w' ∧ w'.heap[g]? = some (.cells #[.int .i64 3, .string ⟨#[]⟩, .string ⟨#[]⟩, .string ⟨#[]⟩, .int .i64 n.c, .int .i64 0, .int .i64 0, .int .i64 0, .bool false, .slice none 0 0, .slice none 0 0] 42 (0, 0)) ∧ W.heap.size ≤ g) := fun W => let_c { s with p := 2, h := 0 } { n with k := 8 } ai az ci cz W hc
  clear hm h1 h2 hc
  have hu : undr 2 = true := rfl
  have CU : Hid (∀ W, Calls Tryz.prog 34 #[.agg #[.int .i64 2, .string s.n, .string s.d, .int .i64 s.s, .int .i64 s.t, .int .i64 s.c, .int .i64 s.h, .int .i64 s.a, .int .i64 s.e]] W (Gives (.bool true) W)) := fun W => by
    have q := undr_any { s with p := 2 } W
    rw [show undr _ = true from hu] at q
    exact q
  clear hu
  obtain ⟨HB, HX, HN, HZ, HO⟩ := bxFour w #[.int .i64 2, .string s.n, .string s.d, .int .i64 s.s, .int .i64 s.t, .int .i64 s.c, .int .i64 s.h, .int .i64 s.a, .int .i64 s.e] 28 #[.int .i64 8, .string n.n, .string n.x, .string n.d, .int .i64 n.c, .int .i64 n.s, .int .i64 n.e, .int .i64 n.t, .bool n.o, .slice ai n.l.length ci, .slice az n.z.length cz] 42 #[.int .i64 0, .string ⟨#[]⟩, .string ⟨#[]⟩, .int .i64 0, .int .i64 0, .int .i64 0, .int .i64 0, .int .i64 0, .int .i64 0] 28 #[.slice none 0 0, .bool false, .slice none 0 0] 31
  obtain ⟨m0, m1, m2, m3, m4, m5, m6, m7, m8⟩ := bx9 HX.out
  go_enter Tryz.func17, Tryz.ntmps17
  go_wp2_with fail
  refine (CU.out _).mono ?_
  rintro e w1 ⟨rfl, hb⟩
  clear m0 m1 m2 m3 m4 m5 m6 m7 m8
  have HX1 := kpB hb HX
  have HN1 := kpB hb HN
  have HZ1 := kpB hb HZ
  have HO1 := kpB hb HO
  have HB1 := Lib.hid (HB.out.trans (hb.mono HB.out.size))
  clear hb HB HX HN HZ HO CU
  obtain ⟨m0, m1, m2, m3, m4, m5, m6, m7, m8⟩ := bx9 HX1.out
  have hPx : w.heap.size + 3 < w1.heap.size := heap_lt HO1.out
  obtain ⟨f0, f1, f2, f3, f4, f5, f6, f7, f8⟩ := bx9f HX1.out
  obtain ⟨k0, k1, k2, k3, k4, k5, k6, k7, k8, k9, k10⟩ := bx11 HN1.out
  go_upto_region 4 with fail
  clear m0 m1 m2 m3 m4 m5 m6 m7 m8 f0 f1 f2 f3 f4 f5 f6 f7 f8
  clear k0 k1 k2 k3 k4 k5 k6 k7 k8 k9 k10
  have HX2 : Hid ((w1.setCell ⟨w.heap.size, 6, none⟩ (.int .i64 0)).heap[w.heap.size]? = some (.cells #[.int .i64 2, .string s.n, .string s.d, .int .i64 s.s, .int .i64 s.t, .int .i64 s.c, .int .i64 0, .int .i64 s.a, .int .i64 s.e] 28 (0, 0))) := by
    show _ = _
    simp [World.setCell, Array.getElem?_modify, HX1.out]
  have HN2 := Lib.hid (kp1 (A := w.heap.size) (i := 6) (u := .int .i64 0) (b := w.heap.size + 1) (by omega) HN1.out)
  have HZ2 := Lib.hid (kp1 (A := w.heap.size) (i := 6) (u := .int .i64 0) (b := w.heap.size + 2) (by omega) HZ1.out)
  have HO2 := Lib.hid (kp1 (A := w.heap.size) (i := 6) (u := .int .i64 0) (b := w.heap.size + 3) (by omega) HO1.out)
  have HB2 := Lib.hid (HB1.out.setCell (p := ⟨w.heap.size, 6, none⟩) (Nat.le_refl _) (.int .i64 0))
  clear HX1 HN1 HZ1 HO1 HB1 hPx
  generalize (w1.setCell ⟨w.heap.size, 6, none⟩ (.int .i64 0)) = w2 at HX2 HN2 HZ2 HO2 HB2 ⊢
  obtain ⟨m0, m1, m2, m3, m4, m5, m6, m7, m8⟩ := bx9 HX2.out
  obtain ⟨k0, k1, k2, k3, k4, k5, k6, k7, k8, k9, k10⟩ := bx11 HN2.out
  obtain ⟨HP, HBp⟩ := bxOne w2 #[.int .i64 2, .int .i64 8] 69
  have HX3 := kpB HBp.out HX2
  have HN3 := kpB HBp.out HN2
  have HZ3 := kpB HBp.out HZ2
  have HO3 := kpB HBp.out HO2
  have HB3 := Lib.hid (HB2.out.trans (HBp.out.mono HB2.out.size))
  have hPy : w.heap.size + 3 < w2.heap.size := heap_lt HO2.out
  have p0 : (w2.alloc (.cells #[.int .i64 2, .int .i64 8] 69)).cell? ⟨w2.heap.size, 0, none⟩ = some (.int .i64 2) := by rw [Lib.cell_of_heap HP.out]; rfl
  have p1 : (w2.alloc (.cells #[.int .i64 2, .int .i64 8] 69)).cell? ⟨w2.heap.size, 1, none⟩ = some (.int .i64 8) := by rw [Lib.cell_of_heap HP.out]; rfl
  obtain ⟨mm0, mm1, mm2, mm3, mm4, mm5, mm6, mm7, mm8⟩ := bx9 HX3.out
  obtain ⟨kk0, kk1, kk2, kk3, kk4, kk5, kk6, kk7, kk8, kk9, kk10⟩ := bx11 HN3.out
  go_wp2_with fail
  refine (CM.out _).mono ?_
  rintro e w4 ⟨rfl, hb⟩
  have HX4 := kpB hb HX3
  have HN4 := kpB hb HN3
  have HZ4 := kpB hb HZ3
  have HO4 := kpB hb HO3
  have HB4 := Lib.hid (HB3.out.trans (hb.mono HB3.out.size))
  have hs4 : w.heap.size + 3 < w4.heap.size := heap_lt HO4.out
  clear hb CM HX3 HN3 HZ3 HO3 HB3
  clear m0 m1 m2 m3 m4 m5 m6 m7 m8 mm0 mm1 mm2 mm3 mm4 mm5 mm6 mm7 mm8
  clear k0 k1 k2 k3 k4 k5 k6 k7 k8 k9 k10 kk0 kk1 kk2 kk3 kk4 kk5 kk6 kk7 kk8 kk9 kk10
  clear p0 p1 HP HBp HX2 HN2 HZ2 HO2 HB2
  obtain ⟨m0, m1, m2, m3, m4, m5, m6, m7, m8⟩ := bx9 HX4.out
  obtain ⟨k0, k1, k2, k3, k4, k5, k6, k7, k8, k9, k10⟩ := bx11 HN4.out
  go_wp2_with fail
  refine (CT.out _).mono ?_
  rintro e w5 ⟨g, rfl, hb, hr, hg⟩
  have HZ5 := kpB hb HZ4
  have HO5 := kpB hb HO4
  have HB5 := Lib.hid (HB4.out.trans (hb.mono HB4.out.size))
  have HR5 := Lib.hid hr
  have hgw : w.heap.size + 3 < g := by omega
  clear hb hr hg CT HX4 HN4 HZ4 HO4 HB4
  clear m0 m1 m2 m3 m4 m5 m6 m7 m8
  clear k0 k1 k2 k3 k4 k5 k6 k7 k8 k9 k10
  obtain ⟨z0, z1, z2, z3, z4, z5, z6, z7, z8⟩ := bx9 HZ5.out
  obtain ⟨zf0, zf1, zf2, zf3, zf4, zf5, zf6, zf7, zf8⟩ := bx9f HZ5.out
  obtain ⟨y0, y1, y2⟩ := bx3 HO5.out
  obtain ⟨yf0, yf1, yf2⟩ := bx3f HO5.out
  have hPz : w.heap.size + 3 < w5.heap.size := heap_lt HO5.out
  have hPza : w.heap.size + 2 < w5.heap.size := heap_lt HZ5.out
  go_wp2_with fail
  exact bodyPost_ret (results_two Tryz.results17 _ _ (w.heap.size + 2) (w.heap.size + 3) _ _ rfl rfl (load_s ((st3k (by omega) (.slice none 0 0) (.bool false) (.slice (some ⟨g, 0, none⟩) 1 1)).trans (st9 HZ5.out (.int .i64 6) (.string s.n) (.string s.d) (.int .i64 s.s) (.int .i64 s.t) (.int .i64 s.c) (.int .i64 0) (.int .i64 s.a) (.int .i64 n.c)))) (load_o (st3 ((st9k (by omega) (.int .i64 6) (.string s.n) (.string s.d) (.int .i64 s.s) (.int .i64 s.t) (.int .i64 s.c) (.int .i64 0) (.int .i64 s.a) (.int .i64 n.c)).trans HO5.out) (.slice none 0 0) (.bool false) (.slice (some ⟨g, 0, none⟩) 1 1)))) rfl ⟨none, some ⟨g, 0, none⟩, 0, 1, rfl, st3b (st9b HB5.out (by omega) (.int .i64 6) (.string s.n) (.string s.d) (.int .i64 s.s) (.int .i64 s.t) (.int .i64 s.c) (.int .i64 0) (.int .i64 s.a) (.int .i64 n.c)) (by omega) (.slice none 0 0) (.bool false) (.slice (some ⟨g, 0, none⟩) 1 1), fr_nil _ _ _, fr_one { nK 3 with c := n.c } (by omega) ((st3k (by omega) (.slice none 0 0) (.bool false) (.slice (some ⟨g, 0, none⟩) 1 1)).trans ((st9k (by omega) (.int .i64 6) (.string s.n) (.string s.d) (.int .i64 s.s) (.int .i64 s.t) (.int .i64 s.c) (.int .i64 0) (.int .i64 s.a) (.int .i64 n.c)).trans HR5.out)) (fun _ _ => ntl_plain _ rfl rfl (Nat.zero_le _) (Nat.zero_le _) (Nat.zero_le _))⟩
set_option maxRecDepth 100000 in
set_option maxHeartbeats 8000000 in
theorem take_let0 (s : Ss) (n : Nt) (ai az : Option Addr) (ci cz : Nat) (w : World) (h1 : n.n.size ≤ 1048576) (h2 : s.n.size ≤ 1048576) (hm : smN n.n s.n = true) (hc : n.c = 0) (hd : n.d.size ≤ 1000000) : Calls Tryz.prog 17 #[.agg #[.int .i64 2, .string s.n, .string s.d, .int .i64 s.s, .int .i64 s.t, .int .i64 s.c, .int .i64 s.h, .int .i64 s.a, .int .i64 s.e], .agg #[.int .i64 8, .string n.n, .string n.x, .string n.d, .int .i64 n.c, .int .i64 n.s, .int .i64 n.e, .int .i64 n.t, .bool n.o, .slice ai n.l.length ci, .slice az n.z.length cz]] w (StQ ({ s with p := 3, h := 0, a := 0 }, ⟨[{ nK 2 with d := n.d }], true, []⟩) w) := by
  have CM : Hid (∀ W, Calls Tryz.prog 38 #[.string n.n, .string s.n] W (Gives (.bool true) W)) := fun W => by
    have q := same_any n.n s.n W h1 h2
    rw [show decide _ = true from hm] at q
    exact q
  have CT : Hid (∀ W, Calls Tryz.prog 39 #[.agg #[.int .i64 2, .string s.n, .string s.d, .int .i64 s.s, .int .i64 s.t, .int .i64 s.c, .int .i64 0, .int .i64 s.a, .int .i64 s.e], .agg #[.int .i64 8, .string n.n, .string n.x, .string n.d, .int .i64 n.c, .int .i64 n.s, .int .i64 n.e, .int .i64 n.t, .bool n.o, .slice ai n.l.length ci, .slice az n.z.length cz]] W fun e w' => ∃ g, e = .returned (.tuple #[.agg #[.int .i64 3, .string s.n, .string s.d, .int .i64 s.s, .int .i64 s.t, .int .i64 s.c, .int .i64 0, .int .i64 0, .int .i64 s.e], .agg #[.slice (some ⟨g, 0, none⟩) 1 1, .bool true, .slice none 0 0]]) ∧ Below W.heap.size W w' ∧ w'.heap[g]? = some (.cells #[.int .i64 2, .string ⟨#[]⟩, .string ⟨#[]⟩, .string n.d, .int .i64 0, .int .i64 0, .int .i64 0, .int .i64 0, .bool false, .slice none 0 0, .slice none 0 0] 42 (0, 0)) ∧ W.heap.size ≤ g) := fun W => let_0 { s with p := 2, h := 0 } { n with k := 8 } ai az ci cz W hc hd
  clear hm h1 h2 hc
  have hu : undr 2 = true := rfl
  have CU : Hid (∀ W, Calls Tryz.prog 34 #[.agg #[.int .i64 2, .string s.n, .string s.d, .int .i64 s.s, .int .i64 s.t, .int .i64 s.c, .int .i64 s.h, .int .i64 s.a, .int .i64 s.e]] W (Gives (.bool true) W)) := fun W => by
    have q := undr_any { s with p := 2 } W
    rw [show undr _ = true from hu] at q
    exact q
  clear hu
  obtain ⟨HB, HX, HN, HZ, HO⟩ := bxFour w #[.int .i64 2, .string s.n, .string s.d, .int .i64 s.s, .int .i64 s.t, .int .i64 s.c, .int .i64 s.h, .int .i64 s.a, .int .i64 s.e] 28 #[.int .i64 8, .string n.n, .string n.x, .string n.d, .int .i64 n.c, .int .i64 n.s, .int .i64 n.e, .int .i64 n.t, .bool n.o, .slice ai n.l.length ci, .slice az n.z.length cz] 42 #[.int .i64 0, .string ⟨#[]⟩, .string ⟨#[]⟩, .int .i64 0, .int .i64 0, .int .i64 0, .int .i64 0, .int .i64 0, .int .i64 0] 28 #[.slice none 0 0, .bool false, .slice none 0 0] 31
  obtain ⟨m0, m1, m2, m3, m4, m5, m6, m7, m8⟩ := bx9 HX.out
  go_enter Tryz.func17, Tryz.ntmps17
  go_wp2_with fail
  refine (CU.out _).mono ?_
  rintro e w1 ⟨rfl, hb⟩
  clear m0 m1 m2 m3 m4 m5 m6 m7 m8
  have HX1 := kpB hb HX
  have HN1 := kpB hb HN
  have HZ1 := kpB hb HZ
  have HO1 := kpB hb HO
  have HB1 := Lib.hid (HB.out.trans (hb.mono HB.out.size))
  clear hb HB HX HN HZ HO CU
  obtain ⟨m0, m1, m2, m3, m4, m5, m6, m7, m8⟩ := bx9 HX1.out
  have hPx : w.heap.size + 3 < w1.heap.size := heap_lt HO1.out
  obtain ⟨f0, f1, f2, f3, f4, f5, f6, f7, f8⟩ := bx9f HX1.out
  obtain ⟨k0, k1, k2, k3, k4, k5, k6, k7, k8, k9, k10⟩ := bx11 HN1.out
  go_upto_region 4 with fail
  clear m0 m1 m2 m3 m4 m5 m6 m7 m8 f0 f1 f2 f3 f4 f5 f6 f7 f8
  clear k0 k1 k2 k3 k4 k5 k6 k7 k8 k9 k10
  have HX2 : Hid ((w1.setCell ⟨w.heap.size, 6, none⟩ (.int .i64 0)).heap[w.heap.size]? = some (.cells #[.int .i64 2, .string s.n, .string s.d, .int .i64 s.s, .int .i64 s.t, .int .i64 s.c, .int .i64 0, .int .i64 s.a, .int .i64 s.e] 28 (0, 0))) := by
    show _ = _
    simp [World.setCell, Array.getElem?_modify, HX1.out]
  have HN2 := Lib.hid (kp1 (A := w.heap.size) (i := 6) (u := .int .i64 0) (b := w.heap.size + 1) (by omega) HN1.out)
  have HZ2 := Lib.hid (kp1 (A := w.heap.size) (i := 6) (u := .int .i64 0) (b := w.heap.size + 2) (by omega) HZ1.out)
  have HO2 := Lib.hid (kp1 (A := w.heap.size) (i := 6) (u := .int .i64 0) (b := w.heap.size + 3) (by omega) HO1.out)
  have HB2 := Lib.hid (HB1.out.setCell (p := ⟨w.heap.size, 6, none⟩) (Nat.le_refl _) (.int .i64 0))
  clear HX1 HN1 HZ1 HO1 HB1 hPx
  generalize (w1.setCell ⟨w.heap.size, 6, none⟩ (.int .i64 0)) = w2 at HX2 HN2 HZ2 HO2 HB2 ⊢
  obtain ⟨m0, m1, m2, m3, m4, m5, m6, m7, m8⟩ := bx9 HX2.out
  obtain ⟨k0, k1, k2, k3, k4, k5, k6, k7, k8, k9, k10⟩ := bx11 HN2.out
  obtain ⟨HP, HBp⟩ := bxOne w2 #[.int .i64 2, .int .i64 8] 69
  have HX3 := kpB HBp.out HX2
  have HN3 := kpB HBp.out HN2
  have HZ3 := kpB HBp.out HZ2
  have HO3 := kpB HBp.out HO2
  have HB3 := Lib.hid (HB2.out.trans (HBp.out.mono HB2.out.size))
  have hPy : w.heap.size + 3 < w2.heap.size := heap_lt HO2.out
  have p0 : (w2.alloc (.cells #[.int .i64 2, .int .i64 8] 69)).cell? ⟨w2.heap.size, 0, none⟩ = some (.int .i64 2) := by rw [Lib.cell_of_heap HP.out]; rfl
  have p1 : (w2.alloc (.cells #[.int .i64 2, .int .i64 8] 69)).cell? ⟨w2.heap.size, 1, none⟩ = some (.int .i64 8) := by rw [Lib.cell_of_heap HP.out]; rfl
  obtain ⟨mm0, mm1, mm2, mm3, mm4, mm5, mm6, mm7, mm8⟩ := bx9 HX3.out
  obtain ⟨kk0, kk1, kk2, kk3, kk4, kk5, kk6, kk7, kk8, kk9, kk10⟩ := bx11 HN3.out
  go_wp2_with fail
  refine (CM.out _).mono ?_
  rintro e w4 ⟨rfl, hb⟩
  have HX4 := kpB hb HX3
  have HN4 := kpB hb HN3
  have HZ4 := kpB hb HZ3
  have HO4 := kpB hb HO3
  have HB4 := Lib.hid (HB3.out.trans (hb.mono HB3.out.size))
  have hs4 : w.heap.size + 3 < w4.heap.size := heap_lt HO4.out
  clear hb CM HX3 HN3 HZ3 HO3 HB3
  clear m0 m1 m2 m3 m4 m5 m6 m7 m8 mm0 mm1 mm2 mm3 mm4 mm5 mm6 mm7 mm8
  clear k0 k1 k2 k3 k4 k5 k6 k7 k8 k9 k10 kk0 kk1 kk2 kk3 kk4 kk5 kk6 kk7 kk8 kk9 kk10
  clear p0 p1 HP HBp HX2 HN2 HZ2 HO2 HB2
  obtain ⟨m0, m1, m2, m3, m4, m5, m6, m7, m8⟩ := bx9 HX4.out
  obtain ⟨k0, k1, k2, k3, k4, k5, k6, k7, k8, k9, k10⟩ := bx11 HN4.out
  go_wp2_with fail
  refine (CT.out _).mono ?_
  rintro e w5 ⟨g, rfl, hb, hr, hg⟩
  have HZ5 := kpB hb HZ4
  have HO5 := kpB hb HO4
  have HB5 := Lib.hid (HB4.out.trans (hb.mono HB4.out.size))
  have HR5 := Lib.hid hr
  have hgw : w.heap.size + 3 < g := by omega
  clear hb hr hg CT HX4 HN4 HZ4 HO4 HB4
  clear m0 m1 m2 m3 m4 m5 m6 m7 m8
  clear k0 k1 k2 k3 k4 k5 k6 k7 k8 k9 k10
  obtain ⟨z0, z1, z2, z3, z4, z5, z6, z7, z8⟩ := bx9 HZ5.out
  obtain ⟨zf0, zf1, zf2, zf3, zf4, zf5, zf6, zf7, zf8⟩ := bx9f HZ5.out
  obtain ⟨y0, y1, y2⟩ := bx3 HO5.out
  obtain ⟨yf0, yf1, yf2⟩ := bx3f HO5.out
  have hPz : w.heap.size + 3 < w5.heap.size := heap_lt HO5.out
  have hPza : w.heap.size + 2 < w5.heap.size := heap_lt HZ5.out
  go_wp2_with fail
  exact bodyPost_ret (results_two Tryz.results17 _ _ (w.heap.size + 2) (w.heap.size + 3) _ _ rfl rfl (load_s ((st3k (by omega) (.slice (some ⟨g, 0, none⟩) 1 1) (.bool true) (.slice none 0 0)).trans (st9 HZ5.out (.int .i64 3) (.string s.n) (.string s.d) (.int .i64 s.s) (.int .i64 s.t) (.int .i64 s.c) (.int .i64 0) (.int .i64 0) (.int .i64 s.e)))) (load_o (st3 ((st9k (by omega) (.int .i64 3) (.string s.n) (.string s.d) (.int .i64 s.s) (.int .i64 s.t) (.int .i64 s.c) (.int .i64 0) (.int .i64 0) (.int .i64 s.e)).trans HO5.out) (.slice (some ⟨g, 0, none⟩) 1 1) (.bool true) (.slice none 0 0)))) rfl ⟨some ⟨g, 0, none⟩, none, 1, 0, rfl, st3b (st9b HB5.out (by omega) (.int .i64 3) (.string s.n) (.string s.d) (.int .i64 s.s) (.int .i64 s.t) (.int .i64 s.c) (.int .i64 0) (.int .i64 0) (.int .i64 s.e)) (by omega) (.slice (some ⟨g, 0, none⟩) 1 1) (.bool true) (.slice none 0 0), fr_one { nK 2 with d := n.d } (by omega) ((st3k (by omega) (.slice (some ⟨g, 0, none⟩) 1 1) (.bool true) (.slice none 0 0)).trans ((st9k (by omega) (.int .i64 3) (.string s.n) (.string s.d) (.int .i64 s.s) (.int .i64 s.t) (.int .i64 s.c) (.int .i64 0) (.int .i64 0) (.int .i64 s.e)).trans HR5.out)) (fun _ _ => ntl_plain _ rfl rfl (Nat.zero_le _) (Nat.zero_le _) hd), fr_nil _ _ _⟩
set_option maxRecDepth 100000 in
set_option maxHeartbeats 8000000 in
theorem take_host (s : Ss) (n : Nt) (ai az : Option Addr) (ci cz : Nat) (w : World)  : Calls Tryz.prog 17 #[.agg #[.int .i64 3, .string s.n, .string s.d, .int .i64 s.s, .int .i64 s.t, .int .i64 s.c, .int .i64 s.h, .int .i64 s.a, .int .i64 s.e], .agg #[.int .i64 9, .string n.n, .string n.x, .string n.d, .int .i64 n.c, .int .i64 n.s, .int .i64 n.e, .int .i64 n.t, .bool n.o, .slice ai n.l.length ci, .slice az n.z.length cz]] w (StQ ({ s with p := 4, h := 0, a := 0 }, ⟨[{ nK 17 with t := s.t, c := s.c }], false, []⟩) w) := by
  have CY : Hid (∀ (a : Option Addr) (k e : Nat) (W : World), Calls Tryz.prog 33 #[.agg #[.int .i64 4, .string s.n, .string s.d, .int .i64 s.s, .int .i64 s.t, .int .i64 s.c, .int .i64 0, .int .i64 s.a, .int .i64 s.e], .slice a k e] W (Gives (.tuple #[.agg #[.int .i64 4, .string s.n, .string s.d, .int .i64 s.s, .int .i64 s.t, .int .i64 s.c, .int .i64 0, .int .i64 0, .int .i64 s.e], .agg #[.slice a k e, .bool false, .slice none 0 0]]) W)) := fun a k e W => say_any { s with p := 4, h := 0 } a k e W
  have hu : undr 3 = true := rfl
  have CU : Hid (∀ W, Calls Tryz.prog 34 #[.agg #[.int .i64 3, .string s.n, .string s.d, .int .i64 s.s, .int .i64 s.t, .int .i64 s.c, .int .i64 s.h, .int .i64 s.a, .int .i64 s.e]] W (Gives (.bool true) W)) := fun W => by
    have q := undr_any { s with p := 3 } W
    rw [show undr _ = true from hu] at q
    exact q
  clear hu
  obtain ⟨HB, HX, HN, HZ, HO⟩ := bxFour w #[.int .i64 3, .string s.n, .string s.d, .int .i64 s.s, .int .i64 s.t, .int .i64 s.c, .int .i64 s.h, .int .i64 s.a, .int .i64 s.e] 28 #[.int .i64 9, .string n.n, .string n.x, .string n.d, .int .i64 n.c, .int .i64 n.s, .int .i64 n.e, .int .i64 n.t, .bool n.o, .slice ai n.l.length ci, .slice az n.z.length cz] 42 #[.int .i64 0, .string ⟨#[]⟩, .string ⟨#[]⟩, .int .i64 0, .int .i64 0, .int .i64 0, .int .i64 0, .int .i64 0, .int .i64 0] 28 #[.slice none 0 0, .bool false, .slice none 0 0] 31
  obtain ⟨m0, m1, m2, m3, m4, m5, m6, m7, m8⟩ := bx9 HX.out
  go_enter Tryz.func17, Tryz.ntmps17
  go_wp2_with fail
  refine (CU.out _).mono ?_
  rintro e w1 ⟨rfl, hb⟩
  clear m0 m1 m2 m3 m4 m5 m6 m7 m8
  have HX1 := kpB hb HX
  have HN1 := kpB hb HN
  have HZ1 := kpB hb HZ
  have HO1 := kpB hb HO
  have HB1 := Lib.hid (HB.out.trans (hb.mono HB.out.size))
  clear hb HB HX HN HZ HO CU
  obtain ⟨m0, m1, m2, m3, m4, m5, m6, m7, m8⟩ := bx9 HX1.out
  have hPx : w.heap.size + 3 < w1.heap.size := heap_lt HO1.out
  obtain ⟨f0, f1, f2, f3, f4, f5, f6, f7, f8⟩ := bx9f HX1.out
  obtain ⟨k0, k1, k2, k3, k4, k5, k6, k7, k8, k9, k10⟩ := bx11 HN1.out
  go_upto_region 4 with fail
  clear m0 m1 m2 m3 m4 m5 m6 m7 m8 f0 f1 f2 f3 f4 f5 f6 f7 f8
  clear k0 k1 k2 k3 k4 k5 k6 k7 k8 k9 k10
  have HX2 : Hid ((w1.setCell ⟨w.heap.size, 6, none⟩ (.int .i64 0)).heap[w.heap.size]? = some (.cells #[.int .i64 3, .string s.n, .string s.d, .int .i64 s.s, .int .i64 s.t, .int .i64 s.c, .int .i64 0, .int .i64 s.a, .int .i64 s.e] 28 (0, 0))) := by
    show _ = _
    simp [World.setCell, Array.getElem?_modify, HX1.out]
  have HN2 := Lib.hid (kp1 (A := w.heap.size) (i := 6) (u := .int .i64 0) (b := w.heap.size + 1) (by omega) HN1.out)
  have HZ2 := Lib.hid (kp1 (A := w.heap.size) (i := 6) (u := .int .i64 0) (b := w.heap.size + 2) (by omega) HZ1.out)
  have HO2 := Lib.hid (kp1 (A := w.heap.size) (i := 6) (u := .int .i64 0) (b := w.heap.size + 3) (by omega) HO1.out)
  have HB2 := Lib.hid (HB1.out.setCell (p := ⟨w.heap.size, 6, none⟩) (Nat.le_refl _) (.int .i64 0))
  clear HX1 HN1 HZ1 HO1 HB1 hPx
  generalize (w1.setCell ⟨w.heap.size, 6, none⟩ (.int .i64 0)) = w2 at HX2 HN2 HZ2 HO2 HB2 ⊢
  obtain ⟨m0, m1, m2, m3, m4, m5, m6, m7, m8⟩ := bx9 HX2.out
  obtain ⟨k0, k1, k2, k3, k4, k5, k6, k7, k8, k9, k10⟩ := bx11 HN2.out
  obtain ⟨HP, HBp⟩ := bxOne w2 #[.int .i64 3, .int .i64 9] 69
  have HX3 := kpB HBp.out HX2
  have HN3 := kpB HBp.out HN2
  have HZ3 := kpB HBp.out HZ2
  have HO3 := kpB HBp.out HO2
  have HB3 := Lib.hid (HB2.out.trans (HBp.out.mono HB2.out.size))
  have hPy : w.heap.size + 3 < w2.heap.size := heap_lt HO2.out
  have p0 : (w2.alloc (.cells #[.int .i64 3, .int .i64 9] 69)).cell? ⟨w2.heap.size, 0, none⟩ = some (.int .i64 3) := by rw [Lib.cell_of_heap HP.out]; rfl
  have p1 : (w2.alloc (.cells #[.int .i64 3, .int .i64 9] 69)).cell? ⟨w2.heap.size, 1, none⟩ = some (.int .i64 9) := by rw [Lib.cell_of_heap HP.out]; rfl
  obtain ⟨mm0, mm1, mm2, mm3, mm4, mm5, mm6, mm7, mm8⟩ := bx9 HX3.out
  obtain ⟨kk0, kk1, kk2, kk3, kk4, kk5, kk6, kk7, kk8, kk9, kk10⟩ := bx11 HN3.out
  obtain ⟨xf0, xf1, xf2, xf3, xf4, xf5, xf6, xf7, xf8⟩ := bx9f HX3.out
  go_upto_region 13 with fail
  clear xf0 xf1 xf2 xf3 xf4 xf5 xf6 xf7 xf8
  have HX4 : Hid (((w2.alloc (.cells #[.int .i64 3, .int .i64 9] 69)).setCell ⟨w.heap.size, 0, none⟩ (.int .i64 4)).heap[w.heap.size]? = some (.cells #[.int .i64 4, .string s.n, .string s.d, .int .i64 s.s, .int .i64 s.t, .int .i64 s.c, .int .i64 0, .int .i64 s.a, .int .i64 s.e] 28 (0, 0))) := by
    show _ = _
    simp only [World.setCell, Array.getElem?_modify, HX3.out]
    simp
  have HN4 := Lib.hid (kp1 (A := w.heap.size) (i := 0) (u := .int .i64 4) (b := w.heap.size + 1) (by omega) HN3.out)
  have HZ4 := Lib.hid (kp1 (A := w.heap.size) (i := 0) (u := .int .i64 4) (b := w.heap.size + 2) (by omega) HZ3.out)
  have HO4 := Lib.hid (kp1 (A := w.heap.size) (i := 0) (u := .int .i64 4) (b := w.heap.size + 3) (by omega) HO3.out)
  have HB4 := Lib.hid (HB3.out.setCell (p := ⟨w.heap.size, 0, none⟩) (Nat.le_refl _) (.int .i64 4))
  clear m0 m1 m2 m3 m4 m5 m6 m7 m8 mm0 mm1 mm2 mm3 mm4 mm5 mm6 mm7 mm8
  clear k0 k1 k2 k3 k4 k5 k6 k7 k8 k9 k10 kk0 kk1 kk2 kk3 kk4 kk5 kk6 kk7 kk8 kk9 kk10
  clear p0 p1 HP HBp HX2 HN2 HZ2 HO2 HB2
  clear HX3 HN3 HZ3 HO3 HB3
  generalize ((w2.alloc (.cells #[.int .i64 3, .int .i64 9] 69)).setCell ⟨w.heap.size, 0, none⟩ (.int .i64 4)) = w4 at HX4 HN4 HZ4 HO4 HB4 ⊢
  generalize w2.heap.size = A6 at hPy ⊢
  have hs4 : w.heap.size + 3 < w4.heap.size := heap_lt HO4.out
  obtain ⟨m0, m1, m2, m3, m4, m5, m6, m7, m8⟩ := bx9 HX4.out
  obtain ⟨k0, k1, k2, k3, k4, k5, k6, k7, k8, k9, k10⟩ := bx11 HN4.out
  have HA := bxOne w4 #[.int .i64 17, .string ⟨#[]⟩, .string ⟨#[]⟩, .string ⟨#[]⟩, .int .i64 s.c, .int .i64 0, .int .i64 0, .int .i64 s.t, .bool false, .slice none 0 0, .slice none 0 0] 42
  go_wp2_with fail
  refine (CY.out _ _ _ _).mono ?_
  rintro e w5 ⟨rfl, hb⟩
  clear m0 m1 m2 m3 m4 m5 m6 m7 m8
  clear k0 k1 k2 k3 k4 k5 k6 k7 k8 k9 k10
  have hba := HA.2.out.trans (hb.mono HA.2.out.size)
  have HZ5 := kpB hba HZ4
  have HO5 := kpB hba HO4
  have HB5 := Lib.hid (HB4.out.trans (hba.mono HB4.out.size))
  have HR5 := kpB hb HA.1
  clear hb hba HA HX4 HN4 HZ4 HO4 HB4 CY
  obtain ⟨z0, z1, z2, z3, z4, z5, z6, z7, z8⟩ := bx9 HZ5.out
  obtain ⟨zf0, zf1, zf2, zf3, zf4, zf5, zf6, zf7, zf8⟩ := bx9f HZ5.out
  obtain ⟨y0, y1, y2⟩ := bx3 HO5.out
  obtain ⟨yf0, yf1, yf2⟩ := bx3f HO5.out
  have hPz : w.heap.size + 3 < w5.heap.size := heap_lt HO5.out
  have hPza : w.heap.size + 2 < w5.heap.size := heap_lt HZ5.out
  go_wp2_with fail
  exact bodyPost_ret (results_two Tryz.results17 _ _ (w.heap.size + 2) (w.heap.size + 3) _ _ rfl rfl (load_s ((st3k (by omega) (.slice (some ⟨w4.heap.size, 0, none⟩) 1 1) (.bool false) (.slice none 0 0)).trans (st9 HZ5.out (.int .i64 4) (.string s.n) (.string s.d) (.int .i64 s.s) (.int .i64 s.t) (.int .i64 s.c) (.int .i64 0) (.int .i64 0) (.int .i64 s.e)))) (load_o (st3 ((st9k (by omega) (.int .i64 4) (.string s.n) (.string s.d) (.int .i64 s.s) (.int .i64 s.t) (.int .i64 s.c) (.int .i64 0) (.int .i64 0) (.int .i64 s.e)).trans HO5.out) (.slice (some ⟨w4.heap.size, 0, none⟩) 1 1) (.bool false) (.slice none 0 0)))) rfl ⟨some ⟨w4.heap.size, 0, none⟩, none, 1, 0, rfl, st3b (st9b HB5.out (by omega) (.int .i64 4) (.string s.n) (.string s.d) (.int .i64 s.s) (.int .i64 s.t) (.int .i64 s.c) (.int .i64 0) (.int .i64 0) (.int .i64 s.e)) (by omega) (.slice (some ⟨w4.heap.size, 0, none⟩) 1 1) (.bool false) (.slice none 0 0), fr_one { nK 17 with t := s.t, c := s.c } (by omega) ((st3k (by omega) (.slice (some ⟨w4.heap.size, 0, none⟩) 1 1) (.bool false) (.slice none 0 0)).trans ((st9k (by omega) (.int .i64 4) (.string s.n) (.string s.d) (.int .i64 s.s) (.int .i64 s.t) (.int .i64 s.c) (.int .i64 0) (.int .i64 0) (.int .i64 s.e)).trans HR5.out)) (fun _ _ => ntl_plain _ rfl rfl (Nat.zero_le _) (Nat.zero_le _) (Nat.zero_le _)), fr_nil _ _ _⟩
set_option maxRecDepth 100000 in
set_option maxHeartbeats 8000000 in
theorem take_n1 (s : Ss) (n : Nt) (ai az : Option Addr) (ci cz : Nat) (w : World) (hG : Gl w) (k3 : (n.k == 3) = false) (k6 : (n.k == 6) = false) : Calls Tryz.prog 17 #[.agg #[.int .i64 1, .string s.n, .string s.d, .int .i64 s.s, .int .i64 s.t, .int .i64 s.c, .int .i64 s.h, .int .i64 s.a, .int .i64 s.e], .agg #[.int .i64 n.k, .string n.n, .string n.x, .string n.d, .int .i64 n.c, .int .i64 n.s, .int .i64 n.e, .int .i64 n.t, .bool n.o, .slice ai n.l.length ci, .slice az n.z.length cz]] w (StQ ({ s with p := 1, h := 0 }, zO) w) := by
  have CUp : Hid (∀ W, Below w.heap.size w W → Calls Tryz.prog 40 #[.agg #[.int .i64 1, .int .i64 n.k]] W (Gives (.bool false) W)) := fun W hb => isUpward_no 1 n.k W (hG.below hb).s rfl
  clear hG
  have hu : undr 1 = true := rfl
  have CU : Hid (∀ W, Calls Tryz.prog 34 #[.agg #[.int .i64 1, .string s.n, .string s.d, .int .i64 s.s, .int .i64 s.t, .int .i64 s.c, .int .i64 s.h, .int .i64 s.a, .int .i64 s.e]] W (Gives (.bool true) W)) := fun W => by
    have q := undr_any { s with p := 1 } W
    rw [show undr _ = true from hu] at q
    exact q
  clear hu
  obtain ⟨HB, HX, HN, HZ, HO⟩ := bxFour w #[.int .i64 1, .string s.n, .string s.d, .int .i64 s.s, .int .i64 s.t, .int .i64 s.c, .int .i64 s.h, .int .i64 s.a, .int .i64 s.e] 28 #[.int .i64 n.k, .string n.n, .string n.x, .string n.d, .int .i64 n.c, .int .i64 n.s, .int .i64 n.e, .int .i64 n.t, .bool n.o, .slice ai n.l.length ci, .slice az n.z.length cz] 42 #[.int .i64 0, .string ⟨#[]⟩, .string ⟨#[]⟩, .int .i64 0, .int .i64 0, .int .i64 0, .int .i64 0, .int .i64 0, .int .i64 0] 28 #[.slice none 0 0, .bool false, .slice none 0 0] 31
  obtain ⟨m0, m1, m2, m3, m4, m5, m6, m7, m8⟩ := bx9 HX.out
  go_enter Tryz.func17, Tryz.ntmps17
  go_wp2_with fail
  refine (CU.out _).mono ?_
  rintro e w1 ⟨rfl, hb⟩
  clear m0 m1 m2 m3 m4 m5 m6 m7 m8
  have HX1 := kpB hb HX
  have HN1 := kpB hb HN
  have HZ1 := kpB hb HZ
  have HO1 := kpB hb HO
  have HB1 := Lib.hid (HB.out.trans (hb.mono HB.out.size))
  clear hb HB HX HN HZ HO CU
  obtain ⟨m0, m1, m2, m3, m4, m5, m6, m7, m8⟩ := bx9 HX1.out
  have hPx : w.heap.size + 3 < w1.heap.size := heap_lt HO1.out
  obtain ⟨f0, f1, f2, f3, f4, f5, f6, f7, f8⟩ := bx9f HX1.out
  obtain ⟨k0, k1, k2, k3, k4, k5, k6, k7, k8, k9, k10⟩ := bx11 HN1.out
  go_upto_region 4 with fail
  clear m0 m1 m2 m3 m4 m5 m6 m7 m8 f0 f1 f2 f3 f4 f5 f6 f7 f8
  clear k0 k1 k2 k3 k4 k5 k6 k7 k8 k9 k10
  have HX2 : Hid ((w1.setCell ⟨w.heap.size, 6, none⟩ (.int .i64 0)).heap[w.heap.size]? = some (.cells #[.int .i64 1, .string s.n, .string s.d, .int .i64 s.s, .int .i64 s.t, .int .i64 s.c, .int .i64 0, .int .i64 s.a, .int .i64 s.e] 28 (0, 0))) := by
    show _ = _
    simp [World.setCell, Array.getElem?_modify, HX1.out]
  have HN2 := Lib.hid (kp1 (A := w.heap.size) (i := 6) (u := .int .i64 0) (b := w.heap.size + 1) (by omega) HN1.out)
  have HZ2 := Lib.hid (kp1 (A := w.heap.size) (i := 6) (u := .int .i64 0) (b := w.heap.size + 2) (by omega) HZ1.out)
  have HO2 := Lib.hid (kp1 (A := w.heap.size) (i := 6) (u := .int .i64 0) (b := w.heap.size + 3) (by omega) HO1.out)
  have HB2 := Lib.hid (HB1.out.setCell (p := ⟨w.heap.size, 6, none⟩) (Nat.le_refl _) (.int .i64 0))
  clear HX1 HN1 HZ1 HO1 HB1 hPx
  generalize (w1.setCell ⟨w.heap.size, 6, none⟩ (.int .i64 0)) = w2 at HX2 HN2 HZ2 HO2 HB2 ⊢
  obtain ⟨m0, m1, m2, m3, m4, m5, m6, m7, m8⟩ := bx9 HX2.out
  obtain ⟨k0, k1, k2, k3, k4, k5, k6, k7, k8, k9, k10⟩ := bx11 HN2.out
  obtain ⟨HP, HBp⟩ := bxOne w2 #[.int .i64 1, .int .i64 n.k] 69
  have HX3 := kpB HBp.out HX2
  have HN3 := kpB HBp.out HN2
  have HZ3 := kpB HBp.out HZ2
  have HO3 := kpB HBp.out HO2
  have HB3 := Lib.hid (HB2.out.trans (HBp.out.mono HB2.out.size))
  have hPy : w.heap.size + 3 < w2.heap.size := heap_lt HO2.out
  have p0 : (w2.alloc (.cells #[.int .i64 1, .int .i64 n.k] 69)).cell? ⟨w2.heap.size, 0, none⟩ = some (.int .i64 1) := by rw [Lib.cell_of_heap HP.out]; rfl
  have p1 : (w2.alloc (.cells #[.int .i64 1, .int .i64 n.k] 69)).cell? ⟨w2.heap.size, 1, none⟩ = some (.int .i64 n.k) := by rw [Lib.cell_of_heap HP.out]; rfl
  obtain ⟨mm0, mm1, mm2, mm3, mm4, mm5, mm6, mm7, mm8⟩ := bx9 HX3.out
  obtain ⟨kk0, kk1, kk2, kk3, kk4, kk5, kk6, kk7, kk8, kk9, kk10⟩ := bx11 HN3.out
  go_wp2_with fail
  refine (CUp.out _ HB3.out).mono ?_
  rintro e w5 ⟨rfl, hb⟩
  have HX5 := kpB hb HX3
  have HZ5 := kpB hb HZ3
  have HO5 := kpB hb HO3
  have HB5 := Lib.hid (HB3.out.trans (hb.mono HB3.out.size))
  clear hb CUp HX3 HN3 HZ3 HO3 HB3 p0 p1
  clear m0 m1 m2 m3 m4 m5 m6 m7 m8 mm0 mm1 mm2 mm3 mm4 mm5 mm6 mm7 mm8
  clear k0 k1 k2 k3 k4 k5 k6 k7 k8 k9 k10 kk0 kk1 kk2 kk3 kk4 kk5 kk6 kk7 kk8 kk9 kk10
  clear HP HBp HX2 HN2 HZ2 HO2 HB2
  obtain ⟨m0, m1, m2, m3, m4, m5, m6, m7, m8⟩ := bx9 HX5.out
  obtain ⟨z0, z1, z2, z3, z4, z5, z6, z7, z8⟩ := bx9 HZ5.out
  obtain ⟨zf0, zf1, zf2, zf3, zf4, zf5, zf6, zf7, zf8⟩ := bx9f HZ5.out
  obtain ⟨y0, y1, y2⟩ := bx3 HO5.out
  obtain ⟨yf0, yf1, yf2⟩ := bx3f HO5.out
  have hPz : w.heap.size + 3 < w5.heap.size := heap_lt HO5.out
  have hPza : w.heap.size + 2 < w5.heap.size := heap_lt HZ5.out
  go_wp2_with fail
  exact bodyPost_ret (results_two Tryz.results17 _ _ (w.heap.size + 2) (w.heap.size + 3) _ _ rfl rfl (load_s ((st3k (by omega) (.slice none 0 0) (.bool false) (.slice none 0 0)).trans (st9 HZ5.out (.int .i64 1) (.string s.n) (.string s.d) (.int .i64 s.s) (.int .i64 s.t) (.int .i64 s.c) (.int .i64 0) (.int .i64 s.a) (.int .i64 s.e)))) (load_o (st3 ((st9k (by omega) (.int .i64 1) (.string s.n) (.string s.d) (.int .i64 s.s) (.int .i64 s.t) (.int .i64 s.c) (.int .i64 0) (.int .i64 s.a) (.int .i64 s.e)).trans HO5.out) (.slice none 0 0) (.bool false) (.slice none 0 0)))) rfl ⟨none, none, 0, 0, rfl, st3b (st9b HB5.out (by omega) (.int .i64 1) (.string s.n) (.string s.d) (.int .i64 s.s) (.int .i64 s.t) (.int .i64 s.c) (.int .i64 0) (.int .i64 s.a) (.int .i64 s.e)) (by omega) (.slice none 0 0) (.bool false) (.slice none 0 0), fr_nil _ _ _, fr_nil _ _ _⟩
set_option maxRecDepth 100000 in
set_option maxHeartbeats 8000000 in
theorem take_n2 (s : Ss) (n : Nt) (ai az : Option Addr) (ci cz : Nat) (w : World) (hG : Gl w) (k3 : (n.k == 3) = false) (k8 : (n.k == 8) = false) : Calls Tryz.prog 17 #[.agg #[.int .i64 2, .string s.n, .string s.d, .int .i64 s.s, .int .i64 s.t, .int .i64 s.c, .int .i64 s.h, .int .i64 s.a, .int .i64 s.e], .agg #[.int .i64 n.k, .string n.n, .string n.x, .string n.d, .int .i64 n.c, .int .i64 n.s, .int .i64 n.e, .int .i64 n.t, .bool n.o, .slice ai n.l.length ci, .slice az n.z.length cz]] w (StQ ({ s with p := 2, h := 0 }, zO) w) := by
  have CUp : Hid (∀ W, Below w.heap.size w W → Calls Tryz.prog 40 #[.agg #[.int .i64 2, .int .i64 n.k]] W (Gives (.bool false) W)) := fun W hb => isUpward_no 2 n.k W (hG.below hb).s rfl
  clear hG
  have hu : undr 2 = true := rfl
  have CU : Hid (∀ W, Calls Tryz.prog 34 #[.agg #[.int .i64 2, .string s.n, .string s.d, .int .i64 s.s, .int .i64 s.t, .int .i64 s.c, .int .i64 s.h, .int .i64 s.a, .int .i64 s.e]] W (Gives (.bool true) W)) := fun W => by
    have q := undr_any { s with p := 2 } W
    rw [show undr _ = true from hu] at q
    exact q
  clear hu
  obtain ⟨HB, HX, HN, HZ, HO⟩ := bxFour w #[.int .i64 2, .string s.n, .string s.d, .int .i64 s.s, .int .i64 s.t, .int .i64 s.c, .int .i64 s.h, .int .i64 s.a, .int .i64 s.e] 28 #[.int .i64 n.k, .string n.n, .string n.x, .string n.d, .int .i64 n.c, .int .i64 n.s, .int .i64 n.e, .int .i64 n.t, .bool n.o, .slice ai n.l.length ci, .slice az n.z.length cz] 42 #[.int .i64 0, .string ⟨#[]⟩, .string ⟨#[]⟩, .int .i64 0, .int .i64 0, .int .i64 0, .int .i64 0, .int .i64 0, .int .i64 0] 28 #[.slice none 0 0, .bool false, .slice none 0 0] 31
  obtain ⟨m0, m1, m2, m3, m4, m5, m6, m7, m8⟩ := bx9 HX.out
  go_enter Tryz.func17, Tryz.ntmps17
  go_wp2_with fail
  refine (CU.out _).mono ?_
  rintro e w1 ⟨rfl, hb⟩
  clear m0 m1 m2 m3 m4 m5 m6 m7 m8
  have HX1 := kpB hb HX
  have HN1 := kpB hb HN
  have HZ1 := kpB hb HZ
  have HO1 := kpB hb HO
  have HB1 := Lib.hid (HB.out.trans (hb.mono HB.out.size))
  clear hb HB HX HN HZ HO CU
  obtain ⟨m0, m1, m2, m3, m4, m5, m6, m7, m8⟩ := bx9 HX1.out
  have hPx : w.heap.size + 3 < w1.heap.size := heap_lt HO1.out
  obtain ⟨f0, f1, f2, f3, f4, f5, f6, f7, f8⟩ := bx9f HX1.out
  obtain ⟨k0, k1, k2, k3, k4, k5, k6, k7, k8, k9, k10⟩ := bx11 HN1.out
  go_upto_region 4 with fail
  clear m0 m1 m2 m3 m4 m5 m6 m7 m8 f0 f1 f2 f3 f4 f5 f6 f7 f8
  clear k0 k1 k2 k3 k4 k5 k6 k7 k8 k9 k10
  have HX2 : Hid ((w1.setCell ⟨w.heap.size, 6, none⟩ (.int .i64 0)).heap[w.heap.size]? = some (.cells #[.int .i64 2, .string s.n, .string s.d, .int .i64 s.s, .int .i64 s.t, .int .i64 s.c, .int .i64 0, .int .i64 s.a, .int .i64 s.e] 28 (0, 0))) := by
    show _ = _
    simp [World.setCell, Array.getElem?_modify, HX1.out]
  have HN2 := Lib.hid (kp1 (A := w.heap.size) (i := 6) (u := .int .i64 0) (b := w.heap.size + 1) (by omega) HN1.out)
  have HZ2 := Lib.hid (kp1 (A := w.heap.size) (i := 6) (u := .int .i64 0) (b := w.heap.size + 2) (by omega) HZ1.out)
  have HO2 := Lib.hid (kp1 (A := w.heap.size) (i := 6) (u := .int .i64 0) (b := w.heap.size + 3) (by omega) HO1.out)
  have HB2 := Lib.hid (HB1.out.setCell (p := ⟨w.heap.size, 6, none⟩) (Nat.le_refl _) (.int .i64 0))
  clear HX1 HN1 HZ1 HO1 HB1 hPx
  generalize (w1.setCell ⟨w.heap.size, 6, none⟩ (.int .i64 0)) = w2 at HX2 HN2 HZ2 HO2 HB2 ⊢
  obtain ⟨m0, m1, m2, m3, m4, m5, m6, m7, m8⟩ := bx9 HX2.out
  obtain ⟨k0, k1, k2, k3, k4, k5, k6, k7, k8, k9, k10⟩ := bx11 HN2.out
  obtain ⟨HP, HBp⟩ := bxOne w2 #[.int .i64 2, .int .i64 n.k] 69
  have HX3 := kpB HBp.out HX2
  have HN3 := kpB HBp.out HN2
  have HZ3 := kpB HBp.out HZ2
  have HO3 := kpB HBp.out HO2
  have HB3 := Lib.hid (HB2.out.trans (HBp.out.mono HB2.out.size))
  have hPy : w.heap.size + 3 < w2.heap.size := heap_lt HO2.out
  have p0 : (w2.alloc (.cells #[.int .i64 2, .int .i64 n.k] 69)).cell? ⟨w2.heap.size, 0, none⟩ = some (.int .i64 2) := by rw [Lib.cell_of_heap HP.out]; rfl
  have p1 : (w2.alloc (.cells #[.int .i64 2, .int .i64 n.k] 69)).cell? ⟨w2.heap.size, 1, none⟩ = some (.int .i64 n.k) := by rw [Lib.cell_of_heap HP.out]; rfl
  obtain ⟨mm0, mm1, mm2, mm3, mm4, mm5, mm6, mm7, mm8⟩ := bx9 HX3.out
  obtain ⟨kk0, kk1, kk2, kk3, kk4, kk5, kk6, kk7, kk8, kk9, kk10⟩ := bx11 HN3.out
  go_wp2_with fail
  refine (CUp.out _ HB3.out).mono ?_
  rintro e w5 ⟨rfl, hb⟩
  have HX5 := kpB hb HX3
  have HZ5 := kpB hb HZ3
  have HO5 := kpB hb HO3
  have HB5 := Lib.hid (HB3.out.trans (hb.mono HB3.out.size))
  clear hb CUp HX3 HN3 HZ3 HO3 HB3 p0 p1
  clear m0 m1 m2 m3 m4 m5 m6 m7 m8 mm0 mm1 mm2 mm3 mm4 mm5 mm6 mm7 mm8
  clear k0 k1 k2 k3 k4 k5 k6 k7 k8 k9 k10 kk0 kk1 kk2 kk3 kk4 kk5 kk6 kk7 kk8 kk9 kk10
  clear HP HBp HX2 HN2 HZ2 HO2 HB2
  obtain ⟨m0, m1, m2, m3, m4, m5, m6, m7, m8⟩ := bx9 HX5.out
  obtain ⟨z0, z1, z2, z3, z4, z5, z6, z7, z8⟩ := bx9 HZ5.out
  obtain ⟨zf0, zf1, zf2, zf3, zf4, zf5, zf6, zf7, zf8⟩ := bx9f HZ5.out
  obtain ⟨y0, y1, y2⟩ := bx3 HO5.out
  obtain ⟨yf0, yf1, yf2⟩ := bx3f HO5.out
  have hPz : w.heap.size + 3 < w5.heap.size := heap_lt HO5.out
  have hPza : w.heap.size + 2 < w5.heap.size := heap_lt HZ5.out
  go_wp2_with fail
  exact bodyPost_ret (results_two Tryz.results17 _ _ (w.heap.size + 2) (w.heap.size + 3) _ _ rfl rfl (load_s ((st3k (by omega) (.slice none 0 0) (.bool false) (.slice none 0 0)).trans (st9 HZ5.out (.int .i64 2) (.string s.n) (.string s.d) (.int .i64 s.s) (.int .i64 s.t) (.int .i64 s.c) (.int .i64 0) (.int .i64 s.a) (.int .i64 s.e)))) (load_o (st3 ((st9k (by omega) (.int .i64 2) (.string s.n) (.string s.d) (.int .i64 s.s) (.int .i64 s.t) (.int .i64 s.c) (.int .i64 0) (.int .i64 s.a) (.int .i64 s.e)).trans HO5.out) (.slice none 0 0) (.bool false) (.slice none 0 0)))) rfl ⟨none, none, 0, 0, rfl, st3b (st9b HB5.out (by omega) (.int .i64 2) (.string s.n) (.string s.d) (.int .i64 s.s) (.int .i64 s.t) (.int .i64 s.c) (.int .i64 0) (.int .i64 s.a) (.int .i64 s.e)) (by omega) (.slice none 0 0) (.bool false) (.slice none 0 0), fr_nil _ _ _, fr_nil _ _ _⟩
set_option maxRecDepth 100000 in
set_option maxHeartbeats 8000000 in
theorem take_n2m (s : Ss) (n : Nt) (ai az : Option Addr) (ci cz : Nat) (w : World) (hG : Gl w) (h1 : n.n.size ≤ 1048576) (h2 : s.n.size ≤ 1048576) (hm : smN n.n s.n = false) : Calls Tryz.prog 17 #[.agg #[.int .i64 2, .string s.n, .string s.d, .int .i64 s.s, .int .i64 s.t, .int .i64 s.c, .int .i64 s.h, .int .i64 s.a, .int .i64 s.e], .agg #[.int .i64 8, .string n.n, .string n.x, .string n.d, .int .i64 n.c, .int .i64 n.s, .int .i64 n.e, .int .i64 n.t, .bool n.o, .slice ai n.l.length ci, .slice az n.z.length cz]] w (StQ ({ s with p := 2, h := 0 }, zO) w) := by
  have CUp : Hid (∀ W, Below w.heap.size w W → Calls Tryz.prog 40 #[.agg #[.int .i64 2, .int .i64 8]] W (Gives (.bool false) W)) := fun W hb => isUpward_no 2 8 W (hG.below hb).s rfl
  have CM : Hid (∀ W, Calls Tryz.prog 38 #[.string n.n, .string s.n] W (Gives (.bool false) W)) := fun W => by
    have q := same_any n.n s.n W h1 h2
    rw [show decide _ = false from hm] at q
    exact q
  clear hm h1 h2
  clear hG
  have hu : undr 2 = true := rfl
  have CU : Hid (∀ W, Calls Tryz.prog 34 #[.agg #[.int .i64 2, .string s.n, .string s.d, .int .i64 s.s, .int .i64 s.t, .int .i64 s.c, .int .i64 s.h, .int .i64 s.a, .int .i64 s.e]] W (Gives (.bool true) W)) := fun W => by
    have q := undr_any { s with p := 2 } W
    rw [show undr _ = true from hu] at q
    exact q
  clear hu
  obtain ⟨HB, HX, HN, HZ, HO⟩ := bxFour w #[.int .i64 2, .string s.n, .string s.d, .int .i64 s.s, .int .i64 s.t, .int .i64 s.c, .int .i64 s.h, .int .i64 s.a, .int .i64 s.e] 28 #[.int .i64 8, .string n.n, .string n.x, .string n.d, .int .i64 n.c, .int .i64 n.s, .int .i64 n.e, .int .i64 n.t, .bool n.o, .slice ai n.l.length ci, .slice az n.z.length cz] 42 #[.int .i64 0, .string ⟨#[]⟩, .string ⟨#[]⟩, .int .i64 0, .int .i64 0, .int .i64 0, .int .i64 0, .int .i64 0, .int .i64 0] 28 #[.slice none 0 0, .bool false, .slice none 0 0] 31
  obtain ⟨m0, m1, m2, m3, m4, m5, m6, m7, m8⟩ := bx9 HX.out
  go_enter Tryz.func17, Tryz.ntmps17
  go_wp2_with fail
  refine (CU.out _).mono ?_
  rintro e w1 ⟨rfl, hb⟩
  clear m0 m1 m2 m3 m4 m5 m6 m7 m8
  have HX1 := kpB hb HX
  have HN1 := kpB hb HN
  have HZ1 := kpB hb HZ
  have HO1 := kpB hb HO
  have HB1 := Lib.hid (HB.out.trans (hb.mono HB.out.size))
  clear hb HB HX HN HZ HO CU
  obtain ⟨m0, m1, m2, m3, m4, m5, m6, m7, m8⟩ := bx9 HX1.out
  have hPx : w.heap.size + 3 < w1.heap.size := heap_lt HO1.out
  obtain ⟨f0, f1, f2, f3, f4, f5, f6, f7, f8⟩ := bx9f HX1.out
  obtain ⟨k0, k1, k2, k3, k4, k5, k6, k7, k8, k9, k10⟩ := bx11 HN1.out
  go_upto_region 4 with fail
  clear m0 m1 m2 m3 m4 m5 m6 m7 m8 f0 f1 f2 f3 f4 f5 f6 f7 f8
  clear k0 k1 k2 k3 k4 k5 k6 k7 k8 k9 k10
  have HX2 : Hid ((w1.setCell ⟨w.heap.size, 6, none⟩ (.int .i64 0)).heap[w.heap.size]? = some (.cells #[.int .i64 2, .string s.n, .string s.d, .int .i64 s.s, .int .i64 s.t, .int .i64 s.c, .int .i64 0, .int .i64 s.a, .int .i64 s.e] 28 (0, 0))) := by
    show _ = _
    simp [World.setCell, Array.getElem?_modify, HX1.out]
  have HN2 := Lib.hid (kp1 (A := w.heap.size) (i := 6) (u := .int .i64 0) (b := w.heap.size + 1) (by omega) HN1.out)
  have HZ2 := Lib.hid (kp1 (A := w.heap.size) (i := 6) (u := .int .i64 0) (b := w.heap.size + 2) (by omega) HZ1.out)
  have HO2 := Lib.hid (kp1 (A := w.heap.size) (i := 6) (u := .int .i64 0) (b := w.heap.size + 3) (by omega) HO1.out)
  have HB2 := Lib.hid (HB1.out.setCell (p := ⟨w.heap.size, 6, none⟩) (Nat.le_refl _) (.int .i64 0))
  clear HX1 HN1 HZ1 HO1 HB1 hPx
  generalize (w1.setCell ⟨w.heap.size, 6, none⟩ (.int .i64 0)) = w2 at HX2 HN2 HZ2 HO2 HB2 ⊢
  obtain ⟨m0, m1, m2, m3, m4, m5, m6, m7, m8⟩ := bx9 HX2.out
  obtain ⟨k0, k1, k2, k3, k4, k5, k6, k7, k8, k9, k10⟩ := bx11 HN2.out
  obtain ⟨HP, HBp⟩ := bxOne w2 #[.int .i64 2, .int .i64 8] 69
  have HX3 := kpB HBp.out HX2
  have HN3 := kpB HBp.out HN2
  have HZ3 := kpB HBp.out HZ2
  have HO3 := kpB HBp.out HO2
  have HB3 := Lib.hid (HB2.out.trans (HBp.out.mono HB2.out.size))
  have hPy : w.heap.size + 3 < w2.heap.size := heap_lt HO2.out
  have p0 : (w2.alloc (.cells #[.int .i64 2, .int .i64 8] 69)).cell? ⟨w2.heap.size, 0, none⟩ = some (.int .i64 2) := by rw [Lib.cell_of_heap HP.out]; rfl
  have p1 : (w2.alloc (.cells #[.int .i64 2, .int .i64 8] 69)).cell? ⟨w2.heap.size, 1, none⟩ = some (.int .i64 8) := by rw [Lib.cell_of_heap HP.out]; rfl
  obtain ⟨mm0, mm1, mm2, mm3, mm4, mm5, mm6, mm7, mm8⟩ := bx9 HX3.out
  obtain ⟨kk0, kk1, kk2, kk3, kk4, kk5, kk6, kk7, kk8, kk9, kk10⟩ := bx11 HN3.out
  go_wp2_with fail
  refine (CM.out _).mono ?_
  rintro e w4 ⟨rfl, hb⟩
  have HX4 := kpB hb HX3
  have HN4 := kpB hb HN3
  have HZ4 := kpB hb HZ3
  have HO4 := kpB hb HO3
  have HB4 := Lib.hid (HB3.out.trans (hb.mono HB3.out.size))
  have HP4 := kpB hb HP
  clear hb CM HX3 HN3 HZ3 HO3 HB3
  clear m0 m1 m2 m3 m4 m5 m6 m7 m8 mm0 mm1 mm2 mm3 mm4 mm5 mm6 mm7 mm8
  clear k0 k1 k2 k3 k4 k5 k6 k7 k8 k9 k10 kk0 kk1 kk2 kk3 kk4 kk5 kk6 kk7 kk8 kk9 kk10
  clear p0 p1 HP HBp HX2 HN2 HZ2 HO2 HB2
  obtain ⟨m0, m1, m2, m3, m4, m5, m6, m7, m8⟩ := bx9 HX4.out
  obtain ⟨k0, k1, k2, k3, k4, k5, k6, k7, k8, k9, k10⟩ := bx11 HN4.out
  have p0 : w4.cell? ⟨w2.heap.size, 0, none⟩ = some (.int .i64 2) := by rw [Lib.cell_of_heap HP4.out]; rfl
  have p1 : w4.cell? ⟨w2.heap.size, 1, none⟩ = some (.int .i64 8) := by rw [Lib.cell_of_heap HP4.out]; rfl
  go_wp2_with fail
  refine (CUp.out _ HB4.out).mono ?_
  rintro e w5 ⟨rfl, hb⟩
  have HX5 := kpB hb HX4
  have HZ5 := kpB hb HZ4
  have HO5 := kpB hb HO4
  have HB5 := Lib.hid (HB4.out.trans (hb.mono HB4.out.size))
  clear hb CUp HX4 HN4 HZ4 HO4 HB4 p0 p1
  clear m0 m1 m2 m3 m4 m5 m6 m7 m8
  clear k0 k1 k2 k3 k4 k5 k6 k7 k8 k9 k10
  clear HP4
  obtain ⟨m0, m1, m2, m3, m4, m5, m6, m7, m8⟩ := bx9 HX5.out
  obtain ⟨z0, z1, z2, z3, z4, z5, z6, z7, z8⟩ := bx9 HZ5.out
  obtain ⟨zf0, zf1, zf2, zf3, zf4, zf5, zf6, zf7, zf8⟩ := bx9f HZ5.out
  obtain ⟨y0, y1, y2⟩ := bx3 HO5.out
  obtain ⟨yf0, yf1, yf2⟩ := bx3f HO5.out
  have hPz : w.heap.size + 3 < w5.heap.size := heap_lt HO5.out
  have hPza : w.heap.size + 2 < w5.heap.size := heap_lt HZ5.out
  go_wp2_with fail
  exact bodyPost_ret (results_two Tryz.results17 _ _ (w.heap.size + 2) (w.heap.size + 3) _ _ rfl rfl (load_s ((st3k (by omega) (.slice none 0 0) (.bool false) (.slice none 0 0)).trans (st9 HZ5.out (.int .i64 2) (.string s.n) (.string s.d) (.int .i64 s.s) (.int .i64 s.t) (.int .i64 s.c) (.int .i64 0) (.int .i64 s.a) (.int .i64 s.e)))) (load_o (st3 ((st9k (by omega) (.int .i64 2) (.string s.n) (.string s.d) (.int .i64 s.s) (.int .i64 s.t) (.int .i64 s.c) (.int .i64 0) (.int .i64 s.a) (.int .i64 s.e)).trans HO5.out) (.slice none 0 0) (.bool false) (.slice none 0 0)))) rfl ⟨none, none, 0, 0, rfl, st3b (st9b HB5.out (by omega) (.int .i64 2) (.string s.n) (.string s.d) (.int .i64 s.s) (.int .i64 s.t) (.int .i64 s.c) (.int .i64 0) (.int .i64 s.a) (.int .i64 s.e)) (by omega) (.slice none 0 0) (.bool false) (.slice none 0 0), fr_nil _ _ _, fr_nil _ _ _⟩
set_option maxRecDepth 100000 in
set_option maxHeartbeats 8000000 in
theorem take_n3 (s : Ss) (n : Nt) (ai az : Option Addr) (ci cz : Nat) (w : World) (hG : Gl w) (k3 : (n.k == 3) = false) (k9 : (n.k == 9) = false) : Calls Tryz.prog 17 #[.agg #[.int .i64 3, .string s.n, .string s.d, .int .i64 s.s, .int .i64 s.t, .int .i64 s.c, .int .i64 s.h, .int .i64 s.a, .int .i64 s.e], .agg #[.int .i64 n.k, .string n.n, .string n.x, .string n.d, .int .i64 n.c, .int .i64 n.s, .int .i64 n.e, .int .i64 n.t, .bool n.o, .slice ai n.l.length ci, .slice az n.z.length cz]] w (StQ ({ s with p := 3, h := 0 }, zO) w) := by
  have CUp : Hid (∀ W, Below w.heap.size w W → Calls Tryz.prog 40 #[.agg #[.int .i64 3, .int .i64 n.k]] W (Gives (.bool false) W)) := fun W hb => isUpward_no 3 n.k W (hG.below hb).s rfl
  clear hG
  have hu : undr 3 = true := rfl
  have CU : Hid (∀ W, Calls Tryz.prog 34 #[.agg #[.int .i64 3, .string s.n, .string s.d, .int .i64 s.s, .int .i64 s.t, .int .i64 s.c, .int .i64 s.h, .int .i64 s.a, .int .i64 s.e]] W (Gives (.bool true) W)) := fun W => by
    have q := undr_any { s with p := 3 } W
    rw [show undr _ = true from hu] at q
    exact q
  clear hu
  obtain ⟨HB, HX, HN, HZ, HO⟩ := bxFour w #[.int .i64 3, .string s.n, .string s.d, .int .i64 s.s, .int .i64 s.t, .int .i64 s.c, .int .i64 s.h, .int .i64 s.a, .int .i64 s.e] 28 #[.int .i64 n.k, .string n.n, .string n.x, .string n.d, .int .i64 n.c, .int .i64 n.s, .int .i64 n.e, .int .i64 n.t, .bool n.o, .slice ai n.l.length ci, .slice az n.z.length cz] 42 #[.int .i64 0, .string ⟨#[]⟩, .string ⟨#[]⟩, .int .i64 0, .int .i64 0, .int .i64 0, .int .i64 0, .int .i64 0, .int .i64 0] 28 #[.slice none 0 0, .bool false, .slice none 0 0] 31
  obtain ⟨m0, m1, m2, m3, m4, m5, m6, m7, m8⟩ := bx9 HX.out
  go_enter Tryz.func17, Tryz.ntmps17
  go_wp2_with fail
  refine (CU.out _).mono ?_
  rintro e w1 ⟨rfl, hb⟩
  clear m0 m1 m2 m3 m4 m5 m6 m7 m8
  have HX1 := kpB hb HX
  have HN1 := kpB hb HN
  have HZ1 := kpB hb HZ
  have HO1 := kpB hb HO
  have HB1 := Lib.hid (HB.out.trans (hb.mono HB.out.size))
  clear hb HB HX HN HZ HO CU
  obtain ⟨m0, m1, m2, m3, m4, m5, m6, m7, m8⟩ := bx9 HX1.out
  have hPx : w.heap.size + 3 < w1.heap.size := heap_lt HO1.out
  obtain ⟨f0, f1, f2, f3, f4, f5, f6, f7, f8⟩ := bx9f HX1.out
  obtain ⟨k0, k1, k2, k3, k4, k5, k6, k7, k8, k9, k10⟩ := bx11 HN1.out
  go_upto_region 4 with fail
  clear m0 m1 m2 m3 m4 m5 m6 m7 m8 f0 f1 f2 f3 f4 f5 f6 f7 f8
  clear k0 k1 k2 k3 k4 k5 k6 k7 k8 k9 k10
  have HX2 : Hid ((w1.setCell ⟨w.heap.size, 6, none⟩ (.int .i64 0)).heap[w.heap.size]? = some (.cells #[.int .i64 3, .string s.n, .string s.d, .int .i64 s.s, .int .i64 s.t, .int .i64 s.c, .int .i64 0, .int .i64 s.a, .int .i64 s.e] 28 (0, 0))) := by
    show _ = _
    simp [World.setCell, Array.getElem?_modify, HX1.out]
  have HN2 := Lib.hid (kp1 (A := w.heap.size) (i := 6) (u := .int .i64 0) (b := w.heap.size + 1) (by omega) HN1.out)
  have HZ2 := Lib.hid (kp1 (A := w.heap.size) (i := 6) (u := .int .i64 0) (b := w.heap.size + 2) (by omega) HZ1.out)
  have HO2 := Lib.hid (kp1 (A := w.heap.size) (i := 6) (u := .int .i64 0) (b := w.heap.size + 3) (by omega) HO1.out)
  have HB2 := Lib.hid (HB1.out.setCell (p := ⟨w.heap.size, 6, none⟩) (Nat.le_refl _) (.int .i64 0))
  clear HX1 HN1 HZ1 HO1 HB1 hPx
  generalize (w1.setCell ⟨w.heap.size, 6, none⟩ (.int .i64 0)) = w2 at HX2 HN2 HZ2 HO2 HB2 ⊢
  obtain ⟨m0, m1, m2, m3, m4, m5, m6, m7, m8⟩ := bx9 HX2.out
  obtain ⟨k0, k1, k2, k3, k4, k5, k6, k7, k8, k9, k10⟩ := bx11 HN2.out
  obtain ⟨HP, HBp⟩ := bxOne w2 #[.int .i64 3, .int .i64 n.k] 69
  have HX3 := kpB HBp.out HX2
  have HN3 := kpB HBp.out HN2
  have HZ3 := kpB HBp.out HZ2
  have HO3 := kpB HBp.out HO2
  have HB3 := Lib.hid (HB2.out.trans (HBp.out.mono HB2.out.size))
  have hPy : w.heap.size + 3 < w2.heap.size := heap_lt HO2.out
  have p0 : (w2.alloc (.cells #[.int .i64 3, .int .i64 n.k] 69)).cell? ⟨w2.heap.size, 0, none⟩ = some (.int .i64 3) := by rw [Lib.cell_of_heap HP.out]; rfl
  have p1 : (w2.alloc (.cells #[.int .i64 3, .int .i64 n.k] 69)).cell? ⟨w2.heap.size, 1, none⟩ = some (.int .i64 n.k) := by rw [Lib.cell_of_heap HP.out]; rfl
  obtain ⟨mm0, mm1, mm2, mm3, mm4, mm5, mm6, mm7, mm8⟩ := bx9 HX3.out
  obtain ⟨kk0, kk1, kk2, kk3, kk4, kk5, kk6, kk7, kk8, kk9, kk10⟩ := bx11 HN3.out
  go_wp2_with fail
  refine (CUp.out _ HB3.out).mono ?_
  rintro e w5 ⟨rfl, hb⟩
  have HX5 := kpB hb HX3
  have HZ5 := kpB hb HZ3
  have HO5 := kpB hb HO3
  have HB5 := Lib.hid (HB3.out.trans (hb.mono HB3.out.size))
  clear hb CUp HX3 HN3 HZ3 HO3 HB3 p0 p1
  clear m0 m1 m2 m3 m4 m5 m6 m7 m8 mm0 mm1 mm2 mm3 mm4 mm5 mm6 mm7 mm8
  clear k0 k1 k2 k3 k4 k5 k6 k7 k8 k9 k10 kk0 kk1 kk2 kk3 kk4 kk5 kk6 kk7 kk8 kk9 kk10
  clear HP HBp HX2 HN2 HZ2 HO2 HB2
  obtain ⟨m0, m1, m2, m3, m4, m5, m6, m7, m8⟩ := bx9 HX5.out
  obtain ⟨z0, z1, z2, z3, z4, z5, z6, z7, z8⟩ := bx9 HZ5.out
  obtain ⟨zf0, zf1, zf2, zf3, zf4, zf5, zf6, zf7, zf8⟩ := bx9f HZ5.out
  obtain ⟨y0, y1, y2⟩ := bx3 HO5.out
  obtain ⟨yf0, yf1, yf2⟩ := bx3f HO5.out
  have hPz : w.heap.size + 3 < w5.heap.size := heap_lt HO5.out
  have hPza : w.heap.size + 2 < w5.heap.size := heap_lt HZ5.out
  go_wp2_with fail
  exact bodyPost_ret (results_two Tryz.results17 _ _ (w.heap.size + 2) (w.heap.size + 3) _ _ rfl rfl (load_s ((st3k (by omega) (.slice none 0 0) (.bool false) (.slice none 0 0)).trans (st9 HZ5.out (.int .i64 3) (.string s.n) (.string s.d) (.int .i64 s.s) (.int .i64 s.t) (.int .i64 s.c) (.int .i64 0) (.int .i64 s.a) (.int .i64 s.e)))) (load_o (st3 ((st9k (by omega) (.int .i64 3) (.string s.n) (.string s.d) (.int .i64 s.s) (.int .i64 s.t) (.int .i64 s.c) (.int .i64 0) (.int .i64 s.a) (.int .i64 s.e)).trans HO5.out) (.slice none 0 0) (.bool false) (.slice none 0 0)))) rfl ⟨none, none, 0, 0, rfl, st3b (st9b HB5.out (by omega) (.int .i64 3) (.string s.n) (.string s.d) (.int .i64 s.s) (.int .i64 s.t) (.int .i64 s.c) (.int .i64 0) (.int .i64 s.a) (.int .i64 s.e)) (by omega) (.slice none 0 0) (.bool false) (.slice none 0 0), fr_nil _ _ _, fr_nil _ _ _⟩
set_option maxRecDepth 100000 in
set_option maxHeartbeats 8000000 in
theorem take_n4 (s : Ss) (n : Nt) (ai az : Option Addr) (ci cz : Nat) (w : World) (hG : Gl w) (k3 : (n.k == 3) = false) (k18 : (n.k == 18) = false) (k19 : (n.k == 19) = false) : Calls Tryz.prog 17 #[.agg #[.int .i64 4, .string s.n, .string s.d, .int .i64 s.s, .int .i64 s.t, .int .i64 s.c, .int .i64 s.h, .int .i64 s.a, .int .i64 s.e], .agg #[.int .i64 n.k, .string n.n, .string n.x, .string n.d, .int .i64 n.c, .int .i64 n.s, .int .i64 n.e, .int .i64 n.t, .bool n.o, .slice ai n.l.length ci, .slice az n.z.length cz]] w (StQ ({ s with p := 4, h := 0 }, zO) w) := by
  have CUp : Hid (∀ W, Below w.heap.size w W → Calls Tryz.prog 40 #[.agg #[.int .i64 4, .int .i64 n.k]] W (Gives (.bool false) W)) := fun W hb => isUpward_no 4 n.k W (hG.below hb).s rfl
  clear hG
  have hu : undr 4 = true := rfl
  have CU : Hid (∀ W, Calls Tryz.prog 34 #[.agg #[.int .i64 4, .string s.n, .string s.d, .int .i64 s.s, .int .i64 s.t, .int .i64 s.c, .int .i64 s.h, .int .i64 s.a, .int .i64 s.e]] W (Gives (.bool true) W)) := fun W => by
    have q := undr_any { s with p := 4 } W
    rw [show undr _ = true from hu] at q
    exact q
  clear hu
  obtain ⟨HB, HX, HN, HZ, HO⟩ := bxFour w #[.int .i64 4, .string s.n, .string s.d, .int .i64 s.s, .int .i64 s.t, .int .i64 s.c, .int .i64 s.h, .int .i64 s.a, .int .i64 s.e] 28 #[.int .i64 n.k, .string n.n, .string n.x, .string n.d, .int .i64 n.c, .int .i64 n.s, .int .i64 n.e, .int .i64 n.t, .bool n.o, .slice ai n.l.length ci, .slice az n.z.length cz] 42 #[.int .i64 0, .string ⟨#[]⟩, .string ⟨#[]⟩, .int .i64 0, .int .i64 0, .int .i64 0, .int .i64 0, .int .i64 0, .int .i64 0] 28 #[.slice none 0 0, .bool false, .slice none 0 0] 31
  obtain ⟨m0, m1, m2, m3, m4, m5, m6, m7, m8⟩ := bx9 HX.out
  go_enter Tryz.func17, Tryz.ntmps17
  go_wp2_with fail
  refine (CU.out _).mono ?_
  rintro e w1 ⟨rfl, hb⟩
  clear m0 m1 m2 m3 m4 m5 m6 m7 m8
  have HX1 := kpB hb HX
  have HN1 := kpB hb HN
  have HZ1 := kpB hb HZ
  have HO1 := kpB hb HO
  have HB1 := Lib.hid (HB.out.trans (hb.mono HB.out.size))
  clear hb HB HX HN HZ HO CU
  obtain ⟨m0, m1, m2, m3, m4, m5, m6, m7, m8⟩ := bx9 HX1.out
  have hPx : w.heap.size + 3 < w1.heap.size := heap_lt HO1.out
  obtain ⟨f0, f1, f2, f3, f4, f5, f6, f7, f8⟩ := bx9f HX1.out
  obtain ⟨k0, k1, k2, k3, k4, k5, k6, k7, k8, k9, k10⟩ := bx11 HN1.out
  go_upto_region 4 with fail
  clear m0 m1 m2 m3 m4 m5 m6 m7 m8 f0 f1 f2 f3 f4 f5 f6 f7 f8
  clear k0 k1 k2 k3 k4 k5 k6 k7 k8 k9 k10
  have HX2 : Hid ((w1.setCell ⟨w.heap.size, 6, none⟩ (.int .i64 0)).heap[w.heap.size]? = some (.cells #[.int .i64 4, .string s.n, .string s.d, .int .i64 s.s, .int .i64 s.t, .int .i64 s.c, .int .i64 0, .int .i64 s.a, .int .i64 s.e] 28 (0, 0))) := by
    show _ = _
    simp [World.setCell, Array.getElem?_modify, HX1.out]
  have HN2 := Lib.hid (kp1 (A := w.heap.size) (i := 6) (u := .int .i64 0) (b := w.heap.size + 1) (by omega) HN1.out)
  have HZ2 := Lib.hid (kp1 (A := w.heap.size) (i := 6) (u := .int .i64 0) (b := w.heap.size + 2) (by omega) HZ1.out)
  have HO2 := Lib.hid (kp1 (A := w.heap.size) (i := 6) (u := .int .i64 0) (b := w.heap.size + 3) (by omega) HO1.out)
  have HB2 := Lib.hid (HB1.out.setCell (p := ⟨w.heap.size, 6, none⟩) (Nat.le_refl _) (.int .i64 0))
  clear HX1 HN1 HZ1 HO1 HB1 hPx
  generalize (w1.setCell ⟨w.heap.size, 6, none⟩ (.int .i64 0)) = w2 at HX2 HN2 HZ2 HO2 HB2 ⊢
  obtain ⟨m0, m1, m2, m3, m4, m5, m6, m7, m8⟩ := bx9 HX2.out
  obtain ⟨k0, k1, k2, k3, k4, k5, k6, k7, k8, k9, k10⟩ := bx11 HN2.out
  obtain ⟨HP, HBp⟩ := bxOne w2 #[.int .i64 4, .int .i64 n.k] 69
  have HX3 := kpB HBp.out HX2
  have HN3 := kpB HBp.out HN2
  have HZ3 := kpB HBp.out HZ2
  have HO3 := kpB HBp.out HO2
  have HB3 := Lib.hid (HB2.out.trans (HBp.out.mono HB2.out.size))
  have hPy : w.heap.size + 3 < w2.heap.size := heap_lt HO2.out
  have p0 : (w2.alloc (.cells #[.int .i64 4, .int .i64 n.k] 69)).cell? ⟨w2.heap.size, 0, none⟩ = some (.int .i64 4) := by rw [Lib.cell_of_heap HP.out]; rfl
  have p1 : (w2.alloc (.cells #[.int .i64 4, .int .i64 n.k] 69)).cell? ⟨w2.heap.size, 1, none⟩ = some (.int .i64 n.k) := by rw [Lib.cell_of_heap HP.out]; rfl
  obtain ⟨mm0, mm1, mm2, mm3, mm4, mm5, mm6, mm7, mm8⟩ := bx9 HX3.out
  obtain ⟨kk0, kk1, kk2, kk3, kk4, kk5, kk6, kk7, kk8, kk9, kk10⟩ := bx11 HN3.out
  go_wp2_with fail
  refine (CUp.out _ HB3.out).mono ?_
  rintro e w5 ⟨rfl, hb⟩
  have HX5 := kpB hb HX3
  have HZ5 := kpB hb HZ3
  have HO5 := kpB hb HO3
  have HB5 := Lib.hid (HB3.out.trans (hb.mono HB3.out.size))
  clear hb CUp HX3 HN3 HZ3 HO3 HB3 p0 p1
  clear m0 m1 m2 m3 m4 m5 m6 m7 m8 mm0 mm1 mm2 mm3 mm4 mm5 mm6 mm7 mm8
  clear k0 k1 k2 k3 k4 k5 k6 k7 k8 k9 k10 kk0 kk1 kk2 kk3 kk4 kk5 kk6 kk7 kk8 kk9 kk10
  clear HP HBp HX2 HN2 HZ2 HO2 HB2
  obtain ⟨m0, m1, m2, m3, m4, m5, m6, m7, m8⟩ := bx9 HX5.out
  obtain ⟨z0, z1, z2, z3, z4, z5, z6, z7, z8⟩ := bx9 HZ5.out
  obtain ⟨zf0, zf1, zf2, zf3, zf4, zf5, zf6, zf7, zf8⟩ := bx9f HZ5.out
  obtain ⟨y0, y1, y2⟩ := bx3 HO5.out
  obtain ⟨yf0, yf1, yf2⟩ := bx3f HO5.out
  have hPz : w.heap.size + 3 < w5.heap.size := heap_lt HO5.out
  have hPza : w.heap.size + 2 < w5.heap.size := heap_lt HZ5.out
  go_wp2_with fail
  exact bodyPost_ret (results_two Tryz.results17 _ _ (w.heap.size + 2) (w.heap.size + 3) _ _ rfl rfl (load_s ((st3k (by omega) (.slice none 0 0) (.bool false) (.slice none 0 0)).trans (st9 HZ5.out (.int .i64 4) (.string s.n) (.string s.d) (.int .i64 s.s) (.int .i64 s.t) (.int .i64 s.c) (.int .i64 0) (.int .i64 s.a) (.int .i64 s.e)))) (load_o (st3 ((st9k (by omega) (.int .i64 4) (.string s.n) (.string s.d) (.int .i64 s.s) (.int .i64 s.t) (.int .i64 s.c) (.int .i64 0) (.int .i64 s.a) (.int .i64 s.e)).trans HO5.out) (.slice none 0 0) (.bool false) (.slice none 0 0)))) rfl ⟨none, none, 0, 0, rfl, st3b (st9b HB5.out (by omega) (.int .i64 4) (.string s.n) (.string s.d) (.int .i64 s.s) (.int .i64 s.t) (.int .i64 s.c) (.int .i64 0) (.int .i64 s.a) (.int .i64 s.e)) (by omega) (.slice none 0 0) (.bool false) (.slice none 0 0), fr_nil _ _ _, fr_nil _ _ _⟩
set_option maxRecDepth 100000 in
set_option maxHeartbeats 8000000 in
theorem take_n5 (s : Ss) (n : Nt) (ai az : Option Addr) (ci cz : Nat) (w : World) (hG : Gl w) (k3 : (n.k == 3) = false) (hup : upK n.k = false) : Calls Tryz.prog 17 #[.agg #[.int .i64 5, .string s.n, .string s.d, .int .i64 s.s, .int .i64 s.t, .int .i64 s.c, .int .i64 s.h, .int .i64 s.a, .int .i64 s.e], .agg #[.int .i64 n.k, .string n.n, .string n.x, .string n.d, .int .i64 n.c, .int .i64 n.s, .int .i64 n.e, .int .i64 n.t, .bool n.o, .slice ai n.l.length ci, .slice az n.z.length cz]] w (StQ ({ s with p := 5, h := 0 }, zO) w) := by
  have CUp : Hid (∀ W, Below w.heap.size w W → Calls Tryz.prog 40 #[.agg #[.int .i64 5, .int .i64 n.k]] W (Gives (.bool false) W)) := fun W hb => by
    have q := isUpward_yes n.k W (hG.below hb).s
    rw [hup] at q
    exact q
  clear hG hup
  have hu : undr 5 = true := rfl
  have CU : Hid (∀ W, Calls Tryz.prog 34 #[.agg #[.int .i64 5, .string s.n, .string s.d, .int .i64 s.s, .int .i64 s.t, .int .i64 s.c, .int .i64 s.h, .int .i64 s.a, .int .i64 s.e]] W (Gives (.bool true) W)) := fun W => by
    have q := undr_any { s with p := 5 } W
    rw [show undr _ = true from hu] at q
    exact q
  clear hu
  obtain ⟨HB, HX, HN, HZ, HO⟩ := bxFour w #[.int .i64 5, .string s.n, .string s.d, .int .i64 s.s, .int .i64 s.t, .int .i64 s.c, .int .i64 s.h, .int .i64 s.a, .int .i64 s.e] 28 #[.int .i64 n.k, .string n.n, .string n.x, .string n.d, .int .i64 n.c, .int .i64 n.s, .int .i64 n.e, .int .i64 n.t, .bool n.o, .slice ai n.l.length ci, .slice az n.z.length cz] 42 #[.int .i64 0, .string ⟨#[]⟩, .string ⟨#[]⟩, .int .i64 0, .int .i64 0, .int .i64 0, .int .i64 0, .int .i64 0, .int .i64 0] 28 #[.slice none 0 0, .bool false, .slice none 0 0] 31
  obtain ⟨m0, m1, m2, m3, m4, m5, m6, m7, m8⟩ := bx9 HX.out
  go_enter Tryz.func17, Tryz.ntmps17
  go_wp2_with fail
  refine (CU.out _).mono ?_
  rintro e w1 ⟨rfl, hb⟩
  clear m0 m1 m2 m3 m4 m5 m6 m7 m8
  have HX1 := kpB hb HX
  have HN1 := kpB hb HN
  have HZ1 := kpB hb HZ
  have HO1 := kpB hb HO
  have HB1 := Lib.hid (HB.out.trans (hb.mono HB.out.size))
  clear hb HB HX HN HZ HO CU
  obtain ⟨m0, m1, m2, m3, m4, m5, m6, m7, m8⟩ := bx9 HX1.out
  have hPx : w.heap.size + 3 < w1.heap.size := heap_lt HO1.out
  obtain ⟨f0, f1, f2, f3, f4, f5, f6, f7, f8⟩ := bx9f HX1.out
  obtain ⟨k0, k1, k2, k3, k4, k5, k6, k7, k8, k9, k10⟩ := bx11 HN1.out
  go_upto_region 4 with fail
  clear m0 m1 m2 m3 m4 m5 m6 m7 m8 f0 f1 f2 f3 f4 f5 f6 f7 f8
  clear k0 k1 k2 k3 k4 k5 k6 k7 k8 k9 k10
  have HX2 : Hid ((w1.setCell ⟨w.heap.size, 6, none⟩ (.int .i64 0)).heap[w.heap.size]? = some (.cells #[.int .i64 5, .string s.n, .string s.d, .int .i64 s.s, .int .i64 s.t, .int .i64 s.c, .int .i64 0, .int .i64 s.a, .int .i64 s.e] 28 (0, 0))) := by
    show _ = _
    simp [World.setCell, Array.getElem?_modify, HX1.out]
  have HN2 := Lib.hid (kp1 (A := w.heap.size) (i := 6) (u := .int .i64 0) (b := w.heap.size + 1) (by omega) HN1.out)
  have HZ2 := Lib.hid (kp1 (A := w.heap.size) (i := 6) (u := .int .i64 0) (b := w.heap.size + 2) (by omega) HZ1.out)
  have HO2 := Lib.hid (kp1 (A := w.heap.size) (i := 6) (u := .int .i64 0) (b := w.heap.size + 3) (by omega) HO1.out)
  have HB2 := Lib.hid (HB1.out.setCell (p := ⟨w.heap.size, 6, none⟩) (Nat.le_refl _) (.int .i64 0))
  clear HX1 HN1 HZ1 HO1 HB1 hPx
  generalize (w1.setCell ⟨w.heap.size, 6, none⟩ (.int .i64 0)) = w2 at HX2 HN2 HZ2 HO2 HB2 ⊢
  obtain ⟨m0, m1, m2, m3, m4, m5, m6, m7, m8⟩ := bx9 HX2.out
  obtain ⟨k0, k1, k2, k3, k4, k5, k6, k7, k8, k9, k10⟩ := bx11 HN2.out
  obtain ⟨HP, HBp⟩ := bxOne w2 #[.int .i64 5, .int .i64 n.k] 69
  have HX3 := kpB HBp.out HX2
  have HN3 := kpB HBp.out HN2
  have HZ3 := kpB HBp.out HZ2
  have HO3 := kpB HBp.out HO2
  have HB3 := Lib.hid (HB2.out.trans (HBp.out.mono HB2.out.size))
  have hPy : w.heap.size + 3 < w2.heap.size := heap_lt HO2.out
  have p0 : (w2.alloc (.cells #[.int .i64 5, .int .i64 n.k] 69)).cell? ⟨w2.heap.size, 0, none⟩ = some (.int .i64 5) := by rw [Lib.cell_of_heap HP.out]; rfl
  have p1 : (w2.alloc (.cells #[.int .i64 5, .int .i64 n.k] 69)).cell? ⟨w2.heap.size, 1, none⟩ = some (.int .i64 n.k) := by rw [Lib.cell_of_heap HP.out]; rfl
  obtain ⟨mm0, mm1, mm2, mm3, mm4, mm5, mm6, mm7, mm8⟩ := bx9 HX3.out
  obtain ⟨kk0, kk1, kk2, kk3, kk4, kk5, kk6, kk7, kk8, kk9, kk10⟩ := bx11 HN3.out
  go_wp2_with fail
  refine (CUp.out _ HB3.out).mono ?_
  rintro e w5 ⟨rfl, hb⟩
  have HX5 := kpB hb HX3
  have HZ5 := kpB hb HZ3
  have HO5 := kpB hb HO3
  have HB5 := Lib.hid (HB3.out.trans (hb.mono HB3.out.size))
  clear hb CUp HX3 HN3 HZ3 HO3 HB3 p0 p1
  clear m0 m1 m2 m3 m4 m5 m6 m7 m8 mm0 mm1 mm2 mm3 mm4 mm5 mm6 mm7 mm8
  clear k0 k1 k2 k3 k4 k5 k6 k7 k8 k9 k10 kk0 kk1 kk2 kk3 kk4 kk5 kk6 kk7 kk8 kk9 kk10
  clear HP HBp HX2 HN2 HZ2 HO2 HB2
  obtain ⟨m0, m1, m2, m3, m4, m5, m6, m7, m8⟩ := bx9 HX5.out
  obtain ⟨z0, z1, z2, z3, z4, z5, z6, z7, z8⟩ := bx9 HZ5.out
  obtain ⟨zf0, zf1, zf2, zf3, zf4, zf5, zf6, zf7, zf8⟩ := bx9f HZ5.out
  obtain ⟨y0, y1, y2⟩ := bx3 HO5.out
  obtain ⟨yf0, yf1, yf2⟩ := bx3f HO5.out
  have hPz : w.heap.size + 3 < w5.heap.size := heap_lt HO5.out
  have hPza : w.heap.size + 2 < w5.heap.size := heap_lt HZ5.out
  go_wp2_with fail
  exact bodyPost_ret (results_two Tryz.results17 _ _ (w.heap.size + 2) (w.heap.size + 3) _ _ rfl rfl (load_s ((st3k (by omega) (.slice none 0 0) (.bool false) (.slice none 0 0)).trans (st9 HZ5.out (.int .i64 5) (.string s.n) (.string s.d) (.int .i64 s.s) (.int .i64 s.t) (.int .i64 s.c) (.int .i64 0) (.int .i64 s.a) (.int .i64 s.e)))) (load_o (st3 ((st9k (by omega) (.int .i64 5) (.string s.n) (.string s.d) (.int .i64 s.s) (.int .i64 s.t) (.int .i64 s.c) (.int .i64 0) (.int .i64 s.a) (.int .i64 s.e)).trans HO5.out) (.slice none 0 0) (.bool false) (.slice none 0 0)))) rfl ⟨none, none, 0, 0, rfl, st3b (st9b HB5.out (by omega) (.int .i64 5) (.string s.n) (.string s.d) (.int .i64 s.s) (.int .i64 s.t) (.int .i64 s.c) (.int .i64 0) (.int .i64 s.a) (.int .i64 s.e)) (by omega) (.slice none 0 0) (.bool false) (.slice none 0 0), fr_nil _ _ _, fr_nil _ _ _⟩
end Go.Proofs.YthbeempmdpfnmaaGreatDoor.T
