/- Contracts of the laws' functions: num, take, does, begin. Conditions: those of each theorem's head. -/
import Derived.Test.YthbeempmdpfnmaaGreatDoorSg
namespace Go.Proofs.YthbeempmdpfnmaaGreatDoor.T
open Go.RowKit Go.Lib

theorem bx13 {w : World} {b : Nat} {v0 v1 v2 v3 v4 v5 v6 v7 v8 v9 v10 v11 v12 : Value} {t : TypeId} (h : w.heap[b]? = some (.cells #[v0, v1, v2, v3, v4, v5, v6, v7, v8, v9, v10, v11, v12] t (0, 0))) :
    w.cell? ⟨b, 0, none⟩ = some v0
    ∧ w.cell? ⟨b, 1, none⟩ = some v1
    ∧ w.cell? ⟨b, 2, none⟩ = some v2
    ∧ w.cell? ⟨b, 3, none⟩ = some v3
    ∧ w.cell? ⟨b, 4, none⟩ = some v4
    ∧ w.cell? ⟨b, 5, none⟩ = some v5
    ∧ w.cell? ⟨b, 6, none⟩ = some v6
    ∧ w.cell? ⟨b, 7, none⟩ = some v7
    ∧ w.cell? ⟨b, 8, none⟩ = some v8
    ∧ w.cell? ⟨b, 9, none⟩ = some v9
    ∧ w.cell? ⟨b, 10, none⟩ = some v10
    ∧ w.cell? ⟨b, 11, none⟩ = some v11
    ∧ w.cell? ⟨b, 12, none⟩ = some v12 := by
  refine ⟨?_, ?_, ?_, ?_, ?_, ?_, ?_, ?_, ?_, ?_, ?_, ?_, ?_⟩ <;> (rw [Lib.cell_of_heap h]; rfl)
theorem bx5 {w : World} {b : Nat} {v0 v1 v2 v3 v4 : Value} {t : TypeId} (h : w.heap[b]? = some (.cells #[v0, v1, v2, v3, v4] t (0, 0))) :
    w.cell? ⟨b, 0, none⟩ = some v0 ∧ w.cell? ⟨b, 1, none⟩ = some v1 ∧ w.cell? ⟨b, 2, none⟩ = some v2 ∧ w.cell? ⟨b, 3, none⟩ = some v3 ∧ w.cell? ⟨b, 4, none⟩ = some v4 := by
  refine ⟨?_, ?_, ?_, ?_, ?_⟩ <;> (rw [Lib.cell_of_heap h]; rfl)
theorem Fr.st {N M Z O : Nat} {w : World} {a : Option Addr} {l : List Nt} (h : Fr M w a l) (hN : N ≤ M) (hZ : Z < M) (hO : O < M) (u0 u1 u2 u3 u4 u5 u6 u7 u8 y0 y1 y2 : Value) : Fr N ((((((((((((w.setCell ⟨Z, 0, none⟩ u0).setCell ⟨Z, 1, none⟩ u1).setCell ⟨Z, 2, none⟩ u2).setCell ⟨Z, 3, none⟩ u3).setCell ⟨Z, 4, none⟩ u4).setCell ⟨Z, 5, none⟩ u5).setCell ⟨Z, 6, none⟩ u6).setCell ⟨Z, 7, none⟩ u7).setCell ⟨Z, 8, none⟩ u8).setCell ⟨O, 0, none⟩ y0).setCell ⟨O, 1, none⟩ y1).setCell ⟨O, 2, none⟩ y2) a l :=
  (h.agree (by simp only [st_size]; exact Nat.le_refl _) fun k h1 _ => (st3k (by omega) y0 y1 y2).trans (st9k (by omega) u0 u1 u2 u3 u4 u5 u6 u7 u8)).mono hN
/-- Something done to a session. -/
structure Ac where
  k : Int
  n : Nt
  c : Int
def dos (s : Ss) (a : Ac) : Ss × So := if a.k = 0 then tk s a.n else if a.k = 1 then tc s else if a.k = 2 then sp s a.c else (sn s, zO)
def acA (a : Ac) (ai az : Option Addr) (ci cz : Nat) : Value := .agg #[.int .i64 a.k, .int .i64 a.n.k, .string a.n.n, .string a.n.x, .string a.n.d, .int .i64 a.n.c, .int .i64 a.n.s, .int .i64 a.n.e, .int .i64 a.n.t, .bool a.n.o, .slice ai a.n.l.length ci, .slice az a.n.z.length cz, .int .i64 a.c]
theorem lnum_any (x : Int) (w : World) : Calls Tryz.prog 18 #[.int .i64 x] w (Pure (.int .i64 x) w) := by
  go_enter Tryz.func18, Tryz.ntmps18
  go_wp2_with fail
  go_ret
  exact ⟨rfl, rfl⟩
set_option maxRecDepth 100000 in
set_option maxHeartbeats 8000000 in
theorem does_0 (s : Ss) (k : Int) (n : Nt) (c : Int) (ai az : Option Addr) (ci cz : Nat) (w : World) (hn : NtL w ai az n) (h1 : s.n.size ≤ 1000000) (h2 : s.d.size ≤ 20000) (h3 : n.d.size ≤ 20000) (hG : Gl w) (hk : (k == 0) = true) : Calls Tryz.prog 12 #[.agg #[.int .i64 s.p, .string s.n, .string s.d, .int .i64 s.s, .int .i64 s.t, .int .i64 s.c, .int .i64 s.h, .int .i64 s.a, .int .i64 s.e], .agg #[.int .i64 k, .int .i64 n.k, .string n.n, .string n.x, .string n.d, .int .i64 n.c, .int .i64 n.s, .int .i64 n.e, .int .i64 n.t, .bool n.o, .slice ai n.l.length ci, .slice az n.z.length cz, .int .i64 c]] w (StQ (tk s n) w) := by
  have CT : Hid (∀ W, Below w.heap.size w W → Calls Tryz.prog 17 #[.agg #[.int .i64 s.p, .string s.n, .string s.d, .int .i64 s.s, .int .i64 s.t, .int .i64 s.c, .int .i64 s.h, .int .i64 s.a, .int .i64 s.e], .agg #[.int .i64 n.k, .string n.n, .string n.x, .string n.d, .int .i64 n.c, .int .i64 n.s, .int .i64 n.e, .int .i64 n.t, .bool n.o, .slice ai n.l.length ci, .slice az n.z.length cz]] W (StQ (tk s n) W)) := fun W hb => take_any s n ai az ci cz W (hn.below hb) h1 h2 h3 (hG.below hb)
  clear hn h1 h2 h3 hG
  generalize tk s n = x at CT ⊢
  obtain ⟨HB, HX, HA, HZ, HO⟩ := bxFour w #[.int .i64 s.p, .string s.n, .string s.d, .int .i64 s.s, .int .i64 s.t, .int .i64 s.c, .int .i64 s.h, .int .i64 s.a, .int .i64 s.e] 28 #[.int .i64 k, .int .i64 n.k, .string n.n, .string n.x, .string n.d, .int .i64 n.c, .int .i64 n.s, .int .i64 n.e, .int .i64 n.t, .bool n.o, .slice ai n.l.length ci, .slice az n.z.length cz, .int .i64 c] 44 #[.int .i64 0, .string ⟨#[]⟩, .string ⟨#[]⟩, .int .i64 0, .int .i64 0, .int .i64 0, .int .i64 0, .int .i64 0, .int .i64 0] 28 #[.slice none 0 0, .bool false, .slice none 0 0] 31
  obtain ⟨m0, m1, m2, m3, m4, m5, m6, m7, m8⟩ := bx9 HX.out
  obtain ⟨a0, a1, a2, a3, a4, a5, a6, a7, a8, a9, a10, a11, a12⟩ := bx13 HA.out
  go_enter Tryz.func12, Tryz.ntmps12
  go_wp2_with fail
  refine (CT.out _ HB.out).mono ?_
  obtain ⟨t, q⟩ := x
  rintro e w1 ⟨a, b, k, m, rfl, hb, h1, h2⟩
  simp only [alloc_size] at h1 h2
  simp only [sA, oA]
  clear m0 m1 m2 m3 m4 m5 m6 m7 m8
  clear a0 a1 a2 a3 a4 a5 a6 a7 a8 a9 a10 a11 a12
  have HZ1 := kpB hb HZ
  have HO1 := kpB hb HO
  have HB1 := Lib.hid (HB.out.trans (hb.mono HB.out.size))
  replace h1 := Lib.hid h1
  replace h2 := Lib.hid h2
  clear hb HB HX HA HZ HO CT
  obtain ⟨z0, z1, z2, z3, z4, z5, z6, z7, z8⟩ := bx9 HZ1.out
  obtain ⟨zf0, zf1, zf2, zf3, zf4, zf5, zf6, zf7, zf8⟩ := bx9f HZ1.out
  obtain ⟨y0, y1, y2⟩ := bx3 HO1.out
  obtain ⟨yf0, yf1, yf2⟩ := bx3f HO1.out
  have hP : w.heap.size + 3 < w1.heap.size := heap_lt HO1.out
  have hPa : w.heap.size + 2 < w1.heap.size := heap_lt HZ1.out
  go_wp2_with fail
  exact bodyPost_ret (results_two Tryz.results12 _ _ (w.heap.size + 2) (w.heap.size + 3) _ _ rfl rfl (load_s ((st3k (by omega) (.slice a q.m.length k) (.bool q.f) (.slice b q.u.length m)).trans (st9 HZ1.out (.int .i64 t.p) (.string t.n) (.string t.d) (.int .i64 t.s) (.int .i64 t.t) (.int .i64 t.c) (.int .i64 t.h) (.int .i64 t.a) (.int .i64 t.e)))) (load_o (st3 ((st9k (by omega) (.int .i64 t.p) (.string t.n) (.string t.d) (.int .i64 t.s) (.int .i64 t.t) (.int .i64 t.c) (.int .i64 t.h) (.int .i64 t.a) (.int .i64 t.e)).trans HO1.out) (.slice a q.m.length k) (.bool q.f) (.slice b q.u.length m)))) rfl ⟨a, b, k, m, rfl, st3b (st9b HB1.out (by omega) (.int .i64 t.p) (.string t.n) (.string t.d) (.int .i64 t.s) (.int .i64 t.t) (.int .i64 t.c) (.int .i64 t.h) (.int .i64 t.a) (.int .i64 t.e)) (by omega) (.slice a q.m.length k) (.bool q.f) (.slice b q.u.length m), h1.out.st (by omega) (by omega) (by omega) (.int .i64 t.p) (.string t.n) (.string t.d) (.int .i64 t.s) (.int .i64 t.t) (.int .i64 t.c) (.int .i64 t.h) (.int .i64 t.a) (.int .i64 t.e) (.slice a q.m.length k) (.bool q.f) (.slice b q.u.length m), h2.out.st (by omega) (by omega) (by omega) (.int .i64 t.p) (.string t.n) (.string t.d) (.int .i64 t.s) (.int .i64 t.t) (.int .i64 t.c) (.int .i64 t.h) (.int .i64 t.a) (.int .i64 t.e) (.slice a q.m.length k) (.bool q.f) (.slice b q.u.length m)⟩
set_option maxRecDepth 100000 in
set_option maxHeartbeats 8000000 in
theorem does_1 (s : Ss) (k : Int) (n : Nt) (c : Int) (ai az : Option Addr) (ci cz : Nat) (w : World) (hh : 0 ≤ s.h ∧ s.h ≤ 1000000000) (ha : 0 ≤ s.a ∧ s.a ≤ 1000000000) (h0 : (k == 0) = false) (hk : (k == 1) = true) : Calls Tryz.prog 12 #[.agg #[.int .i64 s.p, .string s.n, .string s.d, .int .i64 s.s, .int .i64 s.t, .int .i64 s.c, .int .i64 s.h, .int .i64 s.a, .int .i64 s.e], .agg #[.int .i64 k, .int .i64 n.k, .string n.n, .string n.x, .string n.d, .int .i64 n.c, .int .i64 n.s, .int .i64 n.e, .int .i64 n.t, .bool n.o, .slice ai n.l.length ci, .slice az n.z.length cz, .int .i64 c]] w (StQ (tc s) w) := by
  have CT : Hid (∀ W, Below w.heap.size w W → Calls Tryz.prog 22 #[.agg #[.int .i64 s.p, .string s.n, .string s.d, .int .i64 s.s, .int .i64 s.t, .int .i64 s.c, .int .i64 s.h, .int .i64 s.a, .int .i64 s.e]] W (StQ (tc s) W)) := fun W hb => tick_any s W hh ha
  clear hh ha
  generalize tc s = x at CT ⊢
  obtain ⟨HB, HX, HA, HZ, HO⟩ := bxFour w #[.int .i64 s.p, .string s.n, .string s.d, .int .i64 s.s, .int .i64 s.t, .int .i64 s.c, .int .i64 s.h, .int .i64 s.a, .int .i64 s.e] 28 #[.int .i64 k, .int .i64 n.k, .string n.n, .string n.x, .string n.d, .int .i64 n.c, .int .i64 n.s, .int .i64 n.e, .int .i64 n.t, .bool n.o, .slice ai n.l.length ci, .slice az n.z.length cz, .int .i64 c] 44 #[.int .i64 0, .string ⟨#[]⟩, .string ⟨#[]⟩, .int .i64 0, .int .i64 0, .int .i64 0, .int .i64 0, .int .i64 0, .int .i64 0] 28 #[.slice none 0 0, .bool false, .slice none 0 0] 31
  obtain ⟨m0, m1, m2, m3, m4, m5, m6, m7, m8⟩ := bx9 HX.out
  obtain ⟨a0, a1, a2, a3, a4, a5, a6, a7, a8, a9, a10, a11, a12⟩ := bx13 HA.out
  go_enter Tryz.func12, Tryz.ntmps12
  go_wp2_with fail
  refine (CT.out _ HB.out).mono ?_
  obtain ⟨t, q⟩ := x
  rintro e w1 ⟨a, b, k, m, rfl, hb, h1, h2⟩
  simp only [alloc_size] at h1 h2
  simp only [sA, oA]
  clear m0 m1 m2 m3 m4 m5 m6 m7 m8
  clear a0 a1 a2 a3 a4 a5 a6 a7 a8 a9 a10 a11 a12
  have HZ1 := kpB hb HZ
  have HO1 := kpB hb HO
  have HB1 := Lib.hid (HB.out.trans (hb.mono HB.out.size))
  replace h1 := Lib.hid h1
  replace h2 := Lib.hid h2
  clear hb HB HX HA HZ HO CT
  obtain ⟨z0, z1, z2, z3, z4, z5, z6, z7, z8⟩ := bx9 HZ1.out
  obtain ⟨zf0, zf1, zf2, zf3, zf4, zf5, zf6, zf7, zf8⟩ := bx9f HZ1.out
  obtain ⟨y0, y1, y2⟩ := bx3 HO1.out
  obtain ⟨yf0, yf1, yf2⟩ := bx3f HO1.out
  have hP : w.heap.size + 3 < w1.heap.size := heap_lt HO1.out
  have hPa : w.heap.size + 2 < w1.heap.size := heap_lt HZ1.out
  go_wp2_with fail
  exact bodyPost_ret (results_two Tryz.results12 _ _ (w.heap.size + 2) (w.heap.size + 3) _ _ rfl rfl (load_s ((st3k (by omega) (.slice a q.m.length k) (.bool q.f) (.slice b q.u.length m)).trans (st9 HZ1.out (.int .i64 t.p) (.string t.n) (.string t.d) (.int .i64 t.s) (.int .i64 t.t) (.int .i64 t.c) (.int .i64 t.h) (.int .i64 t.a) (.int .i64 t.e)))) (load_o (st3 ((st9k (by omega) (.int .i64 t.p) (.string t.n) (.string t.d) (.int .i64 t.s) (.int .i64 t.t) (.int .i64 t.c) (.int .i64 t.h) (.int .i64 t.a) (.int .i64 t.e)).trans HO1.out) (.slice a q.m.length k) (.bool q.f) (.slice b q.u.length m)))) rfl ⟨a, b, k, m, rfl, st3b (st9b HB1.out (by omega) (.int .i64 t.p) (.string t.n) (.string t.d) (.int .i64 t.s) (.int .i64 t.t) (.int .i64 t.c) (.int .i64 t.h) (.int .i64 t.a) (.int .i64 t.e)) (by omega) (.slice a q.m.length k) (.bool q.f) (.slice b q.u.length m), h1.out.st (by omega) (by omega) (by omega) (.int .i64 t.p) (.string t.n) (.string t.d) (.int .i64 t.s) (.int .i64 t.t) (.int .i64 t.c) (.int .i64 t.h) (.int .i64 t.a) (.int .i64 t.e) (.slice a q.m.length k) (.bool q.f) (.slice b q.u.length m), h2.out.st (by omega) (by omega) (by omega) (.int .i64 t.p) (.string t.n) (.string t.d) (.int .i64 t.s) (.int .i64 t.t) (.int .i64 t.c) (.int .i64 t.h) (.int .i64 t.a) (.int .i64 t.e) (.slice a q.m.length k) (.bool q.f) (.slice b q.u.length m)⟩
set_option maxRecDepth 100000 in
set_option maxHeartbeats 8000000 in
theorem does_2 (s : Ss) (k : Int) (n : Nt) (c : Int) (ai az : Option Addr) (ci cz : Nat) (w : World)  (h0 : (k == 0) = false) (h10 : (k == 1) = false) (hk : (k == 2) = true) : Calls Tryz.prog 12 #[.agg #[.int .i64 s.p, .string s.n, .string s.d, .int .i64 s.s, .int .i64 s.t, .int .i64 s.c, .int .i64 s.h, .int .i64 s.a, .int .i64 s.e], .agg #[.int .i64 k, .int .i64 n.k, .string n.n, .string n.x, .string n.d, .int .i64 n.c, .int .i64 n.s, .int .i64 n.e, .int .i64 n.t, .bool n.o, .slice ai n.l.length ci, .slice az n.z.length cz, .int .i64 c]] w (StQ (sp s c) w) := by
  have CT : Hid (∀ W, Below w.heap.size w W → Calls Tryz.prog 23 #[.agg #[.int .i64 s.p, .string s.n, .string s.d, .int .i64 s.s, .int .i64 s.t, .int .i64 s.c, .int .i64 s.h, .int .i64 s.a, .int .i64 s.e], .int .i64 c] W (StQ (sp s c) W)) := fun W hb => stop_any s c W
  skip
  generalize sp s c = x at CT ⊢
  obtain ⟨HB, HX, HA, HZ, HO⟩ := bxFour w #[.int .i64 s.p, .string s.n, .string s.d, .int .i64 s.s, .int .i64 s.t, .int .i64 s.c, .int .i64 s.h, .int .i64 s.a, .int .i64 s.e] 28 #[.int .i64 k, .int .i64 n.k, .string n.n, .string n.x, .string n.d, .int .i64 n.c, .int .i64 n.s, .int .i64 n.e, .int .i64 n.t, .bool n.o, .slice ai n.l.length ci, .slice az n.z.length cz, .int .i64 c] 44 #[.int .i64 0, .string ⟨#[]⟩, .string ⟨#[]⟩, .int .i64 0, .int .i64 0, .int .i64 0, .int .i64 0, .int .i64 0, .int .i64 0] 28 #[.slice none 0 0, .bool false, .slice none 0 0] 31
  obtain ⟨m0, m1, m2, m3, m4, m5, m6, m7, m8⟩ := bx9 HX.out
  obtain ⟨a0, a1, a2, a3, a4, a5, a6, a7, a8, a9, a10, a11, a12⟩ := bx13 HA.out
  go_enter Tryz.func12, Tryz.ntmps12
  go_wp2_with fail
  refine (CT.out _ HB.out).mono ?_
  obtain ⟨t, q⟩ := x
  rintro e w1 ⟨a, b, k, m, rfl, hb, h1, h2⟩
  simp only [alloc_size] at h1 h2
  simp only [sA, oA]
  clear m0 m1 m2 m3 m4 m5 m6 m7 m8
  clear a0 a1 a2 a3 a4 a5 a6 a7 a8 a9 a10 a11 a12
  have HZ1 := kpB hb HZ
  have HO1 := kpB hb HO
  have HB1 := Lib.hid (HB.out.trans (hb.mono HB.out.size))
  replace h1 := Lib.hid h1
  replace h2 := Lib.hid h2
  clear hb HB HX HA HZ HO CT
  obtain ⟨z0, z1, z2, z3, z4, z5, z6, z7, z8⟩ := bx9 HZ1.out
  obtain ⟨zf0, zf1, zf2, zf3, zf4, zf5, zf6, zf7, zf8⟩ := bx9f HZ1.out
  obtain ⟨y0, y1, y2⟩ := bx3 HO1.out
  obtain ⟨yf0, yf1, yf2⟩ := bx3f HO1.out
  have hP : w.heap.size + 3 < w1.heap.size := heap_lt HO1.out
  have hPa : w.heap.size + 2 < w1.heap.size := heap_lt HZ1.out
  go_wp2_with fail
  exact bodyPost_ret (results_two Tryz.results12 _ _ (w.heap.size + 2) (w.heap.size + 3) _ _ rfl rfl (load_s ((st3k (by omega) (.slice a q.m.length k) (.bool q.f) (.slice b q.u.length m)).trans (st9 HZ1.out (.int .i64 t.p) (.string t.n) (.string t.d) (.int .i64 t.s) (.int .i64 t.t) (.int .i64 t.c) (.int .i64 t.h) (.int .i64 t.a) (.int .i64 t.e)))) (load_o (st3 ((st9k (by omega) (.int .i64 t.p) (.string t.n) (.string t.d) (.int .i64 t.s) (.int .i64 t.t) (.int .i64 t.c) (.int .i64 t.h) (.int .i64 t.a) (.int .i64 t.e)).trans HO1.out) (.slice a q.m.length k) (.bool q.f) (.slice b q.u.length m)))) rfl ⟨a, b, k, m, rfl, st3b (st9b HB1.out (by omega) (.int .i64 t.p) (.string t.n) (.string t.d) (.int .i64 t.s) (.int .i64 t.t) (.int .i64 t.c) (.int .i64 t.h) (.int .i64 t.a) (.int .i64 t.e)) (by omega) (.slice a q.m.length k) (.bool q.f) (.slice b q.u.length m), h1.out.st (by omega) (by omega) (by omega) (.int .i64 t.p) (.string t.n) (.string t.d) (.int .i64 t.s) (.int .i64 t.t) (.int .i64 t.c) (.int .i64 t.h) (.int .i64 t.a) (.int .i64 t.e) (.slice a q.m.length k) (.bool q.f) (.slice b q.u.length m), h2.out.st (by omega) (by omega) (by omega) (.int .i64 t.p) (.string t.n) (.string t.d) (.int .i64 t.s) (.int .i64 t.t) (.int .i64 t.c) (.int .i64 t.h) (.int .i64 t.a) (.int .i64 t.e) (.slice a q.m.length k) (.bool q.f) (.slice b q.u.length m)⟩
set_option maxRecDepth 100000 in
set_option maxHeartbeats 8000000 in
theorem does_3 (s : Ss) (k : Int) (n : Nt) (c : Int) (ai az : Option Addr) (ci cz : Nat) (w : World) (h0 : (k == 0) = false) (h10 : (k == 1) = false) (h20 : (k == 2) = false) : Calls Tryz.prog 12 #[.agg #[.int .i64 s.p, .string s.n, .string s.d, .int .i64 s.s, .int .i64 s.t, .int .i64 s.c, .int .i64 s.h, .int .i64 s.a, .int .i64 s.e], .agg #[.int .i64 k, .int .i64 n.k, .string n.n, .string n.x, .string n.d, .int .i64 n.c, .int .i64 n.s, .int .i64 n.e, .int .i64 n.t, .bool n.o, .slice ai n.l.length ci, .slice az n.z.length cz, .int .i64 c]] w (StQ (sn s, zO) w) := by
  have CT : Hid (∀ W, Calls Tryz.prog 24 #[.agg #[.int .i64 s.p, .string s.n, .string s.d, .int .i64 s.s, .int .i64 s.t, .int .i64 s.c, .int .i64 s.h, .int .i64 s.a, .int .i64 s.e]] W (Gives (sA (sn s)) W)) := fun W => sent_any s W
  generalize sn s = t at CT ⊢
  obtain ⟨HB, HX, HA, HZ, HO⟩ := bxFour w #[.int .i64 s.p, .string s.n, .string s.d, .int .i64 s.s, .int .i64 s.t, .int .i64 s.c, .int .i64 s.h, .int .i64 s.a, .int .i64 s.e] 28 #[.int .i64 k, .int .i64 n.k, .string n.n, .string n.x, .string n.d, .int .i64 n.c, .int .i64 n.s, .int .i64 n.e, .int .i64 n.t, .bool n.o, .slice ai n.l.length ci, .slice az n.z.length cz, .int .i64 c] 44 #[.int .i64 0, .string ⟨#[]⟩, .string ⟨#[]⟩, .int .i64 0, .int .i64 0, .int .i64 0, .int .i64 0, .int .i64 0, .int .i64 0] 28 #[.slice none 0 0, .bool false, .slice none 0 0] 31
  obtain ⟨m0, m1, m2, m3, m4, m5, m6, m7, m8⟩ := bx9 HX.out
  obtain ⟨a0, a1, a2, a3, a4, a5, a6, a7, a8, a9, a10, a11, a12⟩ := bx13 HA.out
  go_enter Tryz.func12, Tryz.ntmps12
  go_wp2_with fail
  refine (CT.out _).mono ?_
  rintro e w1 ⟨rfl, hb⟩
  simp only [sA]
  clear m0 m1 m2 m3 m4 m5 m6 m7 m8
  clear a0 a1 a2 a3 a4 a5 a6 a7 a8 a9 a10 a11 a12
  have HZ1 := kpB hb HZ
  have HO1 := kpB hb HO
  have HB1 := Lib.hid (HB.out.trans (hb.mono HB.out.size))
  clear hb HB HX HA HZ HO CT
  obtain ⟨z0, z1, z2, z3, z4, z5, z6, z7, z8⟩ := bx9 HZ1.out
  obtain ⟨zf0, zf1, zf2, zf3, zf4, zf5, zf6, zf7, zf8⟩ := bx9f HZ1.out
  obtain ⟨y0, y1, y2⟩ := bx3 HO1.out
  obtain ⟨yf0, yf1, yf2⟩ := bx3f HO1.out
  have hP : w.heap.size + 3 < w1.heap.size := heap_lt HO1.out
  have hPa : w.heap.size + 2 < w1.heap.size := heap_lt HZ1.out
  go_wp2_with fail
  exact bodyPost_ret (results_two Tryz.results12 _ _ (w.heap.size + 2) (w.heap.size + 3) _ _ rfl rfl (load_s ((st3k (by omega) (.slice none 0 0) (.bool false) (.slice none 0 0)).trans (st9 HZ1.out (.int .i64 t.p) (.string t.n) (.string t.d) (.int .i64 t.s) (.int .i64 t.t) (.int .i64 t.c) (.int .i64 t.h) (.int .i64 t.a) (.int .i64 t.e)))) (load_o (st3 ((st9k (by omega) (.int .i64 t.p) (.string t.n) (.string t.d) (.int .i64 t.s) (.int .i64 t.t) (.int .i64 t.c) (.int .i64 t.h) (.int .i64 t.a) (.int .i64 t.e)).trans HO1.out) (.slice none 0 0) (.bool false) (.slice none 0 0)))) rfl ⟨none, none, 0, 0, rfl, st3b (st9b HB1.out (by omega) (.int .i64 t.p) (.string t.n) (.string t.d) (.int .i64 t.s) (.int .i64 t.t) (.int .i64 t.c) (.int .i64 t.h) (.int .i64 t.a) (.int .i64 t.e)) (by omega) (.slice none 0 0) (.bool false) (.slice none 0 0), fr_nil _ _ _, fr_nil _ _ _⟩
theorem does_any (s : Ss) (a : Ac) (ai az : Option Addr) (ci cz : Nat) (w : World) (hn : NtL w ai az a.n) (h1 : s.n.size ≤ 1000000) (h2 : s.d.size ≤ 20000) (h3 : a.n.d.size ≤ 20000) (hG : Gl w) (hh : 0 ≤ s.h ∧ s.h ≤ 1000000000) (ha : 0 ≤ s.a ∧ s.a ≤ 1000000000) : Calls Tryz.prog 12 #[sA s, acA a ai az ci cz] w (StQ (dos s a) w) := by
  obtain ⟨k, n, c⟩ := a
  unfold sA acA dos
  show Calls _ _ _ _ (StQ (if k = 0 then tk s n else if k = 1 then tc s else if k = 2 then sp s c else (sn s, zO)) w)
  by_cases k0 : k = 0
  · rw [if_pos k0]
    exact does_0 s k n c ai az ci cz w hn h1 h2 h3 hG (by rw [k0]; rfl)
  rw [if_neg k0]
  by_cases k1 : k = 1
  · rw [if_pos k1]
    exact does_1 s k n c ai az ci cz w hh ha (beqf k0) (by rw [k1]; rfl)
  rw [if_neg k1]
  by_cases k2 : k = 2
  · rw [if_pos k2]
    exact does_2 s k n c ai az ci cz w (beqf k0) (beqf k1) (by rw [k2]; rfl)
  rw [if_neg k2]
  exact does_3 s k n c ai az ci cz w (beqf k0) (beqf k1) (beqf k2)
set_option maxRecDepth 100000 in
set_option maxHeartbeats 8000000 in
theorem begin_any (n d : ByteArray) (s t c : Int) (w : World) (hn : n.size ≤ 1000000) (hd : d.size ≤ 1000000) : Calls Tryz.prog 7 #[.agg #[.string n, .string d, .int .i64 s, .int .i64 t, .int .i64 c]] w (BgP n d s t c w) := by
  have CNu : Hid (∀ W, Calls Tryz.prog 18 #[.int .i64 (stE n d s t c)] W (Gives (.int .i64 (stE n d s t c)) W)) := fun W => (lnum_any _ W).mono fun e W' ⟨h1, h2⟩ => ⟨h1, h2 ▸ Below.refl _ _⟩
  have CT : Hid (∀ W, Calls Tryz.prog 15 #[.string n, .string d, .int .i64 s, .int .i64 t, .int .i64 c] W (BgP n d s t c W)) := fun W => start_any n d s t c W hn hd
  unfold BgP at CT ⊢
  clear hn hd
  generalize stE n d s t c = x at CT CNu ⊢
  generalize stS n d s t c = T at CT ⊢
  generalize stO n d s t c = so at CT ⊢
  obtain ⟨HB, HX, HZ, HO⟩ := bxThree w #[.string n, .string d, .int .i64 s, .int .i64 t, .int .i64 c] 23 #[.int .i64 0, .string ⟨#[]⟩, .string ⟨#[]⟩, .int .i64 0, .int .i64 0, .int .i64 0, .int .i64 0, .int .i64 0, .int .i64 0] 28 #[.slice none 0 0, .bool false, .slice none 0 0] 31
  obtain ⟨m0, m1, m2, m3, m4⟩ := bx5 HX.out
  go_enter Tryz.func7, Tryz.ntmps7
  go_wp2_with fail
  refine (CT.out _).mono ?_
  rintro e w1 ⟨a, b, k, m, rfl, hb, h1, h2⟩
  simp only [alloc_size] at h1 h2
  simp only [sA, oA]
  clear m0 m1 m2 m3 m4
  have HZ1 := kpB hb HZ
  have HO1 := kpB hb HO
  have HB1 := Lib.hid (HB.out.trans (hb.mono HB.out.size))
  replace h1 := Lib.hid h1
  replace h2 := Lib.hid h2
  clear hb HB HX HZ HO CT
  have hP : w.heap.size + 2 < w1.heap.size := heap_lt HO1.out
  go_upto_region 2 with fail
  obtain ⟨HB2, HS, HQ⟩ := bxTwo w1 #[.int .i64 T.p, .string T.n, .string T.d, .int .i64 T.s, .int .i64 T.t, .int .i64 T.c, .int .i64 T.h, .int .i64 T.a, .int .i64 T.e] 28 #[.slice a so.m.length k, .bool so.f, .slice b so.u.length m] 31
  have HZ := kpB HB2.out HZ1
  have HO := kpB HB2.out HO1
  have HB := Lib.hid (HB1.out.trans (HB2.out.mono HB1.out.size))
  have hR := Lib.hid HB2.out.block
  have hZN : w1.heap.size + 1 < ((w1.alloc (.cells #[.int .i64 T.p, .string T.n, .string T.d, .int .i64 T.s, .int .i64 T.t, .int .i64 T.c, .int .i64 T.h, .int .i64 T.a, .int .i64 T.e] 28)).alloc (.cells #[.slice a so.m.length k, .bool so.f, .slice b so.u.length m] 31)).heap.size := heap_lt HQ.out
  replace h1 := Lib.hid (h1.out.below HB2.out)
  replace h2 := Lib.hid (h2.out.below HB2.out)
  clear HB2 HZ1 HO1 HB1 hR
  generalize ((w1.alloc (.cells #[.int .i64 T.p, .string T.n, .string T.d, .int .i64 T.s, .int .i64 T.t, .int .i64 T.c, .int .i64 T.h, .int .i64 T.a, .int .i64 T.e] 28)).alloc (.cells #[.slice a so.m.length k, .bool so.f, .slice b so.u.length m] 31)) = W0 at HS HQ HZ HO HB hZN h1 h2 ⊢
  have hA5 : w.heap.size + 2 < w1.heap.size + 1 := by omega
  generalize w1.heap.size + 1 = A6 at HQ hZN hA5 ⊢
  generalize w1.heap.size = A5 at HS hP hA5 ⊢
  have hZN : w.heap.size + 1 < W0.heap.size := by omega
  refine region_Z (w := w) (Z := w.heap.size + 1) 5 4 (fun j => [23, 24, 25, 26, 100004].getD j 0) [23, 24, 25, 26] [.eq (.agg #[.int .i64 T.p, .string T.n, .string T.d, .int .i64 T.s, .int .i64 T.t, .int .i64 T.c, .int .i64 T.h, .int .i64 T.a, .int .i64 T.e]), .eq (.agg #[.slice a so.m.length k, .bool so.f, .slice b so.u.length m]), .eq (.int .i64 x), .eq (.int .i64 x), .st #[.int .i64 T.p, .string T.n, .string T.d, .int .i64 T.s, .int .i64 T.t, .int .i64 T.c, .int .i64 T.h, .int .i64 T.a, .int .i64 T.e]] (by kernel_rfl) (by kernel_rfl) (by kernel_rfl) (by kernel_rfl) (by decide) (by kernel_rfl) (by kernel_rfl) (by kernel_rfl) (by kernel_rfl) (fun h => absurd (show 4 < 5 by decide) h) HB.out HZ.out ?_ ?_
  · intro i o hi ho q W hsz hout hJ hZ0 hdep
    have HSW := oldJ hJ (by omega) HS
    obtain ⟨x0, x1, x2, x3, x4, x5, x6, x7, x8⟩ := bx9 HSW.out
    have HQW := oldJ hJ (by omega) HQ
    obtain ⟨y0, y1, y2⟩ := bx3 HQW.out
    have hc : i = 0 ∨ i = 1 ∨ i = 2 ∨ i = 3 ∨ i = 4 := by omega
    rcases hc with rfl | rfl | rfl | rfl | rfl
    · -- 0
      cases ho
      refine plainR (by decide) ?_
      have e5 : q.eval (.tmp 5) = .pointer (some ⟨A5, 0, none⟩) := (hout 5 (by decide)).trans rfl
      refine gives_read (v := .agg #[.int .i64 T.p, .string T.n, .string T.d, .int .i64 T.s, .int .i64 T.t, .int .i64 T.c, .int .i64 T.h, .int .i64 T.a, .int .i64 T.e]) ?_ rfl
      unfold execOp
      dsimp only
      rw [e5]
      go_simp
    · -- 1
      cases ho
      refine plainR (by decide) ?_
      have e6 : q.eval (.tmp 6) = .pointer (some ⟨A6, 0, none⟩) := (hout 6 (by decide)).trans rfl
      refine gives_read (v := .agg #[.slice a so.m.length k, .bool so.f, .slice b so.u.length m]) ?_ rfl
      unfold execOp
      dsimp only
      rw [e6]
      go_simp
    · -- 2
      cases ho
      refine plainR (by decide) ?_
      have e7 : q.eval (.tmp 7) = .int .i64 x := (hout 7 (by decide)).trans rfl
      refine gives_read (v := .int .i64 x) ?_ rfl
      unfold execOp
      dsimp only
      rw [e7]
      go_simp
    · -- 3
      cases ho
      refine plainR (by decide) ?_
      have e25 : q.eval (.tmp 25) = .int .i64 x := hdep ⟨2, .data⟩ (by simp) rfl (by decide)
      refine gives_call (f := 18) (args := #[.int .i64 x]) ?_ (((CNu.out W)).mono ?_)
      · unfold execOp
        dsimp only
        simp only [resolve, List.map_toArray, List.map_cons, List.map_nil, e25]
        go_simp
      · rintro e W' ⟨rfl, hb⟩
        exact ⟨_, rfl, hb, rfl⟩
    · -- 4
      cases ho
      have e2 : q.eval (.tmp 2) = .pointer (some ⟨w.heap.size + 1, 0, none⟩) := (hout 2 (by decide)).trans rfl
      have e23 : q.eval (.tmp 23) = .agg #[.int .i64 T.p, .string T.n, .string T.d, .int .i64 T.s, .int .i64 T.t, .int .i64 T.c, .int .i64 T.h, .int .i64 T.a, .int .i64 T.e] := hdep ⟨0, .data⟩ (by simp) rfl (by decide)
      have hz := hZ0 (by kernel_rfl)
      obtain ⟨zc0, zc1, zc2, zc3, zc4, zc5, zc6, zc7, zc8⟩ := bx9 hz
      obtain ⟨zf0, zf1, zf2, zf3, zf4, zf5, zf6, zf7, zf8⟩ := bx9f hz
      refine givesR_skip ?_ (stZ_of (by omega) hz (.int .i64 T.p) (.string T.n) (.string T.d) (.int .i64 T.s) (.int .i64 T.t) (.int .i64 T.c) (.int .i64 T.h) (.int .i64 T.a) (.int .i64 T.e)) (st9 hz (.int .i64 T.p) (.string T.n) (.string T.d) (.int .i64 T.s) (.int .i64 T.t) (.int .i64 T.c) (.int .i64 T.h) (.int .i64 T.a) (.int .i64 T.e))
      unfold execOp
      dsimp only
      rw [e2, e23]
      go_simp
  · intro q W hq hJ hv
    have e24 : q.eval (.tmp 24) = .agg #[.slice a so.m.length k, .bool so.f, .slice b so.u.length m] := hv 1 (by decide)
    have e26 : q.eval (.tmp 26) = .int .i64 x := hv 3 (by decide)
    have hZW : W.heap[w.heap.size + 1]? = some (.cells #[.int .i64 T.p, .string T.n, .string T.d, .int .i64 T.s, .int .i64 T.t, .int .i64 T.c, .int .i64 T.h, .int .i64 T.a, .int .i64 T.e] 28 (0, 0)) := hv 4 (by decide)
    have HBW := Lib.hid hJ.bel
    have HOW := oldJ hJ (by omega) HO
    have HZW := Lib.hid hZW
    have hO1 := Lib.hid hJ.old
    have hsz := hJ.sz
    clear hJ HO HS HQ hZW
    have hq2 : q = canonL q [23, 24, 25, 26] _ := hq
    simp only [canonL] at hq2
    rw [e24, e26] at hq2
    clear hq hv e24 e26
    generalize q.eval (.tmp 23) = u23 at hq2
    generalize q.eval (.tmp 25) = u25 at hq2
    subst hq2
    obtain ⟨y0, y1, y2⟩ := bx3 HOW.out
    obtain ⟨v0, v1, v2⟩ := bx3f HOW.out
    simp only [List.drop_succ_cons, List.drop_zero]
    go_wp2_with fail
    exact bodyPost_ret (results_three Tryz.results7 _ _ (w.heap.size + 1) (w.heap.size + 2) _ _ _ rfl rfl rfl (load_s ((st3k (by omega) (.slice a so.m.length k) (.bool so.f) (.slice b so.u.length m)).trans HZW.out)) (load_o (st3 HOW.out (.slice a so.m.length k) (.bool so.f) (.slice b so.u.length m)))) rfl ⟨a, b, k, m, rfl, st3b HBW.out (by omega) (.slice a so.m.length k) (.bool so.f) (.slice b so.u.length m), Fr.mono (Fr.agree h1.out (by simp only [st_size]; omega) fun i g1 g2 => (st3k (by omega) (.slice a so.m.length k) (.bool so.f) (.slice b so.u.length m)).trans (hO1.out i g2 (by omega))) (by omega), Fr.mono (Fr.agree h2.out (by simp only [st_size]; omega) fun i g1 g2 => (st3k (by omega) (.slice a so.m.length k) (.bool so.f) (.slice b so.u.length m)).trans (hO1.out i g2 (by omega))) (by omega)⟩
end Go.Proofs.YthbeempmdpfnmaaGreatDoor.T
