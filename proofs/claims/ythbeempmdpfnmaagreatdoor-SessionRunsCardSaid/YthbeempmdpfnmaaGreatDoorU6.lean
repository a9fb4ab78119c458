/- The document's Take; the law's model. Conditions: those of each theorem's head. -/
import Derived.Test.YthbeempmdpfnmaaGreatDoorU4
import Derived.Test.YthbeempmdpfnmaaGreatDoorU5
import Derived.Test.YthbeempmdpfnmaaGreatDoorU1
import Derived.Test.YthbeempmdpfnmaaGreatDoorL1
namespace Go.Proofs.YthbeempmdpfnmaaGreatDoor.T
open Go.RowKit Go.Lib

theorem Fv.st {ai az : Option Addr} {n : Nt} {N M Z O : Nat} {w : World} {a : Option Addr} {l : List Nt} (h : Fv ai az n M w a l) (hN : N ≤ M) (hZ : Z < M) (hO : O < M) (u0 u1 u2 u3 u4 u5 u6 u7 u8 y0 y1 y2 : Value) : Fv ai az n N ((((((((((((w.setCell ⟨Z, 0, none⟩ u0).setCell ⟨Z, 1, none⟩ u1).setCell ⟨Z, 2, none⟩ u2).setCell ⟨Z, 3, none⟩ u3).setCell ⟨Z, 4, none⟩ u4).setCell ⟨Z, 5, none⟩ u5).setCell ⟨Z, 6, none⟩ u6).setCell ⟨Z, 7, none⟩ u7).setCell ⟨Z, 8, none⟩ u8).setCell ⟨O, 0, none⟩ y0).setCell ⟨O, 1, none⟩ y1).setCell ⟨O, 2, none⟩ y2) a l :=
  (h.agree (by simp only [st_size]; exact Nat.le_refl _) fun k h1 _ => (st3k (by omega) y0 y1 y2).trans (st9k (by omega) u0 u1 u2 u3 u4 u5 u6 u7 u8)).mono hN
theorem rtake_any (s : Ss) (n : Nt) (ai az : Option Addr) (ci cz : Nat) (w : World) (hn : NtL w ai az n) (h1 : s.n.size ≤ 1000000) (h2 : s.d.size ≤ 20000) (h3 : n.d.size ≤ 20000) : Calls Tryz.prog 25 #[sA s, nA n ai az ci cz] w (StV ai az n (tk s n) w) := by
  unfold sA nA tk
  by_cases hu : undr s.p = false
  · rw [if_pos hu]
    exact rtake_off s n ai az ci cz w hu
  rw [if_neg hu]
  have hu : undr s.p = true := by simpa using hu
  by_cases k3 : n.k = 3
  · rw [if_pos k3]
    exact rtake_bye s n ai az ci cz w hu k3
  rw [if_neg k3]
  have hp : s.p = 1 ∨ s.p = 2 ∨ s.p = 3 ∨ s.p = 4 ∨ s.p = 5 := by
    unfold undr at hu
    simp only [Bool.and_eq_true, decide_eq_true_eq] at hu
    omega
  rcases hp with hp | hp | hp | hp | hp
  · by_cases k6 : n.k = 6
    · rw [if_pos ⟨hp, k6⟩, hp]
      exact rtake_key s n ai az ci cz w h1 h2 h3 k6
    · rw [if_neg (by omega), if_neg (fun h => by have := h.1; omega), if_neg (by omega), if_neg (by omega), if_neg (fun h => by have := h.1; omega), hp]
      exact rtake_n1 s n ai az ci cz w (by unfold KO; omega)
  · rw [if_neg (by omega)]
    by_cases k8 : n.k = 8
    · cases hm : smN n.n s.n
      · rw [if_neg (fun h => by cases h.2.2), if_neg (by omega), if_neg (by omega), if_neg (fun h => by have := h.1; omega), hp]
        exact rtake_n2m s n ai az ci cz w (Nat.le_trans hn.hn (by decide)) (Nat.le_trans h1 (by decide)) hm k8
      · rw [if_pos ⟨hp, k8, rfl⟩]
        by_cases hc : n.c = 0
        · rw [if_pos hc, hp]
          exact rtake_let0 s n ai az ci cz w (Nat.le_trans hn.hn (by decide)) (Nat.le_trans h1 (by decide)) hm k8 hc hn.hd
        · rw [if_neg hc, hp]
          exact rtake_letc s n ai az ci cz w (Nat.le_trans hn.hn (by decide)) (Nat.le_trans h1 (by decide)) hm k8 hc
    · rw [if_neg (fun h => k8 h.2.1), if_neg (by omega), if_neg (by omega), if_neg (fun h => by have := h.1; omega), hp]
      exact rtake_n2 s n ai az ci cz w (by unfold KO; omega)
  · rw [if_neg (by omega), if_neg (fun h => by have := h.1; omega)]
    by_cases k9 : n.k = 9
    · rw [if_pos ⟨hp, k9⟩, hp]
      exact rtake_host s n ai az ci cz w k9
    · rw [if_neg (by omega), if_neg (by omega), if_neg (fun h => by have := h.1; omega), hp]
      exact rtake_n3 s n ai az ci cz w (by unfold KO; omega)
  · rw [if_neg (by omega), if_neg (fun h => by have := h.1; omega), if_neg (by omega)]
    by_cases k18 : n.k = 18
    · rw [if_pos ⟨hp, .inl k18⟩, hp]
      exact rtake_l18 s n ai az ci cz w k18
    · by_cases k19 : n.k = 19
      · rw [if_pos ⟨hp, .inr k19⟩, hp]
        exact rtake_l19 s n ai az ci cz w k19
      · rw [if_neg (by omega), if_neg (fun h => by have := h.1; omega), hp]
        exact rtake_n4 s n ai az ci cz w (by unfold KO; omega)
  · rw [if_neg (by omega), if_neg (fun h => by have := h.1; omega), if_neg (by omega), if_neg (by omega)]
    cases hup : upK n.k
    · rw [if_neg (fun h => by cases h.2), hp]
      have u18 : n.k ≠ 18 := fun h => by rw [h] at hup; exact absurd hup (by decide)
      have u19 : n.k ≠ 19 := fun h => by rw [h] at hup; exact absurd hup (by decide)
      exact rtake_n5 s n ai az ci cz w (by unfold KO; omega) hup
    · rw [if_pos ⟨hp, rfl⟩, hp]
      have u6 : n.k ≠ 6 := fun h => by rw [h] at hup; exact absurd hup (by decide)
      have u8 : n.k ≠ 8 := fun h => by rw [h] at hup; exact absurd hup (by decide)
      have u9 : n.k ≠ 9 := fun h => by rw [h] at hup; exact absurd hup (by decide)
      exact rtake_up s n ai az ci cz w (by unfold KO; omega) hup
set_option maxRecDepth 100000 in
set_option maxHeartbeats 8000000 in
theorem model_0 (s : Ss) (k : Int) (n : Nt) (c : Int) (ai az : Option Addr) (ci cz : Nat) (w : World) (hn : NtL w ai az n) (h1 : s.n.size ≤ 1000000) (h2 : s.d.size ≤ 20000) (h3 : n.d.size ≤ 20000) (hk : (k == 0) = true) : Calls Tryz.prog 13 #[.agg #[.int .i64 s.p, .string s.n, .string s.d, .int .i64 s.s, .int .i64 s.t, .int .i64 s.c, .int .i64 s.h, .int .i64 s.a, .int .i64 s.e], .agg #[.int .i64 k, .int .i64 n.k, .string n.n, .string n.x, .string n.d, .int .i64 n.c, .int .i64 n.s, .int .i64 n.e, .int .i64 n.t, .bool n.o, .slice ai n.l.length ci, .slice az n.z.length cz, .int .i64 c]] w (StV ai az n (tk s n) w) := by
  have CT : Hid (∀ W, Below w.heap.size w W → Calls Tryz.prog 25 #[.agg #[.int .i64 s.p, .string s.n, .string s.d, .int .i64 s.s, .int .i64 s.t, .int .i64 s.c, .int .i64 s.h, .int .i64 s.a, .int .i64 s.e], .agg #[.int .i64 n.k, .string n.n, .string n.x, .string n.d, .int .i64 n.c, .int .i64 n.s, .int .i64 n.e, .int .i64 n.t, .bool n.o, .slice ai n.l.length ci, .slice az n.z.length cz]] W (StV ai az n (tk s n) W)) := fun W hb => rtake_any s n ai az ci cz W (hn.below hb) h1 h2 h3
  clear hn h1 h2 h3
  generalize tk s n = x at CT ⊢
  obtain ⟨HB, HX, HA, HZ, HO⟩ := bxFour w #[.int .i64 s.p, .string s.n, .string s.d, .int .i64 s.s, .int .i64 s.t, .int .i64 s.c, .int .i64 s.h, .int .i64 s.a, .int .i64 s.e] 28 #[.int .i64 k, .int .i64 n.k, .string n.n, .string n.x, .string n.d, .int .i64 n.c, .int .i64 n.s, .int .i64 n.e, .int .i64 n.t, .bool n.o, .slice ai n.l.length ci, .slice az n.z.length cz, .int .i64 c] 44 #[.int .i64 0, .string ⟨#[]⟩, .string ⟨#[]⟩, .int .i64 0, .int .i64 0, .int .i64 0, .int .i64 0, .int .i64 0, .int .i64 0] 28 #[.slice none 0 0, .bool false, .slice none 0 0] 31
  obtain ⟨m0, m1, m2, m3, m4, m5, m6, m7, m8⟩ := bx9 HX.out
  obtain ⟨a0, a1, a2, a3, a4, a5, a6, a7, a8, a9, a10, a11, a12⟩ := bx13 HA.out
  go_enter Tryz.func13, Tryz.ntmps13
  go_wp2_with fail
  refine (CT.out _ HB.out).mono ?_
  obtain ⟨t, q⟩ := x
  rintro e w1 ⟨a, b, k, m, rfl, hb, h1, h2⟩
  simp only [alloc_size] at h1 h2
  simp only [sA, oA]
  clear m0 m1 m2 m3 m4 m5 m6 m7 m8
  clear a0 a1 a2 a3 a4 a5 a6 a7 a8 a9 a10 a11 a12
  have HZ1 := kpB hb HZ
  have HO1 := kpB hb HO
  have HB1 := Lib.hid (HB.out.trans (hb.mono HB.out.size))
  replace h1 := Lib.hid h1
  replace h2 := Lib.hid h2
  clear hb HB HX HA HZ HO CT
  obtain ⟨z0, z1, z2, z3, z4, z5, z6, z7, z8⟩ := bx9 HZ1.out
  obtain ⟨zf0, zf1, zf2, zf3, zf4, zf5, zf6, zf7, zf8⟩ := bx9f HZ1.out
  obtain ⟨y0, y1, y2⟩ := bx3 HO1.out
  obtain ⟨yf0, yf1, yf2⟩ := bx3f HO1.out
  have hP : w.heap.size + 3 < w1.heap.size := heap_lt HO1.out
  have hPa : w.heap.size + 2 < w1.heap.size := heap_lt HZ1.out
  go_wp2_with fail
  exact bodyPost_ret (results_two Tryz.results13 _ _ (w.heap.size + 2) (w.heap.size + 3) _ _ rfl rfl (load_s ((st3k (by omega) (.slice a q.m.length k) (.bool q.f) (.slice b q.u.length m)).trans (st9 HZ1.out (.int .i64 t.p) (.string t.n) (.string t.d) (.int .i64 t.s) (.int .i64 t.t) (.int .i64 t.c) (.int .i64 t.h) (.int .i64 t.a) (.int .i64 t.e)))) (load_o (st3 ((st9k (by omega) (.int .i64 t.p) (.string t.n) (.string t.d) (.int .i64 t.s) (.int .i64 t.t) (.int .i64 t.c) (.int .i64 t.h) (.int .i64 t.a) (.int .i64 t.e)).trans HO1.out) (.slice a q.m.length k) (.bool q.f) (.slice b q.u.length m)))) rfl ⟨a, b, k, m, rfl, st3b (st9b HB1.out (by omega) (.int .i64 t.p) (.string t.n) (.string t.d) (.int .i64 t.s) (.int .i64 t.t) (.int .i64 t.c) (.int .i64 t.h) (.int .i64 t.a) (.int .i64 t.e)) (by omega) (.slice a q.m.length k) (.bool q.f) (.slice b q.u.length m), h1.out.st (by omega) (by omega) (by omega) (.int .i64 t.p) (.string t.n) (.string t.d) (.int .i64 t.s) (.int .i64 t.t) (.int .i64 t.c) (.int .i64 t.h) (.int .i64 t.a) (.int .i64 t.e) (.slice a q.m.length k) (.bool q.f) (.slice b q.u.length m), h2.out.st (by omega) (by omega) (by omega) (.int .i64 t.p) (.string t.n) (.string t.d) (.int .i64 t.s) (.int .i64 t.t) (.int .i64 t.c) (.int .i64 t.h) (.int .i64 t.a) (.int .i64 t.e) (.slice a q.m.length k) (.bool q.f) (.slice b q.u.length m)⟩
set_option maxRecDepth 100000 in
set_option maxHeartbeats 8000000 in
theorem model_1 (s : Ss) (k : Int) (n : Nt) (c : Int) (ai az : Option Addr) (ci cz : Nat) (w : World) (hh : 0 ≤ s.h ∧ s.h ≤ 1000000000) (ha : 0 ≤ s.a ∧ s.a ≤ 1000000000) (h0 : (k == 0) = false) (hk : (k == 1) = true) : Calls Tryz.prog 13 #[.agg #[.int .i64 s.p, .string s.n, .string s.d, .int .i64 s.s, .int .i64 s.t, .int .i64 s.c, .int .i64 s.h, .int .i64 s.a, .int .i64 s.e], .agg #[.int .i64 k, .int .i64 n.k, .string n.n, .string n.x, .string n.d, .int .i64 n.c, .int .i64 n.s, .int .i64 n.e, .int .i64 n.t, .bool n.o, .slice ai n.l.length ci, .slice az n.z.length cz, .int .i64 c]] w (StV ai az n (tc s) w) := by
  have CT : Hid (∀ W, Below w.heap.size w W → Calls Tryz.prog 26 #[.agg #[.int .i64 s.p, .string s.n, .string s.d, .int .i64 s.s, .int .i64 s.t, .int .i64 s.c, .int .i64 s.h, .int .i64 s.a, .int .i64 s.e]] W (StV ai az n (tc s) W)) := fun W _ => (rtick_any s W hh ha).mono fun _ _ h => h.v
  clear hh ha
  generalize tc s = x at CT ⊢
  obtain ⟨HB, HX, HA, HZ, HO⟩ := bxFour w #[.int .i64 s.p, .string s.n, .string s.d, .int .i64 s.s, .int .i64 s.t, .int .i64 s.c, .int .i64 s.h, .int .i64 s.a, .int .i64 s.e] 28 #[.int .i64 k, .int .i64 n.k, .string n.n, .string n.x, .string n.d, .int .i64 n.c, .int .i64 n.s, .int .i64 n.e, .int .i64 n.t, .bool n.o, .slice ai n.l.length ci, .slice az n.z.length cz, .int .i64 c] 44 #[.int .i64 0, .string ⟨#[]⟩, .string ⟨#[]⟩, .int .i64 0, .int .i64 0, .int .i64 0, .int .i64 0, .int .i64 0, .int .i64 0] 28 #[.slice none 0 0, .bool false, .slice none 0 0] 31
  obtain ⟨m0, m1, m2, m3, m4, m5, m6, m7, m8⟩ := bx9 HX.out
  obtain ⟨a0, a1, a2, a3, a4, a5, a6, a7, a8, a9, a10, a11, a12⟩ := bx13 HA.out
  go_enter Tryz.func13, Tryz.ntmps13
  go_wp2_with fail
  refine (CT.out _ HB.out).mono ?_
  obtain ⟨t, q⟩ := x
  rintro e w1 ⟨a, b, k, m, rfl, hb, h1, h2⟩
  simp only [alloc_size] at h1 h2
  simp only [sA, oA]
  clear m0 m1 m2 m3 m4 m5 m6 m7 m8
  clear a0 a1 a2 a3 a4 a5 a6 a7 a8 a9 a10 a11 a12
  have HZ1 := kpB hb HZ
  have HO1 := kpB hb HO
  have HB1 := Lib.hid (HB.out.trans (hb.mono HB.out.size))
  replace h1 := Lib.hid h1
  replace h2 := Lib.hid h2
  clear hb HB HX HA HZ HO CT
  obtain ⟨z0, z1, z2, z3, z4, z5, z6, z7, z8⟩ := bx9 HZ1.out
  obtain ⟨zf0, zf1, zf2, zf3, zf4, zf5, zf6, zf7, zf8⟩ := bx9f HZ1.out
  obtain ⟨y0, y1, y2⟩ := bx3 HO1.out
  obtain ⟨yf0, yf1, yf2⟩ := bx3f HO1.out
  have hP : w.heap.size + 3 < w1.heap.size := heap_lt HO1.out
  have hPa : w.heap.size + 2 < w1.heap.size := heap_lt HZ1.out
  go_wp2_with fail
  exact bodyPost_ret (results_two Tryz.results13 _ _ (w.heap.size + 2) (w.heap.size + 3) _ _ rfl rfl (load_s ((st3k (by omega) (.slice a q.m.length k) (.bool q.f) (.slice b q.u.length m)).trans (st9 HZ1.out (.int .i64 t.p) (.string t.n) (.string t.d) (.int .i64 t.s) (.int .i64 t.t) (.int .i64 t.c) (.int .i64 t.h) (.int .i64 t.a) (.int .i64 t.e)))) (load_o (st3 ((st9k (by omega) (.int .i64 t.p) (.string t.n) (.string t.d) (.int .i64 t.s) (.int .i64 t.t) (.int .i64 t.c) (.int .i64 t.h) (.int .i64 t.a) (.int .i64 t.e)).trans HO1.out) (.slice a q.m.length k) (.bool q.f) (.slice b q.u.length m)))) rfl ⟨a, b, k, m, rfl, st3b (st9b HB1.out (by omega) (.int .i64 t.p) (.string t.n) (.string t.d) (.int .i64 t.s) (.int .i64 t.t) (.int .i64 t.c) (.int .i64 t.h) (.int .i64 t.a) (.int .i64 t.e)) (by omega) (.slice a q.m.length k) (.bool q.f) (.slice b q.u.length m), h1.out.st (by omega) (by omega) (by omega) (.int .i64 t.p) (.string t.n) (.string t.d) (.int .i64 t.s) (.int .i64 t.t) (.int .i64 t.c) (.int .i64 t.h) (.int .i64 t.a) (.int .i64 t.e) (.slice a q.m.length k) (.bool q.f) (.slice b q.u.length m), h2.out.st (by omega) (by omega) (by omega) (.int .i64 t.p) (.string t.n) (.string t.d) (.int .i64 t.s) (.int .i64 t.t) (.int .i64 t.c) (.int .i64 t.h) (.int .i64 t.a) (.int .i64 t.e) (.slice a q.m.length k) (.bool q.f) (.slice b q.u.length m)⟩
set_option maxRecDepth 100000 in
set_option maxHeartbeats 8000000 in
theorem model_2 (s : Ss) (k : Int) (n : Nt) (c : Int) (ai az : Option Addr) (ci cz : Nat) (w : World)  (h0 : (k == 0) = false) (h10 : (k == 1) = false) (hk : (k == 2) = true) : Calls Tryz.prog 13 #[.agg #[.int .i64 s.p, .string s.n, .string s.d, .int .i64 s.s, .int .i64 s.t, .int .i64 s.c, .int .i64 s.h, .int .i64 s.a, .int .i64 s.e], .agg #[.int .i64 k, .int .i64 n.k, .string n.n, .string n.x, .string n.d, .int .i64 n.c, .int .i64 n.s, .int .i64 n.e, .int .i64 n.t, .bool n.o, .slice ai n.l.length ci, .slice az n.z.length cz, .int .i64 c]] w (StV ai az n (sp s c) w) := by
  have CT : Hid (∀ W, Below w.heap.size w W → Calls Tryz.prog 27 #[.agg #[.int .i64 s.p, .string s.n, .string s.d, .int .i64 s.s, .int .i64 s.t, .int .i64 s.c, .int .i64 s.h, .int .i64 s.a, .int .i64 s.e], .int .i64 c] W (StV ai az n (sp s c) W)) := fun W _ => (rstop_any s c W).mono fun _ _ h => h.v
  generalize sp s c = x at CT ⊢
  obtain ⟨HB, HX, HA, HZ, HO⟩ := bxFour w #[.int .i64 s.p, .string s.n, .string s.d, .int .i64 s.s, .int .i64 s.t, .int .i64 s.c, .int .i64 s.h, .int .i64 s.a, .int .i64 s.e] 28 #[.int .i64 k, .int .i64 n.k, .string n.n, .string n.x, .string n.d, .int .i64 n.c, .int .i64 n.s, .int .i64 n.e, .int .i64 n.t, .bool n.o, .slice ai n.l.length ci, .slice az n.z.length cz, .int .i64 c] 44 #[.int .i64 0, .string ⟨#[]⟩, .string ⟨#[]⟩, .int .i64 0, .int .i64 0, .int .i64 0, .int .i64 0, .int .i64 0, .int .i64 0] 28 #[.slice none 0 0, .bool false, .slice none 0 0] 31
  obtain ⟨m0, m1, m2, m3, m4, m5, m6, m7, m8⟩ := bx9 HX.out
  obtain ⟨a0, a1, a2, a3, a4, a5, a6, a7, a8, a9, a10, a11, a12⟩ := bx13 HA.out
  go_enter Tryz.func13, Tryz.ntmps13
  go_wp2_with fail
  refine (CT.out _ HB.out).mono ?_
  obtain ⟨t, q⟩ := x
  rintro e w1 ⟨a, b, k, m, rfl, hb, h1, h2⟩
  simp only [alloc_size] at h1 h2
  simp only [sA, oA]
  clear m0 m1 m2 m3 m4 m5 m6 m7 m8
  clear a0 a1 a2 a3 a4 a5 a6 a7 a8 a9 a10 a11 a12
  have HZ1 := kpB hb HZ
  have HO1 := kpB hb HO
  have HB1 := Lib.hid (HB.out.trans (hb.mono HB.out.size))
  replace h1 := Lib.hid h1
  replace h2 := Lib.hid h2
  clear hb HB HX HA HZ HO CT
  obtain ⟨z0, z1, z2, z3, z4, z5, z6, z7, z8⟩ := bx9 HZ1.out
  obtain ⟨zf0, zf1, zf2, zf3, zf4, zf5, zf6, zf7, zf8⟩ := bx9f HZ1.out
  obtain ⟨y0, y1, y2⟩ := bx3 HO1.out
  obtain ⟨yf0, yf1, yf2⟩ := bx3f HO1.out
  have hP : w.heap.size + 3 < w1.heap.size := heap_lt HO1.out
  have hPa : w.heap.size + 2 < w1.heap.size := heap_lt HZ1.out
  go_wp2_with fail
  exact bodyPost_ret (results_two Tryz.results13 _ _ (w.heap.size + 2) (w.heap.size + 3) _ _ rfl rfl (load_s ((st3k (by omega) (.slice a q.m.length k) (.bool q.f) (.slice b q.u.length m)).trans (st9 HZ1.out (.int .i64 t.p) (.string t.n) (.string t.d) (.int .i64 t.s) (.int .i64 t.t) (.int .i64 t.c) (.int .i64 t.h) (.int .i64 t.a) (.int .i64 t.e)))) (load_o (st3 ((st9k (by omega) (.int .i64 t.p) (.string t.n) (.string t.d) (.int .i64 t.s) (.int .i64 t.t) (.int .i64 t.c) (.int .i64 t.h) (.int .i64 t.a) (.int .i64 t.e)).trans HO1.out) (.slice a q.m.length k) (.bool q.f) (.slice b q.u.length m)))) rfl ⟨a, b, k, m, rfl, st3b (st9b HB1.out (by omega) (.int .i64 t.p) (.string t.n) (.string t.d) (.int .i64 t.s) (.int .i64 t.t) (.int .i64 t.c) (.int .i64 t.h) (.int .i64 t.a) (.int .i64 t.e)) (by omega) (.slice a q.m.length k) (.bool q.f) (.slice b q.u.length m), h1.out.st (by omega) (by omega) (by omega) (.int .i64 t.p) (.string t.n) (.string t.d) (.int .i64 t.s) (.int .i64 t.t) (.int .i64 t.c) (.int .i64 t.h) (.int .i64 t.a) (.int .i64 t.e) (.slice a q.m.length k) (.bool q.f) (.slice b q.u.length m), h2.out.st (by omega) (by omega) (by omega) (.int .i64 t.p) (.string t.n) (.string t.d) (.int .i64 t.s) (.int .i64 t.t) (.int .i64 t.c) (.int .i64 t.h) (.int .i64 t.a) (.int .i64 t.e) (.slice a q.m.length k) (.bool q.f) (.slice b q.u.length m)⟩
set_option maxRecDepth 100000 in
set_option maxHeartbeats 8000000 in
theorem model_3 (s : Ss) (k : Int) (n : Nt) (c : Int) (ai az : Option Addr) (ci cz : Nat) (w : World) (h0 : (k == 0) = false) (h10 : (k == 1) = false) (h20 : (k == 2) = false) : Calls Tryz.prog 13 #[.agg #[.int .i64 s.p, .string s.n, .string s.d, .int .i64 s.s, .int .i64 s.t, .int .i64 s.c, .int .i64 s.h, .int .i64 s.a, .int .i64 s.e], .agg #[.int .i64 k, .int .i64 n.k, .string n.n, .string n.x, .string n.d, .int .i64 n.c, .int .i64 n.s, .int .i64 n.e, .int .i64 n.t, .bool n.o, .slice ai n.l.length ci, .slice az n.z.length cz, .int .i64 c]] w (StV ai az n (sn s, zO) w) := by
  have CT : Hid (∀ W, Calls Tryz.prog 28 #[.agg #[.int .i64 s.p, .string s.n, .string s.d, .int .i64 s.s, .int .i64 s.t, .int .i64 s.c, .int .i64 s.h, .int .i64 s.a, .int .i64 s.e]] W (Gives (sA (sn s)) W)) := fun W => rsent_any s W
  generalize sn s = t at CT ⊢
  obtain ⟨HB, HX, HA, HZ, HO⟩ := bxFour w #[.int .i64 s.p, .string s.n, .string s.d, .int .i64 s.s, .int .i64 s.t, .int .i64 s.c, .int .i64 s.h, .int .i64 s.a, .int .i64 s.e] 28 #[.int .i64 k, .int .i64 n.k, .string n.n, .string n.x, .string n.d, .int .i64 n.c, .int .i64 n.s, .int .i64 n.e, .int .i64 n.t, .bool n.o, .slice ai n.l.length ci, .slice az n.z.length cz, .int .i64 c] 44 #[.int .i64 0, .string ⟨#[]⟩, .string ⟨#[]⟩, .int .i64 0, .int .i64 0, .int .i64 0, .int .i64 0, .int .i64 0, .int .i64 0] 28 #[.slice none 0 0, .bool false, .slice none 0 0] 31
  obtain ⟨m0, m1, m2, m3, m4, m5, m6, m7, m8⟩ := bx9 HX.out
  obtain ⟨a0, a1, a2, a3, a4, a5, a6, a7, a8, a9, a10, a11, a12⟩ := bx13 HA.out
  go_enter Tryz.func13, Tryz.ntmps13
  go_wp2_with fail
  refine (CT.out _).mono ?_
  rintro e w1 ⟨rfl, hb⟩
  simp only [sA]
  clear m0 m1 m2 m3 m4 m5 m6 m7 m8
  clear a0 a1 a2 a3 a4 a5 a6 a7 a8 a9 a10 a11 a12
  have HZ1 := kpB hb HZ
  have HO1 := kpB hb HO
  have HB1 := Lib.hid (HB.out.trans (hb.mono HB.out.size))
  clear hb HB HX HA HZ HO CT
  obtain ⟨z0, z1, z2, z3, z4, z5, z6, z7, z8⟩ := bx9 HZ1.out
  obtain ⟨zf0, zf1, zf2, zf3, zf4, zf5, zf6, zf7, zf8⟩ := bx9f HZ1.out
  obtain ⟨y0, y1, y2⟩ := bx3 HO1.out
  obtain ⟨yf0, yf1, yf2⟩ := bx3f HO1.out
  have hP : w.heap.size + 3 < w1.heap.size := heap_lt HO1.out
  have hPa : w.heap.size + 2 < w1.heap.size := heap_lt HZ1.out
  go_wp2_with fail
  exact bodyPost_ret (results_two Tryz.results13 _ _ (w.heap.size + 2) (w.heap.size + 3) _ _ rfl rfl (load_s ((st3k (by omega) (.slice none 0 0) (.bool false) (.slice none 0 0)).trans (st9 HZ1.out (.int .i64 t.p) (.string t.n) (.string t.d) (.int .i64 t.s) (.int .i64 t.t) (.int .i64 t.c) (.int .i64 t.h) (.int .i64 t.a) (.int .i64 t.e)))) (load_o (st3 ((st9k (by omega) (.int .i64 t.p) (.string t.n) (.string t.d) (.int .i64 t.s) (.int .i64 t.t) (.int .i64 t.c) (.int .i64 t.h) (.int .i64 t.a) (.int .i64 t.e)).trans HO1.out) (.slice none 0 0) (.bool false) (.slice none 0 0)))) rfl ⟨none, none, 0, 0, rfl, st3b (st9b HB1.out (by omega) (.int .i64 t.p) (.string t.n) (.string t.d) (.int .i64 t.s) (.int .i64 t.t) (.int .i64 t.c) (.int .i64 t.h) (.int .i64 t.a) (.int .i64 t.e)) (by omega) (.slice none 0 0) (.bool false) (.slice none 0 0), fr_nil _ _ _, (fr_nil _ _ _).v⟩
theorem model_any (s : Ss) (a : Ac) (ai az : Option Addr) (ci cz : Nat) (w : World) (hn : NtL w ai az a.n) (h1 : s.n.size ≤ 1000000) (h2 : s.d.size ≤ 20000) (h3 : a.n.d.size ≤ 20000) (hh : 0 ≤ s.h ∧ s.h ≤ 1000000000) (ha : 0 ≤ s.a ∧ s.a ≤ 1000000000) : Calls Tryz.prog 13 #[sA s, acA a ai az ci cz] w (StV ai az a.n (dos s a) w) := by
  obtain ⟨k, n, c⟩ := a
  unfold sA acA dos
  show Calls _ _ _ _ (StV ai az n (if k = 0 then tk s n else if k = 1 then tc s else if k = 2 then sp s c else (sn s, zO)) w)
  by_cases k0 : k = 0
  · rw [if_pos k0]
    exact model_0 s k n c ai az ci cz w hn h1 h2 h3 (by rw [k0]; rfl)
  rw [if_neg k0]
  by_cases k1 : k = 1
  · rw [if_pos k1]
    exact model_1 s k n c ai az ci cz w hh ha (beqf k0) (by rw [k1]; rfl)
  rw [if_neg k1]
  by_cases k2 : k = 2
  · rw [if_pos k2]
    exact model_2 s k n c ai az ci cz w (beqf k0) (beqf k1) (by rw [k2]; rfl)
  rw [if_neg k2]
  exact model_3 s k n c ai az ci cz w (beqf k0) (beqf k1) (beqf k2)
end Go.Proofs.YthbeempmdpfnmaaGreatDoor.T
