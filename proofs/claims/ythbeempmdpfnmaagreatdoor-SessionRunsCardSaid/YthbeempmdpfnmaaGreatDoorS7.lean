/- Two results stored; contract: let where there is a code. Conditions: those of each theorem's head. -/
import Derived.Test.YthbeempmdpfnmaaGreatDoorRz
namespace Go.Proofs.YthbeempmdpfnmaaGreatDoor.T
open Go.RowKit Go.Lib

/-- A session and what is said, stored into their cells. -/
theorem fin2 {w V : World} {A B : Nat} {t u : TypeId} {v0 v1 v2 v3 v4 v5 v6 v7 v8 z0 z1 z2 : Value} (hA : w.heap.size ≤ A) (hB : w.heap.size ≤ B) (hAB : A ≠ B) (hz : V.heap[A]? = some (.cells #[v0, v1, v2, v3, v4, v5, v6, v7, v8] t (0, 0))) (ho : V.heap[B]? = some (.cells #[z0, z1, z2] u (0, 0))) (hb : Below w.heap.size w V) (u0 u1 u2 u3 u4 u5 u6 u7 u8 y0 y1 y2 : Value) :
    Hid (((((((((((((V.setCell ⟨A, 0, none⟩ u0).setCell ⟨A, 1, none⟩ u1).setCell ⟨A, 2, none⟩ u2).setCell ⟨A, 3, none⟩ u3).setCell ⟨A, 4, none⟩ u4).setCell ⟨A, 5, none⟩ u5).setCell ⟨A, 6, none⟩ u6).setCell ⟨A, 7, none⟩ u7).setCell ⟨A, 8, none⟩ u8).setCell ⟨B, 0, none⟩ y0).setCell ⟨B, 1, none⟩ y1).setCell ⟨B, 2, none⟩ y2).heap[A]? = some (.cells #[u0, u1, u2, u3, u4, u5, u6, u7, u8] t (0, 0))) ∧ Hid (((((((((((((V.setCell ⟨A, 0, none⟩ u0).setCell ⟨A, 1, none⟩ u1).setCell ⟨A, 2, none⟩ u2).setCell ⟨A, 3, none⟩ u3).setCell ⟨A, 4, none⟩ u4).setCell ⟨A, 5, none⟩ u5).setCell ⟨A, 6, none⟩ u6).setCell ⟨A, 7, none⟩ u7).setCell ⟨A, 8, none⟩ u8).setCell ⟨B, 0, none⟩ y0).setCell ⟨B, 1, none⟩ y1).setCell ⟨B, 2, none⟩ y2).heap[B]? = some (.cells #[y0, y1, y2] u (0, 0))) ∧ Hid (Below w.heap.size w ((((((((((((V.setCell ⟨A, 0, none⟩ u0).setCell ⟨A, 1, none⟩ u1).setCell ⟨A, 2, none⟩ u2).setCell ⟨A, 3, none⟩ u3).setCell ⟨A, 4, none⟩ u4).setCell ⟨A, 5, none⟩ u5).setCell ⟨A, 6, none⟩ u6).setCell ⟨A, 7, none⟩ u7).setCell ⟨A, 8, none⟩ u8).setCell ⟨B, 0, none⟩ y0).setCell ⟨B, 1, none⟩ y1).setCell ⟨B, 2, none⟩ y2)) ∧ Hid (∀ b : Nat, b ≠ A → b ≠ B → ((((((((((((V.setCell ⟨A, 0, none⟩ u0).setCell ⟨A, 1, none⟩ u1).setCell ⟨A, 2, none⟩ u2).setCell ⟨A, 3, none⟩ u3).setCell ⟨A, 4, none⟩ u4).setCell ⟨A, 5, none⟩ u5).setCell ⟨A, 6, none⟩ u6).setCell ⟨A, 7, none⟩ u7).setCell ⟨A, 8, none⟩ u8).setCell ⟨B, 0, none⟩ y0).setCell ⟨B, 1, none⟩ y1).setCell ⟨B, 2, none⟩ y2).heap[b]? = V.heap[b]?) :=
  ⟨(st3k hAB y0 y1 y2).trans (st9 hz u0 u1 u2 u3 u4 u5 u6 u7 u8), st3 ((st9k (Ne.symm hAB) u0 u1 u2 u3 u4 u5 u6 u7 u8).trans ho) y0 y1 y2, st3b (st9b hb hA u0 u1 u2 u3 u4 u5 u6 u7 u8) hB y0 y1 y2, fun _ h1 h2 => (st3k h2 y0 y1 y2).trans (st9k h1 u0 u1 u2 u3 u4 u5 u6 u7 u8)⟩
set_option maxRecDepth 100000 in
set_option maxHeartbeats 8000000 in
theorem let_c (s : Ss) (n : Nt) (ai az : Option Addr) (ci cz : Nat) (w : World) (hc : n.c ≠ 0) : Calls Tryz.prog 39 #[.agg #[.int .i64 s.p, .string s.n, .string s.d, .int .i64 s.s, .int .i64 s.t, .int .i64 s.c, .int .i64 s.h, .int .i64 s.a, .int .i64 s.e], .agg #[.int .i64 n.k, .string n.n, .string n.x, .string n.d, .int .i64 n.c, .int .i64 n.s, .int .i64 n.e, .int .i64 n.t, .bool n.o, .slice ai n.l.length ci, .slice az n.z.length cz]] w fun e w' => ∃ g, e = .returned (.tuple #[.agg #[.int .i64 6, .string s.n, .string s.d, .int .i64 s.s, .int .i64 s.t, .int .i64 s.c, .int .i64 s.h, .int .i64 s.a, .int .i64 n.c], .agg #[.slice none 0 0, .bool false, .slice (some ⟨g, 0, none⟩) 1 1]]) ∧ Below w.heap.size w w' ∧ w'.heap[g]? = some (.cells #[.int .i64 3, .string ⟨#[]⟩, .string ⟨#[]⟩, .string ⟨#[]⟩, .int .i64 n.c, .int .i64 0, .int .i64 0, .int .i64 0, .bool false, .slice none 0 0, .slice none 0 0] 42 (0, 0)) ∧ w.heap.size ≤ g := by
  have q1 : ((n.c : Int) != 0) = true := by rw [bne_iff_ne]; exact hc
  clear hc
  obtain ⟨HB, HX, HN, HZ, HO⟩ := bxFour w #[.int .i64 s.p, .string s.n, .string s.d, .int .i64 s.s, .int .i64 s.t, .int .i64 s.c, .int .i64 s.h, .int .i64 s.a, .int .i64 s.e] 28 #[.int .i64 n.k, .string n.n, .string n.x, .string n.d, .int .i64 n.c, .int .i64 n.s, .int .i64 n.e, .int .i64 n.t, .bool n.o, .slice ai n.l.length ci, .slice az n.z.length cz] 42 #[.int .i64 0, .string ⟨#[]⟩, .string ⟨#[]⟩, .int .i64 0, .int .i64 0, .int .i64 0, .int .i64 0, .int .i64 0, .int .i64 0] 28 #[.slice none 0 0, .bool false, .slice none 0 0] 31
  obtain ⟨m0, m1, m2, m3, m4, m5, m6, m7, m8⟩ := bx9 HX.out
  obtain ⟨k0, k1, k2, k3, k4, k5, k6, k7, k8, k9, k10⟩ := bx11 HN.out
  go_enter Tryz.func39, Tryz.ntmps39
  go_upto_region 2 with fail
  clear m0 m1 m2 m3 m4 m5 m6 m7 m8
  clear k0 k1 k2 k3 k4 k5 k6 k7 k8 k9 k10
  generalize ((((w.alloc (.cells #[.int .i64 s.p, .string s.n, .string s.d, .int .i64 s.s, .int .i64 s.t, .int .i64 s.c, .int .i64 s.h, .int .i64 s.a, .int .i64 s.e] 28)).alloc (.cells #[.int .i64 n.k, .string n.n, .string n.x, .string n.d, .int .i64 n.c, .int .i64 n.s, .int .i64 n.e, .int .i64 n.t, .bool n.o, .slice ai n.l.length ci, .slice az n.z.length cz] 42)).alloc (.cells #[.int .i64 0, .string ⟨#[]⟩, .string ⟨#[]⟩, .int .i64 0, .int .i64 0, .int .i64 0, .int .i64 0, .int .i64 0, .int .i64 0] 28)).alloc (.cells #[.slice none 0 0, .bool false, .slice none 0 0] 31)) = W0 at HB HX HN HZ HO ⊢
  have hP : w.heap.size + 3 < W0.heap.size := heap_lt HO.out
  have hZN : w.heap.size + 1 + 1 < W0.heap.size := by omega
  refine region_Z (w := w) (Z := w.heap.size + 1 + 1) 10 9 (fun j => [10, 11, 12, 13, 14, 15, 16, 17, 18, 100009].getD j 0) [10, 11, 12, 13, 14, 15, 16, 17, 18] [.eq (.agg #[.int .i64 s.p, .string s.n, .string s.d, .int .i64 s.s, .int .i64 s.t, .int .i64 s.c, .int .i64 s.h, .int .i64 s.a, .int .i64 s.e]), .eq (.pointer (some ⟨w.heap.size + 1, 4, none⟩)), .eq (.int .i64 n.c), .eq (.agg #[.int .i64 6, .string s.n, .string s.d, .int .i64 s.s, .int .i64 s.t, .int .i64 s.c, .int .i64 s.h, .int .i64 s.a, .int .i64 n.c]), .eq (.pointer (some ⟨w.heap.size + 1, 4, none⟩)), .eq (.int .i64 n.c), .eq (.agg #[.int .i64 3, .string ⟨#[]⟩, .string ⟨#[]⟩, .string ⟨#[]⟩, .int .i64 n.c, .int .i64 0, .int .i64 0, .int .i64 0, .bool false, .slice none 0 0, .slice none 0 0]), .ex (W0.heap.size) hZN #[.int .i64 3, .string ⟨#[]⟩, .string ⟨#[]⟩, .string ⟨#[]⟩, .int .i64 n.c, .int .i64 0, .int .i64 0, .int .i64 0, .bool false, .slice none 0 0, .slice none 0 0] 42 (fun B => .slice (some ⟨B, 0, none⟩) 1 1), .ex (W0.heap.size) hZN #[.int .i64 3, .string ⟨#[]⟩, .string ⟨#[]⟩, .string ⟨#[]⟩, .int .i64 n.c, .int .i64 0, .int .i64 0, .int .i64 0, .bool false, .slice none 0 0, .slice none 0 0] 42 (fun B => .agg #[.slice none 0 0, .bool false, .slice (some ⟨B, 0, none⟩) 1 1]), .st #[.int .i64 6, .string s.n, .string s.d, .int .i64 s.s, .int .i64 s.t, .int .i64 s.c, .int .i64 s.h, .int .i64 s.a, .int .i64 n.c]] (by kernel_rfl) (by kernel_rfl) (by kernel_rfl) (by kernel_rfl) (by decide) (by kernel_rfl) (by kernel_rfl) (by kernel_rfl) (by kernel_rfl) (fun h => absurd (show 9 < 10 by decide) h) HB.out HZ.out ?_ ?_
  · intro i o hi ho q W hsz hout hJ hZ0 hdep
    have HXW := oldJ hJ (by omega) HX
    obtain ⟨x0, x1, x2, x3, x4, x5, x6, x7, x8⟩ := bx9 HXW.out
    have HNW := oldJ hJ (by omega) HN
    obtain ⟨y0, y1, y2, y3, y4, y5, y6, y7, y8, y9, y10⟩ := bx11 HNW.out
    have hc : i = 0 ∨ i = 1 ∨ i = 2 ∨ i = 3 ∨ i = 4 ∨ i = 5 ∨ i = 6 ∨ i = 7 ∨ i = 8 ∨ i = 9 := by omega
    rcases hc with rfl | rfl | rfl | rfl | rfl | rfl | rfl | rfl | rfl | rfl
    · -- 0
      cases ho
      refine plainR (by decide) ?_
      have e2 : q.eval (.tmp 2) = .pointer (some ⟨w.heap.size, 0, none⟩) := (hout 2 (by decide)).trans rfl
      refine gives_read (v := .agg #[.int .i64 s.p, .string s.n, .string s.d, .int .i64 s.s, .int .i64 s.t, .int .i64 s.c, .int .i64 s.h, .int .i64 s.a, .int .i64 s.e]) ?_ rfl
      unfold execOp
      dsimp only
      rw [e2]
      go_simp
    · -- 1
      cases ho
      refine plainR (by decide) ?_
      have e3 : q.eval (.tmp 3) = .pointer (some ⟨w.heap.size + 1, 0, none⟩) := (hout 3 (by decide)).trans rfl
      refine gives_read (v := .pointer (some ⟨w.heap.size + 1, 4, none⟩)) ?_ rfl
      unfold execOp
      dsimp only
      rw [e3]
      go_simp
    · -- 2
      cases ho
      refine plainR (by decide) ?_
      have e11 : q.eval (.tmp 11) = .pointer (some ⟨w.heap.size + 1, 4, none⟩) := hdep ⟨1, .data⟩ (by simp) rfl (by decide)
      refine gives_read (v := .int .i64 n.c) ?_ rfl
      unfold execOp
      dsimp only
      rw [e11]
      go_simp
    · -- 3
      cases ho
      refine plainR (by decide) ?_
      have e10 : q.eval (.tmp 10) = .agg #[.int .i64 s.p, .string s.n, .string s.d, .int .i64 s.s, .int .i64 s.t, .int .i64 s.c, .int .i64 s.h, .int .i64 s.a, .int .i64 s.e] := hdep ⟨0, .data⟩ (by simp) rfl (by decide)
      have e12 : q.eval (.tmp 12) = .int .i64 n.c := hdep ⟨2, .data⟩ (by simp) rfl (by decide)
      refine gives_call (f := 35) (args := #[.agg #[.int .i64 s.p, .string s.n, .string s.d, .int .i64 s.s, .int .i64 s.t, .int .i64 s.c, .int .i64 s.h, .int .i64 s.a, .int .i64 s.e], .int .i64 n.c]) ?_ ((over_any s n.c W).mono ?_)
      · unfold execOp
        dsimp only
        simp only [resolve, List.map_toArray, List.map_cons, List.map_nil, e10, e12]
        go_simp
      · rintro e W' ⟨rfl, hb⟩
        exact ⟨_, rfl, hb, rfl⟩
    · -- 4
      cases ho
      refine plainR (by decide) ?_
      have e3 : q.eval (.tmp 3) = .pointer (some ⟨w.heap.size + 1, 0, none⟩) := (hout 3 (by decide)).trans rfl
      refine gives_read (v := .pointer (some ⟨w.heap.size + 1, 4, none⟩)) ?_ rfl
      unfold execOp
      dsimp only
      rw [e3]
      go_simp
    · -- 5
      cases ho
      refine plainR (by decide) ?_
      have e14 : q.eval (.tmp 14) = .pointer (some ⟨w.heap.size + 1, 4, none⟩) := hdep ⟨4, .data⟩ (by simp) rfl (by decide)
      refine gives_read (v := .int .i64 n.c) ?_ rfl
      unfold execOp
      dsimp only
      rw [e14]
      go_simp
    · -- 6
      cases ho
      refine plainR (by decide) ?_
      have e15 : q.eval (.tmp 15) = .int .i64 n.c := hdep ⟨5, .data⟩ (by simp) rfl (by decide)
      refine gives_read (v := .agg #[.int .i64 3, .string ⟨#[]⟩, .string ⟨#[]⟩, .string ⟨#[]⟩, .int .i64 n.c, .int .i64 0, .int .i64 0, .int .i64 0, .bool false, .slice none 0 0, .slice none 0 0]) ?_ rfl
      unfold execOp
      dsimp only
      simp only [List.map_toArray, List.map_cons, List.map_nil, e15]
      go_simp
    · -- 7
      cases ho
      refine plainR (by decide) ?_
      have e16 : q.eval (.tmp 16) = .agg #[.int .i64 3, .string ⟨#[]⟩, .string ⟨#[]⟩, .string ⟨#[]⟩, .int .i64 n.c, .int .i64 0, .int .i64 0, .int .i64 0, .bool false, .slice none 0 0, .slice none 0 0] := hdep ⟨6, .data⟩ (by simp) rfl (by decide)
      refine gives_run (W' := W.alloc (.cells #[.int .i64 3, .string ⟨#[]⟩, .string ⟨#[]⟩, .string ⟨#[]⟩, .int .i64 n.c, .int .i64 0, .int .i64 0, .int .i64 0, .bool false, .slice none 0 0, .slice none 0 0] 42)) (v := .slice (some ⟨W.heap.size, 0, none⟩) 1 1) ?_ ((Below.refl _ W).alloc (Nat.le_refl _) _) ⟨_, rfl, hJ.sz, box_new W _ _⟩
      unfold execOp
      dsimp only
      simp only [List.map_toArray, List.map_cons, List.map_nil, e16]
      go_simp
    · -- 8
      cases ho
      refine plainR (by decide) ?_
      obtain ⟨BB, e17, hB, hBB⟩ : ∃ B : Nat, q.eval (.tmp 17) = .slice (some ⟨B, 0, none⟩) 1 1 ∧ W0.heap.size ≤ B ∧ W.heap[B]? = some (.cells #[.int .i64 3, .string ⟨#[]⟩, .string ⟨#[]⟩, .string ⟨#[]⟩, .int .i64 n.c, .int .i64 0, .int .i64 0, .int .i64 0, .bool false, .slice none 0 0, .slice none 0 0] 42 (0, 0)) := hdep ⟨7, .data⟩ (by simp) rfl (by decide)
      refine gives_read (v := .agg #[.slice none 0 0, .bool false, .slice (some ⟨BB, 0, none⟩) 1 1]) ?_ ⟨BB, rfl, hB, hBB⟩
      unfold execOp
      dsimp only
      simp only [List.map_toArray, List.map_cons, List.map_nil, e17]
      go_simp
    · -- 9
      cases ho
      have e4 : q.eval (.tmp 4) = .pointer (some ⟨w.heap.size + 1 + 1, 0, none⟩) := (hout 4 (by decide)).trans rfl
      have e13 : q.eval (.tmp 13) = .agg #[.int .i64 6, .string s.n, .string s.d, .int .i64 s.s, .int .i64 s.t, .int .i64 s.c, .int .i64 s.h, .int .i64 s.a, .int .i64 n.c] := hdep ⟨3, .data⟩ (by simp) rfl (by decide)
      have hz := hZ0 (by kernel_rfl)
      obtain ⟨zc0, zc1, zc2, zc3, zc4, zc5, zc6, zc7, zc8⟩ := bx9 hz
      obtain ⟨zf0, zf1, zf2, zf3, zf4, zf5, zf6, zf7, zf8⟩ := bx9f hz
      refine givesR_skip ?_ (stZ_of (by omega) hz (.int .i64 6) (.string s.n) (.string s.d) (.int .i64 s.s) (.int .i64 s.t) (.int .i64 s.c) (.int .i64 s.h) (.int .i64 s.a) (.int .i64 n.c)) (st9 hz (.int .i64 6) (.string s.n) (.string s.d) (.int .i64 s.s) (.int .i64 s.t) (.int .i64 s.c) (.int .i64 s.h) (.int .i64 s.a) (.int .i64 n.c))
      unfold execOp
      dsimp only
      rw [e4, e13]
      go_simp
  · intro q W hq hJ hv
    obtain ⟨B, e18, hB, hBB⟩ : ∃ B : Nat, q.eval (.tmp 18) = .agg #[.slice none 0 0, .bool false, .slice (some ⟨B, 0, none⟩) 1 1] ∧ W0.heap.size ≤ B ∧ W.heap[B]? = some (.cells #[.int .i64 3, .string ⟨#[]⟩, .string ⟨#[]⟩, .string ⟨#[]⟩, .int .i64 n.c, .int .i64 0, .int .i64 0, .int .i64 0, .bool false, .slice none 0 0, .slice none 0 0] 42 (0, 0)) := hv 8 (by decide)
    have hZW : W.heap[w.heap.size + 1 + 1]? = some (.cells #[.int .i64 6, .string s.n, .string s.d, .int .i64 s.s, .int .i64 s.t, .int .i64 s.c, .int .i64 s.h, .int .i64 s.a, .int .i64 n.c] 28 (0, 0)) := hv 9 (by decide)
    have HBW := Lib.hid hJ.bel
    have HOW := oldJ hJ (by omega) HO
    have HZW := Lib.hid hZW
    have HRW := Lib.hid hBB
    clear hBB hJ HX HN HZ HO hZW
    have hq2 : q = canonL q [10, 11, 12, 13, 14, 15, 16, 17, 18] _ := hq
    simp only [canonL] at hq2
    rw [e18] at hq2
    clear hq hv e18
    generalize q.eval (.tmp 10) = u10 at hq2
    generalize q.eval (.tmp 11) = u11 at hq2
    generalize q.eval (.tmp 12) = u12 at hq2
    generalize q.eval (.tmp 13) = u13 at hq2
    generalize q.eval (.tmp 14) = u14 at hq2
    generalize q.eval (.tmp 15) = u15 at hq2
    generalize q.eval (.tmp 16) = u16 at hq2
    generalize q.eval (.tmp 17) = u17 at hq2
    subst hq2
    obtain ⟨y0, y1, y2⟩ := bx3 HOW.out
    obtain ⟨v0, v1, v2⟩ := bx3f HOW.out
    simp only [List.drop_succ_cons, List.drop_zero]
    go_wp2_with fail
    exact bodyPost_ret (results_two Tryz.results39 _ _ (w.heap.size + 2) (w.heap.size + 3) _ _ rfl rfl (load_s ((st3k (by omega) (.slice none 0 0) (.bool false) (.slice (some ⟨B, 0, none⟩) 1 1)).trans HZW.out)) (load_o (st3 HOW.out (.slice none 0 0) (.bool false) (.slice (some ⟨B, 0, none⟩) 1 1)))) rfl ⟨B, rfl, st3b HBW.out (by omega) (.slice none 0 0) (.bool false) (.slice (some ⟨B, 0, none⟩) 1 1), (st3k (by omega) (.slice none 0 0) (.bool false) (.slice (some ⟨B, 0, none⟩) 1 1)).trans HRW.out, by omega⟩
end Go.Proofs.YthbeempmdpfnmaaGreatDoor.T
