/- Contract: let where there is no code. Conditions: those of each theorem's head. -/
import Derived.Test.YthbeempmdpfnmaaGreatDoorS7
namespace Go.Proofs.YthbeempmdpfnmaaGreatDoor.T
open Go.RowKit Go.Lib

set_option maxRecDepth 100000 in
set_option maxHeartbeats 8000000 in
theorem let_0 (s : Ss) (n : Nt) (ai az : Option Addr) (ci cz : Nat) (w : World) (hc : n.c = 0) (hd : n.d.size ≤ 1000000) : Calls Tryz.prog 39 #[.agg #[.int .i64 s.p, .string s.n, .string s.d, .int .i64 s.s, .int .i64 s.t, .int .i64 s.c, .int .i64 s.h, .int .i64 s.a, .int .i64 s.e], .agg #[.int .i64 n.k, .string n.n, .string n.x, .string n.d, .int .i64 n.c, .int .i64 n.s, .int .i64 n.e, .int .i64 n.t, .bool n.o, .slice ai n.l.length ci, .slice az n.z.length cz]] w fun e w' => ∃ g, e = .returned (.tuple #[.agg #[.int .i64 3, .string s.n, .string s.d, .int .i64 s.s, .int .i64 s.t, .int .i64 s.c, .int .i64 s.h, .int .i64 0, .int .i64 s.e], .agg #[.slice (some ⟨g, 0, none⟩) 1 1, .bool true, .slice none 0 0]]) ∧ Below w.heap.size w w' ∧ w'.heap[g]? = some (.cells #[.int .i64 2, .string ⟨#[]⟩, .string ⟨#[]⟩, .string n.d, .int .i64 0, .int .i64 0, .int .i64 0, .int .i64 0, .bool false, .slice none 0 0, .slice none 0 0] 42 (0, 0)) ∧ w.heap.size ≤ g := by
  have q1 : (n.c != 0) = false := by rw [hc]; rfl
  clear hc
  have CL := Lib.hid (fun W => clone_any n.d W (Nat.le_trans hd (by decide)))
  clear hd
  have CY : Hid (∀ (a : Option Addr) (n c : Nat) (W : World), Calls Tryz.prog 33 #[.agg #[.int .i64 3, .string s.n, .string s.d, .int .i64 s.s, .int .i64 s.t, .int .i64 s.c, .int .i64 s.h, .int .i64 s.a, .int .i64 s.e], .slice a n c] W (Gives (.tuple #[.agg #[.int .i64 3, .string s.n, .string s.d, .int .i64 s.s, .int .i64 s.t, .int .i64 s.c, .int .i64 s.h, .int .i64 0, .int .i64 s.e], .agg #[.slice a n c, .bool false, .slice none 0 0]]) W)) := fun a n c W => say_any { s with p := 3 } a n c W
  obtain ⟨-, HX, HN, -, -⟩ := bxFour w #[.int .i64 s.p, .string s.n, .string s.d, .int .i64 s.s, .int .i64 s.t, .int .i64 s.c, .int .i64 s.h, .int .i64 s.a, .int .i64 s.e] 28 #[.int .i64 n.k, .string n.n, .string n.x, .string n.d, .int .i64 n.c, .int .i64 n.s, .int .i64 n.e, .int .i64 n.t, .bool n.o, .slice ai n.l.length ci, .slice az n.z.length cz] 42 #[.int .i64 0, .string ⟨#[]⟩, .string ⟨#[]⟩, .int .i64 0, .int .i64 0, .int .i64 0, .int .i64 0, .int .i64 0, .int .i64 0] 28 #[.slice none 0 0, .bool false, .slice none 0 0] 31
  obtain ⟨m0, m1, m2, m3, m4, m5, m6, m7, m8⟩ := bx9 HX.out
  obtain ⟨f0, f1, f2, f3, f4, f5, f6, f7, f8⟩ := bx9f HX.out
  obtain ⟨k0, k1, k2, k3, k4, k5, k6, k7, k8, k9, k10⟩ := bx11 HN.out
  obtain ⟨HB, HX2, HN2, HZ, HO⟩ := bxFour w #[.int .i64 3, .string s.n, .string s.d, .int .i64 s.s, .int .i64 s.t, .int .i64 s.c, .int .i64 s.h, .int .i64 s.a, .int .i64 s.e] 28 #[.int .i64 n.k, .string n.n, .string n.x, .string n.d, .int .i64 n.c, .int .i64 n.s, .int .i64 n.e, .int .i64 n.t, .bool n.o, .slice ai n.l.length ci, .slice az n.z.length cz] 42 #[.int .i64 0, .string ⟨#[]⟩, .string ⟨#[]⟩, .int .i64 0, .int .i64 0, .int .i64 0, .int .i64 0, .int .i64 0, .int .i64 0] 28 #[.slice none 0 0, .bool false, .slice none 0 0] 31
  go_enter Tryz.func39, Tryz.ntmps39
  go_upto_region 4 with fail
  clear m0 m1 m2 m3 m4 m5 m6 m7 m8 f0 f1 f2 f3 f4 f5 f6 f7 f8
  clear k0 k1 k2 k3 k4 k5 k6 k7 k8 k9 k10
  clear HX HN
  have HX := HX2
  have HN := HN2
  clear HX2 HN2
  generalize ((((w.alloc (.cells #[.int .i64 3, .string s.n, .string s.d, .int .i64 s.s, .int .i64 s.t, .int .i64 s.c, .int .i64 s.h, .int .i64 s.a, .int .i64 s.e] 28)).alloc (.cells #[.int .i64 n.k, .string n.n, .string n.x, .string n.d, .int .i64 n.c, .int .i64 n.s, .int .i64 n.e, .int .i64 n.t, .bool n.o, .slice ai n.l.length ci, .slice az n.z.length cz] 42)).alloc (.cells #[.int .i64 0, .string ⟨#[]⟩, .string ⟨#[]⟩, .int .i64 0, .int .i64 0, .int .i64 0, .int .i64 0, .int .i64 0, .int .i64 0] 28)).alloc (.cells #[.slice none 0 0, .bool false, .slice none 0 0] 31)) = W0 at HB HX HN HZ HO ⊢
  have hP : w.heap.size + 3 < W0.heap.size := heap_lt HO.out
  have hZN : w.heap.size < W0.heap.size := by omega
  refine region_Z (w := w) (Z := w.heap.size) 12 11 (fun j => [21, 22, 23, 24, 25, 26, 27, 20, 28, 29, 6, 100011].getD j 0) [21, 22, 23, 24, 25, 26, 27, 20, 28, 29, 6] [.eq (.agg #[.int .i64 3, .string s.n, .string s.d, .int .i64 s.s, .int .i64 s.t, .int .i64 s.c, .int .i64 s.h, .int .i64 s.a, .int .i64 s.e]), .eq (.pointer (some ⟨w.heap.size + 1, 3, none⟩)), .eq (.string n.d), .eq (.string n.d), .eq (.agg #[.int .i64 2, .string ⟨#[]⟩, .string ⟨#[]⟩, .string n.d, .int .i64 0, .int .i64 0, .int .i64 0, .int .i64 0, .bool false, .slice none 0 0, .slice none 0 0]), .ex (W0.heap.size) hZN #[.int .i64 2, .string ⟨#[]⟩, .string ⟨#[]⟩, .string n.d, .int .i64 0, .int .i64 0, .int .i64 0, .int .i64 0, .bool false, .slice none 0 0, .slice none 0 0] 42 (fun B => .slice (some ⟨B, 0, none⟩) 1 1), .ex (W0.heap.size) hZN #[.int .i64 2, .string ⟨#[]⟩, .string ⟨#[]⟩, .string n.d, .int .i64 0, .int .i64 0, .int .i64 0, .int .i64 0, .bool false, .slice none 0 0, .slice none 0 0] 42 (fun B => .tuple #[.agg #[.int .i64 3, .string s.n, .string s.d, .int .i64 s.s, .int .i64 s.t, .int .i64 s.c, .int .i64 s.h, .int .i64 0, .int .i64 s.e], .agg #[.slice (some ⟨B, 0, none⟩) 1 1, .bool false, .slice none 0 0]]), .ex (W0.heap.size) hZN #[.int .i64 2, .string ⟨#[]⟩, .string ⟨#[]⟩, .string n.d, .int .i64 0, .int .i64 0, .int .i64 0, .int .i64 0, .bool false, .slice none 0 0, .slice none 0 0] 42 (fun B => .tuple #[.agg #[.int .i64 3, .string s.n, .string s.d, .int .i64 s.s, .int .i64 s.t, .int .i64 s.c, .int .i64 s.h, .int .i64 0, .int .i64 s.e], .agg #[.slice (some ⟨B, 0, none⟩) 1 1, .bool false, .slice none 0 0]]), .eq (.agg #[.int .i64 3, .string s.n, .string s.d, .int .i64 s.s, .int .i64 s.t, .int .i64 s.c, .int .i64 s.h, .int .i64 0, .int .i64 s.e]), .ex (W0.heap.size) hZN #[.int .i64 2, .string ⟨#[]⟩, .string ⟨#[]⟩, .string n.d, .int .i64 0, .int .i64 0, .int .i64 0, .int .i64 0, .bool false, .slice none 0 0, .slice none 0 0] 42 (fun B => .agg #[.slice (some ⟨B, 0, none⟩) 1 1, .bool false, .slice none 0 0]), .ex (W0.heap.size) hZN #[.slice none 0 0, .bool false, .slice none 0 0] 31 (fun B => .pointer (some ⟨B, 0, none⟩)), .st #[.int .i64 3, .string s.n, .string s.d, .int .i64 s.s, .int .i64 s.t, .int .i64 s.c, .int .i64 s.h, .int .i64 0, .int .i64 s.e]] (by kernel_rfl) (by kernel_rfl) (by kernel_rfl) (by kernel_rfl) (by decide) (by kernel_rfl) (by kernel_rfl) (by kernel_rfl) (by kernel_rfl) (fun h => absurd (show 11 < 12 by decide) h) HB.out HX.out ?_ ?_
  · intro i o hi ho q W hsz hout hJ hZ0 hdep
    have HNW := oldJ hJ (by omega) HN
    obtain ⟨y0, y1, y2, y3, y4, y5, y6, y7, y8, y9, y10⟩ := bx11 HNW.out
    have hc : i = 0 ∨ i = 1 ∨ i = 2 ∨ i = 3 ∨ i = 4 ∨ i = 5 ∨ i = 6 ∨ i = 7 ∨ i = 8 ∨ i = 9 ∨ i = 10 ∨ i = 11 := by omega
    rcases hc with rfl | rfl | rfl | rfl | rfl | rfl | rfl | rfl | rfl | rfl | rfl | rfl
    · -- 0
      cases ho
      refine plainR (by decide) ?_
      obtain ⟨zc0, zc1, zc2, zc3, zc4, zc5, zc6, zc7, zc8⟩ := bx9 (hZ0 (by kernel_rfl))
      have e2 : q.eval (.tmp 2) = .pointer (some ⟨w.heap.size, 0, none⟩) := (hout 2 (by decide)).trans rfl
      refine gives_read (v := .agg #[.int .i64 3, .string s.n, .string s.d, .int .i64 s.s, .int .i64 s.t, .int .i64 s.c, .int .i64 s.h, .int .i64 s.a, .int .i64 s.e]) ?_ rfl
      unfold execOp
      dsimp only
      rw [e2]
      go_simp
    · -- 1
      cases ho
      refine plainR (by decide) ?_
      have e3 : q.eval (.tmp 3) = .pointer (some ⟨w.heap.size + 1, 0, none⟩) := (hout 3 (by decide)).trans rfl
      refine gives_read (v := .pointer (some ⟨w.heap.size + 1, 3, none⟩)) ?_ rfl
      unfold execOp
      dsimp only
      rw [e3]
      go_simp
    · -- 2
      cases ho
      refine plainR (by decide) ?_
      have e22 : q.eval (.tmp 22) = .pointer (some ⟨w.heap.size + 1, 3, none⟩) := hdep ⟨1, .data⟩ (by simp) rfl (by decide)
      refine gives_read (v := .string n.d) ?_ rfl
      unfold execOp
      dsimp only
      rw [e22]
      go_simp
    · -- 3
      cases ho
      refine plainR (by decide) ?_
      have e23 : q.eval (.tmp 23) = .string n.d := hdep ⟨2, .data⟩ (by simp) rfl (by decide)
      refine gives_call (f := 32) (args := #[.string n.d]) ?_ ((CL.out W).mono ?_)
      · unfold execOp
        dsimp only
        simp only [resolve, List.map_toArray, List.map_cons, List.map_nil, e23]
        go_simp
      · rintro e W' ⟨rfl, hb⟩
        exact ⟨_, rfl, hb, rfl⟩
    · -- 4
      cases ho
      refine plainR (by decide) ?_
      have e24 : q.eval (.tmp 24) = .string n.d := hdep ⟨3, .data⟩ (by simp) rfl (by decide)
      refine gives_read (v := .agg #[.int .i64 2, .string ⟨#[]⟩, .string ⟨#[]⟩, .string n.d, .int .i64 0, .int .i64 0, .int .i64 0, .int .i64 0, .bool false, .slice none 0 0, .slice none 0 0]) ?_ rfl
      unfold execOp
      dsimp only
      simp only [List.map_toArray, List.map_cons, List.map_nil, e24]
      go_simp
    · -- 5
      cases ho
      refine plainR (by decide) ?_
      have e25 : q.eval (.tmp 25) = .agg #[.int .i64 2, .string ⟨#[]⟩, .string ⟨#[]⟩, .string n.d, .int .i64 0, .int .i64 0, .int .i64 0, .int .i64 0, .bool false, .slice none 0 0, .slice none 0 0] := hdep ⟨4, .data⟩ (by simp) rfl (by decide)
      refine gives_run (W' := W.alloc (.cells #[.int .i64 2, .string ⟨#[]⟩, .string ⟨#[]⟩, .string n.d, .int .i64 0, .int .i64 0, .int .i64 0, .int .i64 0, .bool false, .slice none 0 0, .slice none 0 0] 42)) (v := .slice (some ⟨W.heap.size, 0, none⟩) 1 1) ?_ ((Below.refl _ W).alloc (Nat.le_refl _) _) ⟨_, rfl, hJ.sz, box_new W _ _⟩
      unfold execOp
      dsimp only
      simp only [List.map_toArray, List.map_cons, List.map_nil, e25]
      go_simp
    · -- 6
      cases ho
      refine plainR (by decide) ?_
      have e21 : q.eval (.tmp 21) = .agg #[.int .i64 3, .string s.n, .string s.d, .int .i64 s.s, .int .i64 s.t, .int .i64 s.c, .int .i64 s.h, .int .i64 s.a, .int .i64 s.e] := hdep ⟨0, .data⟩ (by simp) rfl (by decide)
      obtain ⟨BB, e26, hB, hBB⟩ : ∃ B : Nat, q.eval (.tmp 26) = .slice (some ⟨B, 0, none⟩) 1 1 ∧ W0.heap.size ≤ B ∧ W.heap[B]? = some (.cells #[.int .i64 2, .string ⟨#[]⟩, .string ⟨#[]⟩, .string n.d, .int .i64 0, .int .i64 0, .int .i64 0, .int .i64 0, .bool false, .slice none 0 0, .slice none 0 0] 42 (0, 0)) := hdep ⟨5, .data⟩ (by simp) rfl (by decide)
      refine gives_call (f := 33) (args := #[.agg #[.int .i64 3, .string s.n, .string s.d, .int .i64 s.s, .int .i64 s.t, .int .i64 s.c, .int .i64 s.h, .int .i64 s.a, .int .i64 s.e], .slice (some ⟨BB, 0, none⟩) 1 1]) ?_ ((CY.out _ _ _ W).mono ?_)
      · unfold execOp
        dsimp only
        simp only [resolve, List.map_toArray, List.map_cons, List.map_nil, e21, e26]
        go_simp
      · rintro e W' ⟨rfl, hb⟩
        exact ⟨_, rfl, hb, ⟨BB, rfl, hB, (hb.block _ (heap_lt hBB)).trans hBB⟩⟩
    · -- 7
      cases ho
      refine plainR (by decide) ?_
      obtain ⟨BB, e27, hB, hBB⟩ : ∃ B : Nat, q.eval (.tmp 27) = .tuple #[.agg #[.int .i64 3, .string s.n, .string s.d, .int .i64 s.s, .int .i64 s.t, .int .i64 s.c, .int .i64 s.h, .int .i64 0, .int .i64 s.e], .agg #[.slice (some ⟨B, 0, none⟩) 1 1, .bool false, .slice none 0 0]] ∧ W0.heap.size ≤ B ∧ W.heap[B]? = some (.cells #[.int .i64 2, .string ⟨#[]⟩, .string ⟨#[]⟩, .string n.d, .int .i64 0, .int .i64 0, .int .i64 0, .int .i64 0, .bool false, .slice none 0 0, .slice none 0 0] 42 (0, 0)) := hdep ⟨6, .data⟩ (by simp) rfl (by decide)
      refine gives_read (v := .tuple #[.agg #[.int .i64 3, .string s.n, .string s.d, .int .i64 s.s, .int .i64 s.t, .int .i64 s.c, .int .i64 s.h, .int .i64 0, .int .i64 s.e], .agg #[.slice (some ⟨BB, 0, none⟩) 1 1, .bool false, .slice none 0 0]]) ?_ ⟨BB, rfl, hB, hBB⟩
      unfold execOp
      dsimp only
      rw [e27]
      go_simp
    · -- 8
      cases ho
      refine plainR (by decide) ?_
      obtain ⟨BB, e20, hB, hBB⟩ : ∃ B : Nat, q.eval (.tmp 20) = .tuple #[.agg #[.int .i64 3, .string s.n, .string s.d, .int .i64 s.s, .int .i64 s.t, .int .i64 s.c, .int .i64 s.h, .int .i64 0, .int .i64 s.e], .agg #[.slice (some ⟨B, 0, none⟩) 1 1, .bool false, .slice none 0 0]] ∧ W0.heap.size ≤ B ∧ W.heap[B]? = some (.cells #[.int .i64 2, .string ⟨#[]⟩, .string ⟨#[]⟩, .string n.d, .int .i64 0, .int .i64 0, .int .i64 0, .int .i64 0, .bool false, .slice none 0 0, .slice none 0 0] 42 (0, 0)) := hdep ⟨7, .data⟩ (by simp) rfl (by decide)
      refine gives_read (v := .agg #[.int .i64 3, .string s.n, .string s.d, .int .i64 s.s, .int .i64 s.t, .int .i64 s.c, .int .i64 s.h, .int .i64 0, .int .i64 s.e]) ?_ rfl
      unfold execOp
      dsimp only
      rw [e20]
      go_simp
    · -- 9
      cases ho
      refine plainR (by decide) ?_
      obtain ⟨BB, e20, hB, hBB⟩ : ∃ B : Nat, q.eval (.tmp 20) = .tuple #[.agg #[.int .i64 3, .string s.n, .string s.d, .int .i64 s.s, .int .i64 s.t, .int .i64 s.c, .int .i64 s.h, .int .i64 0, .int .i64 s.e], .agg #[.slice (some ⟨B, 0, none⟩) 1 1, .bool false, .slice none 0 0]] ∧ W0.heap.size ≤ B ∧ W.heap[B]? = some (.cells #[.int .i64 2, .string ⟨#[]⟩, .string ⟨#[]⟩, .string n.d, .int .i64 0, .int .i64 0, .int .i64 0, .int .i64 0, .bool false, .slice none 0 0, .slice none 0 0] 42 (0, 0)) := hdep ⟨7, .data⟩ (by simp) rfl (by decide)
      refine gives_read (v := .agg #[.slice (some ⟨BB, 0, none⟩) 1 1, .bool false, .slice none 0 0]) ?_ ⟨BB, rfl, hB, hBB⟩
      unfold execOp
      dsimp only
      rw [e20]
      go_simp
    · -- 10
      cases ho
      refine plainR (by decide) ?_
      refine gives_run (W' := W.alloc (.cells #[.slice none 0 0, .bool false, .slice none 0 0] 31)) (v := .pointer (some ⟨W.heap.size, 0, none⟩)) ?_ ((Below.refl _ W).alloc (Nat.le_refl _) _) ⟨_, rfl, hJ.sz, box_new W _ _⟩
      unfold execOp
      dsimp only
      go_simp
    · -- 11
      cases ho
      have e2 : q.eval (.tmp 2) = .pointer (some ⟨w.heap.size, 0, none⟩) := (hout 2 (by decide)).trans rfl
      have e28 : q.eval (.tmp 28) = .agg #[.int .i64 3, .string s.n, .string s.d, .int .i64 s.s, .int .i64 s.t, .int .i64 s.c, .int .i64 s.h, .int .i64 0, .int .i64 s.e] := hdep ⟨8, .data⟩ (by simp) rfl (by decide)
      have hz := hZ0 (by kernel_rfl)
      obtain ⟨zc0, zc1, zc2, zc3, zc4, zc5, zc6, zc7, zc8⟩ := bx9 hz
      obtain ⟨zf0, zf1, zf2, zf3, zf4, zf5, zf6, zf7, zf8⟩ := bx9f hz
      refine givesR_skip ?_ (stZ_of (by omega) hz (.int .i64 3) (.string s.n) (.string s.d) (.int .i64 s.s) (.int .i64 s.t) (.int .i64 s.c) (.int .i64 s.h) (.int .i64 0) (.int .i64 s.e)) (st9 hz (.int .i64 3) (.string s.n) (.string s.d) (.int .i64 s.s) (.int .i64 s.t) (.int .i64 s.c) (.int .i64 s.h) (.int .i64 0) (.int .i64 s.e))
      unfold execOp
      dsimp only
      rw [e2, e28]
      go_simp
  · intro q W hq hJ hv
    obtain ⟨B, e29, hB, hBB⟩ : ∃ B : Nat, q.eval (.tmp 29) = .agg #[.slice (some ⟨B, 0, none⟩) 1 1, .bool false, .slice none 0 0] ∧ W0.heap.size ≤ B ∧ W.heap[B]? = some (.cells #[.int .i64 2, .string ⟨#[]⟩, .string ⟨#[]⟩, .string n.d, .int .i64 0, .int .i64 0, .int .i64 0, .int .i64 0, .bool false, .slice none 0 0, .slice none 0 0] 42 (0, 0)) := hv 9 (by decide)
    obtain ⟨Ba, e6, hBa, hBBa⟩ : ∃ B : Nat, q.eval (.tmp 6) = .pointer (some ⟨B, 0, none⟩) ∧ W0.heap.size ≤ B ∧ W.heap[B]? = some (.cells #[.slice none 0 0, .bool false, .slice none 0 0] 31 (0, 0)) := hv 10 (by decide)
    obtain ⟨hBa', hBBa'⟩ : W0.heap.size ≤ Ba ∧ W.heap[Ba]? = some (.cells #[.slice none 0 0, .bool false, .slice none 0 0] 31 (0, 0)) := ⟨hBa, hBBa⟩
    have hXW : W.heap[w.heap.size]? = some (.cells #[.int .i64 3, .string s.n, .string s.d, .int .i64 s.s, .int .i64 s.t, .int .i64 s.c, .int .i64 s.h, .int .i64 0, .int .i64 s.e] 28 (0, 0)) := hv 11 (by decide)
    have HBW := Lib.hid hJ.bel
    have HOW := oldJ hJ (by omega) HO
    have HZW := oldJ hJ (by omega) HZ
    have HXW := Lib.hid hXW
    have HRW := Lib.hid hBB
    have HAW := Lib.hid hBBa
    clear hBB hBBa hBBa' hJ HX HN HZ HO hXW
    have hq2 : q = canonL q [21, 22, 23, 24, 25, 26, 27, 20, 28, 29, 6] _ := hq
    simp only [canonL] at hq2
    rw [e29, e6] at hq2
    clear hq hv e29 e6
    generalize q.eval (.tmp 21) = u21 at hq2
    generalize q.eval (.tmp 22) = u22 at hq2
    generalize q.eval (.tmp 23) = u23 at hq2
    generalize q.eval (.tmp 24) = u24 at hq2
    generalize q.eval (.tmp 25) = u25 at hq2
    generalize q.eval (.tmp 26) = u26 at hq2
    generalize q.eval (.tmp 27) = u27 at hq2
    generalize q.eval (.tmp 20) = u20 at hq2
    generalize q.eval (.tmp 28) = u28 at hq2
    subst hq2
    obtain ⟨y0, y1, y2⟩ := bx3 HAW.out
    obtain ⟨v0, v1, v2⟩ := bx3f HAW.out
    have hne : B ≠ Ba := by
        rintro rfl
        have h1 := HRW.out
        rw [HAW.out] at h1
        cases h1
    simp only [List.drop_succ_cons, List.drop_zero]
    go_upto_region 6 with fail
    have HB := Lib.hid ((st3b (A := Ba) HBW.out (by omega) (.slice (some ⟨B, 0, none⟩) 1 1) (.bool false) (.slice none 0 0)).setCell (p := ⟨Ba, 1, none⟩) (show w.heap.size ≤ Ba by omega) (.bool true))
    have HA : Hid (((((W.setCell ⟨Ba, 0, none⟩ (.slice (some ⟨B, 0, none⟩) 1 1)).setCell ⟨Ba, 1, none⟩ (.bool false)).setCell ⟨Ba, 2, none⟩ (.slice none 0 0)).setCell ⟨Ba, 1, none⟩ (.bool true)).heap[Ba]? = some (.cells #[.slice (some ⟨B, 0, none⟩) 1 1, .bool true, .slice none 0 0] 31 (0, 0))) := by
        show _ = _
        simp [World.setCell, Array.getElem?_modify, HAW.out]
    have HX := Lib.hid (kp1 (A := Ba) (i := 1) (u := .bool true) (b := w.heap.size) (by omega) ((st3k (A := Ba) (by omega) (.slice (some ⟨B, 0, none⟩) 1 1) (.bool false) (.slice none 0 0)).trans HXW.out))
    have HZ := Lib.hid (kp1 (A := Ba) (i := 1) (u := .bool true) (b := w.heap.size + 1 + 1) (by omega) ((st3k (A := Ba) (by omega) (.slice (some ⟨B, 0, none⟩) 1 1) (.bool false) (.slice none 0 0)).trans HZW.out))
    have HO := Lib.hid (kp1 (A := Ba) (i := 1) (u := .bool true) (b := w.heap.size + 1 + 1 + 1) (by omega) ((st3k (A := Ba) (by omega) (.slice (some ⟨B, 0, none⟩) 1 1) (.bool false) (.slice none 0 0)).trans HOW.out))
    have HR := Lib.hid (kp1 (A := Ba) (i := 1) (u := .bool true) (b := B) (by omega) ((st3k (A := Ba) (by omega) (.slice (some ⟨B, 0, none⟩) 1 1) (.bool false) (.slice none 0 0)).trans HRW.out))
    generalize ((((W.setCell ⟨Ba, 0, none⟩ (.slice (some ⟨B, 0, none⟩) 1 1)).setCell ⟨Ba, 1, none⟩ (.bool false)).setCell ⟨Ba, 2, none⟩ (.slice none 0 0)).setCell ⟨Ba, 1, none⟩ (.bool true)) = W1 at HB HA HX HZ HO HR ⊢
    clear HXW HZW HOW HRW HAW HBW y0 y1 y2 v0 v1 v2
    have hZN : w.heap.size + 1 + 1 < W1.heap.size := heap_lt HZ.out
    generalize Ba = A6 at HA hBa hBa' hne ⊢
    refine region_Z (w := w) (Z := w.heap.size + 1 + 1) 3 2 (fun j => [31, 32, 100002].getD j 0) [31, 32] [.eq (.agg #[.int .i64 3, .string s.n, .string s.d, .int .i64 s.s, .int .i64 s.t, .int .i64 s.c, .int .i64 s.h, .int .i64 0, .int .i64 s.e]), .eq (.agg #[.slice (some ⟨B, 0, none⟩) 1 1, .bool true, .slice none 0 0]), .st #[.int .i64 3, .string s.n, .string s.d, .int .i64 s.s, .int .i64 s.t, .int .i64 s.c, .int .i64 s.h, .int .i64 0, .int .i64 s.e]] (by kernel_rfl) (by kernel_rfl) (by kernel_rfl) (by kernel_rfl) (by decide) (by kernel_rfl) (by kernel_rfl) (by kernel_rfl) (by kernel_rfl) (fun h => absurd (show 2 < 3 by decide) h) HB.out HZ.out ?_ ?_
    · intro i o hi ho q W hsz hout hJ hZ0 hdep
      have HXW := oldJ hJ (by omega) HX
      obtain ⟨x0, x1, x2, x3, x4, x5, x6, x7, x8⟩ := bx9 HXW.out
      have HAW := oldJ hJ (by omega) HA
      obtain ⟨y0, y1, y2⟩ := bx3 HAW.out
      have hc : i = 0 ∨ i = 1 ∨ i = 2 := by omega
      rcases hc with rfl | rfl | rfl
      · -- 0
        cases ho
        refine plainR (by decide) ?_
        have e2 : q.eval (.tmp 2) = .pointer (some ⟨w.heap.size, 0, none⟩) := (hout 2 (by decide)).trans rfl
        refine gives_read (v := .agg #[.int .i64 3, .string s.n, .string s.d, .int .i64 s.s, .int .i64 s.t, .int .i64 s.c, .int .i64 s.h, .int .i64 0, .int .i64 s.e]) ?_ rfl
        unfold execOp
        dsimp only
        rw [e2]
        go_simp
      · -- 1
        cases ho
        refine plainR (by decide) ?_
        have e6 : q.eval (.tmp 6) = .pointer (some ⟨A6, 0, none⟩) := (hout 6 (by decide)).trans rfl
        refine gives_read (v := .agg #[.slice (some ⟨B, 0, none⟩) 1 1, .bool true, .slice none 0 0]) ?_ rfl
        unfold execOp
        dsimp only
        rw [e6]
        go_simp
      · -- 2
        cases ho
        have e4 : q.eval (.tmp 4) = .pointer (some ⟨w.heap.size + 1 + 1, 0, none⟩) := (hout 4 (by decide)).trans rfl
        have e31 : q.eval (.tmp 31) = .agg #[.int .i64 3, .string s.n, .string s.d, .int .i64 s.s, .int .i64 s.t, .int .i64 s.c, .int .i64 s.h, .int .i64 0, .int .i64 s.e] := hdep ⟨0, .data⟩ (by simp) rfl (by decide)
        have hz := hZ0 (by kernel_rfl)
        obtain ⟨zc0, zc1, zc2, zc3, zc4, zc5, zc6, zc7, zc8⟩ := bx9 hz
        obtain ⟨zf0, zf1, zf2, zf3, zf4, zf5, zf6, zf7, zf8⟩ := bx9f hz
        refine givesR_skip ?_ (stZ_of (by omega) hz (.int .i64 3) (.string s.n) (.string s.d) (.int .i64 s.s) (.int .i64 s.t) (.int .i64 s.c) (.int .i64 s.h) (.int .i64 0) (.int .i64 s.e)) (st9 hz (.int .i64 3) (.string s.n) (.string s.d) (.int .i64 s.s) (.int .i64 s.t) (.int .i64 s.c) (.int .i64 s.h) (.int .i64 0) (.int .i64 s.e))
        unfold execOp
        dsimp only
        rw [e4, e31]
        go_simp
    · intro q W hq hJ hv
      have e32 : q.eval (.tmp 32) = .agg #[.slice (some ⟨B, 0, none⟩) 1 1, .bool true, .slice none 0 0] := hv 1 (by decide)
      have hZW : W.heap[w.heap.size + 1 + 1]? = some (.cells #[.int .i64 3, .string s.n, .string s.d, .int .i64 s.s, .int .i64 s.t, .int .i64 s.c, .int .i64 s.h, .int .i64 0, .int .i64 s.e] 28 (0, 0)) := hv 2 (by decide)
      have HBW := Lib.hid hJ.bel
      have HOW := oldJ hJ (by omega) HO
      have HZW := Lib.hid hZW
      have HRW := oldJ hJ (by omega) HR
      clear hJ HX HO HA HR hZW
      have hq2 : q = canonL q [31, 32] _ := hq
      simp only [canonL] at hq2
      rw [e32] at hq2
      clear hq hv e32
      generalize q.eval (.tmp 31) = u31 at hq2
      subst hq2
      obtain ⟨y0, y1, y2⟩ := bx3 HOW.out
      obtain ⟨v0, v1, v2⟩ := bx3f HOW.out
      simp only [List.drop_succ_cons, List.drop_zero]
      go_wp2_with fail
      exact bodyPost_ret (results_two Tryz.results39 _ _ (w.heap.size + 2) (w.heap.size + 3) _ _ rfl rfl (load_s ((st3k (by omega) (.slice (some ⟨B, 0, none⟩) 1 1) (.bool true) (.slice none 0 0)).trans HZW.out)) (load_o (st3 HOW.out (.slice (some ⟨B, 0, none⟩) 1 1) (.bool true) (.slice none 0 0)))) rfl ⟨B, rfl, st3b HBW.out (by omega) (.slice (some ⟨B, 0, none⟩) 1 1) (.bool true) (.slice none 0 0), (st3k (by omega) (.slice (some ⟨B, 0, none⟩) 1 1) (.bool true) (.slice none 0 0)).trans HRW.out, by omega⟩
end Go.Proofs.YthbeempmdpfnmaaGreatDoor.T
