/- The document's Take: a key, what goes up, what does nothing. Conditions: those of each theorem's head. -/
import Derived.Test.YthbeempmdpfnmaaGreatDoorUb
import Derived.Test.YthbeempmdpfnmaaGreatDoorUs
namespace Go.Proofs.YthbeempmdpfnmaaGreatDoor.T
open Go.RowKit Go.Lib

def KF (k : Int) (b3 b6 b8 b9 b18 b19 : Bool) : Prop := (k == 3) = b3 ∧ (k == 6) = b6 ∧ (k == 8) = b8 ∧ (k == 9) = b9 ∧ (k == 18) = b18 ∧ (k == 19) = b19
def KO (k : Int) : Prop := k ≠ 3 ∧ k ≠ 6 ∧ k ≠ 8 ∧ k ≠ 9 ∧ k ≠ 18 ∧ k ≠ 19
theorem rpasses_any (k : Int) (w : World) : Calls Tryz.prog 51 #[.int .i64 k] w (Gives (.bool (upK k)) w) := by
  by_cases hm : k = 13 ∨ k = 14 ∨ k = 16 ∨ k = 18 ∨ k = 19 ∨ k = 25 ∨ k = 27 ∨ k = 29
  · rcases hm with rfl | rfl | rfl | rfl | rfl | rfl | rfl | rfl
    all_goals
      go_enter Tryz.func51, Tryz.ntmps51
      go_wp2_with fail
      go_ret
      exact ⟨rfl, Below.refl _ _⟩
  · have h0 := beqf (fun h => hm (by omega) : ¬ k = 13)
    have h1 := beqf (fun h => hm (by omega) : ¬ k = 14)
    have h2 := beqf (fun h => hm (by omega) : ¬ k = 16)
    have h3 := beqf (fun h => hm (by omega) : ¬ k = 18)
    have h4 := beqf (fun h => hm (by omega) : ¬ k = 19)
    have h5 := beqf (fun h => hm (by omega) : ¬ k = 25)
    have h6 := beqf (fun h => hm (by omega) : ¬ k = 27)
    have h7 := beqf (fun h => hm (by omega) : ¬ k = 29)
    have hq : upK k = false := by unfold upK; rw [h0, h1, h2, h3, h4, h5, h6, h7]; rfl
    rw [hq]
    clear hm hq
    go_enter Tryz.func51, Tryz.ntmps51
    go_wp2_with fail
    go_ret
    exact ⟨rfl, Below.refl _ _⟩
set_option maxRecDepth 100000 in
set_option maxHeartbeats 8000000 in
theorem rtake_key (s : Ss) (n : Nt) (ai az : Option Addr) (ci cz : Nat) (w : World) (h1 : s.n.size ≤ 1000000) (h2 : s.d.size ≤ 20000) (h3 : n.d.size ≤ 20000) (hk : n.k = 6) : Calls Tryz.prog 25 #[.agg #[.int .i64 1, .string s.n, .string s.d, .int .i64 s.s, .int .i64 s.t, .int .i64 s.c, .int .i64 s.h, .int .i64 s.a, .int .i64 s.e], .agg #[.int .i64 n.k, .string n.n, .string n.x, .string n.d, .int .i64 n.c, .int .i64 n.s, .int .i64 n.e, .int .i64 n.t, .bool n.o, .slice ai n.l.length ci, .slice az n.z.length cz]] w (StV ai az n ({ s with p := 2, h := 0, a := 0 }, ⟨[{ nK 7 with n := s.n, d := salt n.d s.d }], false, []⟩) w) := by
  have hu : undr 1 = true := rfl
  have q3 : (n.k == 3) = false := by rw [hk]; rfl
  have q6 : (n.k == 6) = true := by rw [hk]; rfl
  have q8 : (n.k == 8) = false := by rw [hk]; rfl
  have q9 : (n.k == 9) = false := by rw [hk]; rfl
  have q18 : (n.k == 18) = false := by rw [hk]; rfl
  have q19 : (n.k == 19) = false := by rw [hk]; rfl
  clear hk
  have CS : Hid (∀ W, Calls Tryz.prog 50 #[.string n.d, .string s.d] W (Gives (.string (salt n.d s.d)) W)) := Lib.hid fun W => rsalted_any n.d s.d W (by omega) (by omega)
  have hsz := salt_size n.d s.d
  generalize salt n.d s.d = SL at CS hsz ⊢
  clear h2 h3
  have CU : Hid (∀ W, Calls Tryz.prog 49 #[.agg #[.int .i64 1, .string s.n, .string s.d, .int .i64 s.s, .int .i64 s.t, .int .i64 s.c, .int .i64 s.h, .int .i64 s.a, .int .i64 s.e]] W (Gives (.bool true) W)) := fun W => by
    have q := rundr_any { s with p := 1 } W
    rw [show undr _ = true from hu] at q
    exact q
  clear hu
  obtain ⟨HB, HX, HN, HZ, HO⟩ := bxFour w #[.int .i64 1, .string s.n, .string s.d, .int .i64 s.s, .int .i64 s.t, .int .i64 s.c, .int .i64 s.h, .int .i64 s.a, .int .i64 s.e] 28 #[.int .i64 n.k, .string n.n, .string n.x, .string n.d, .int .i64 n.c, .int .i64 n.s, .int .i64 n.e, .int .i64 n.t, .bool n.o, .slice ai n.l.length ci, .slice az n.z.length cz] 42 #[.int .i64 0, .string ⟨#[]⟩, .string ⟨#[]⟩, .int .i64 0, .int .i64 0, .int .i64 0, .int .i64 0, .int .i64 0, .int .i64 0] 28 #[.slice none 0 0, .bool false, .slice none 0 0] 31
  obtain ⟨m0, m1, m2, m3, m4, m5, m6, m7, m8⟩ := bx9 HX.out
  go_enter Tryz.func25, Tryz.ntmps25
  go_wp2_with fail
  refine (CU.out _).mono ?_
  rintro e w1 ⟨rfl, hb⟩
  clear m0 m1 m2 m3 m4 m5 m6 m7 m8
  have HX1 := kpB hb HX
  have HN1 := kpB hb HN
  have HZ1 := kpB hb HZ
  have HO1 := kpB hb HO
  have HB1 := Lib.hid (HB.out.trans (hb.mono HB.out.size))
  clear hb HB HX HN HZ HO CU
  obtain ⟨m0, m1, m2, m3, m4, m5, m6, m7, m8⟩ := bx9 HX1.out
  obtain ⟨k0, k1, k2, k3, k4, k5, k6, k7, k8, k9, k10⟩ := bx11 HN1.out
  obtain ⟨f0, f1, f2, f3, f4, f5, f6, f7, f8⟩ := bx9f HX1.out
  have hPx : w.heap.size + 3 < w1.heap.size := heap_lt HO1.out
  go_upto_region 4 with fail
  clear m0 m1 m2 m3 m4 m5 m6 m7 m8 f0 f1 f2 f3 f4 f5 f6 f7 f8
  clear k0 k1 k2 k3 k4 k5 k6 k7 k8 k9 k10
  have HX2 : Hid ((w1.setCell ⟨w.heap.size, 6, none⟩ (.int .i64 0)).heap[w.heap.size]? = some (.cells #[.int .i64 1, .string s.n, .string s.d, .int .i64 s.s, .int .i64 s.t, .int .i64 s.c, .int .i64 0, .int .i64 s.a, .int .i64 s.e] 28 (0, 0))) := by
    show _ = _
    simp [World.setCell, Array.getElem?_modify, HX1.out]
  have HN2 := Lib.hid (kp1 (A := w.heap.size) (i := 6) (u := .int .i64 0) (b := w.heap.size + 1) (by omega) HN1.out)
  have HZ2 := Lib.hid (kp1 (A := w.heap.size) (i := 6) (u := .int .i64 0) (b := w.heap.size + 2) (by omega) HZ1.out)
  have HO2 := Lib.hid (kp1 (A := w.heap.size) (i := 6) (u := .int .i64 0) (b := w.heap.size + 3) (by omega) HO1.out)
  have HB2 := Lib.hid (HB1.out.setCell (p := ⟨w.heap.size, 6, none⟩) (Nat.le_refl _) (.int .i64 0))
  clear HX1 HN1 HZ1 HO1 HB1 hPx
  generalize (w1.setCell ⟨w.heap.size, 6, none⟩ (.int .i64 0)) = w2 at HX2 HN2 HZ2 HO2 HB2 ⊢
  obtain ⟨HD3, HBp⟩ := bxOne w2 #[.slice none 0 0, .bool false, .slice none 0 0] 31
  have HX3 := kpB HBp.out HX2
  have HN3 := kpB HBp.out HN2
  have HZ3 := kpB HBp.out HZ2
  have HO3 := kpB HBp.out HO2
  have HB3 := Lib.hid (HB2.out.trans (HBp.out.mono HB2.out.size))
  have hPy : w.heap.size + 3 < w2.heap.size := heap_lt HO2.out
  go_upto_region 5 with fail
  clear HX2 HN2 HZ2 HO2 HB2 HBp
  generalize (w2.alloc (.cells #[.slice none 0 0, .bool false, .slice none 0 0] 31)) = w3 at HX3 HN3 HZ3 HO3 HD3 HB3 ⊢
  generalize w2.heap.size = A6 at hPy HD3 ⊢
  have hA3 : A6 < w3.heap.size := heap_lt HD3.out
  obtain ⟨m0, m1, m2, m3, m4, m5, m6, m7, m8⟩ := bx9 HX3.out
  obtain ⟨k0, k1, k2, k3, k4, k5, k6, k7, k8, k9, k10⟩ := bx11 HN3.out
  obtain ⟨d0, d1, d2⟩ := bx3 HD3.out
  obtain ⟨f0, f1, f2, f3, f4, f5, f6, f7, f8⟩ := bx9f HX3.out
  go_upto_region 10 with fail
  clear f0 f1 f2 f3 f4 f5 f6 f7 f8
  have HX4 : Hid ((w3.setCell ⟨w.heap.size, 0, none⟩ (.int .i64 2)).heap[w.heap.size]? = some (.cells #[.int .i64 2, .string s.n, .string s.d, .int .i64 s.s, .int .i64 s.t, .int .i64 s.c, .int .i64 0, .int .i64 s.a, .int .i64 s.e] 28 (0, 0))) := by
    show _ = _
    simp only [World.setCell, Array.getElem?_modify, HX3.out]
    simp
  have HN4 := Lib.hid (kp1 (A := w.heap.size) (i := 0) (u := .int .i64 2) (b := w.heap.size + 1) (by omega) HN3.out)
  have HZ4 := Lib.hid (kp1 (A := w.heap.size) (i := 0) (u := .int .i64 2) (b := w.heap.size + 2) (by omega) HZ3.out)
  have HO4 := Lib.hid (kp1 (A := w.heap.size) (i := 0) (u := .int .i64 2) (b := w.heap.size + 3) (by omega) HO3.out)
  have HD4 := Lib.hid (kp1 (A := w.heap.size) (i := 0) (u := .int .i64 2) (b := A6) (by omega) HD3.out)
  have HB4 := Lib.hid (HB3.out.setCell (p := ⟨w.heap.size, 0, none⟩) (show w.heap.size ≤ w.heap.size by omega) (.int .i64 2))
  clear m0 m1 m2 m3 m4 m5 m6 m7 m8
  clear k0 k1 k2 k3 k4 k5 k6 k7 k8 k9 k10
  clear d0 d1 d2
  clear hA3
  clear HX3 HN3 HZ3 HO3 HD3 HB3
  generalize (w3.setCell ⟨w.heap.size, 0, none⟩ (.int .i64 2)) = w4 at HX4 HN4 HZ4 HO4 HD4 HB4 ⊢
  have hA4 : A6 < w4.heap.size := heap_lt HD4.out
  obtain ⟨m0, m1, m2, m3, m4, m5, m6, m7, m8⟩ := bx9 HX4.out
  obtain ⟨k0, k1, k2, k3, k4, k5, k6, k7, k8, k9, k10⟩ := bx11 HN4.out
  obtain ⟨d0, d1, d2⟩ := bx3 HD4.out
  clear m0 m1 m2 m3 m4 m5 m6 m7 m8
  clear k0 k1 k2 k3 k4 k5 k6 k7 k8 k9 k10
  clear d0 d1 d2
  clear hA4
  refine region_psi 10 (fun j => [35, 36, 37, 38, 39, 40, 41, 42, 43, 44].getD j 0) (psL [Pr.eq (.pointer (some ⟨w.heap.size, 1, none⟩)), Pr.eq (.string s.n), Pr.eq (.pointer (some ⟨w.heap.size + 1, 3, none⟩)), Pr.eq (.string n.d), Pr.eq (.pointer (some ⟨w.heap.size, 2, none⟩)), Pr.eq (.string s.d), Pr.eq (.string SL), Pr.eq (.agg #[.int .i64 7, .string s.n, .string ⟨#[]⟩, .string SL, .int .i64 0, .int .i64 0, .int .i64 0, .int .i64 0, .bool false, .slice none 0 0, .slice none 0 0]), Pr.ex (w4.heap.size) #[.int .i64 7, .string s.n, .string ⟨#[]⟩, .string SL, .int .i64 0, .int .i64 0, .int .i64 0, .int .i64 0, .bool false, .slice none 0 0, .slice none 0 0] 42 (fun B => .slice (some ⟨B, 0, none⟩) 1 1), Pr.eq (.pointer (some ⟨A6, 0, none⟩))]) (by kernel_rfl) (by kernel_rfl) (by kernel_rfl) (by kernel_rfl) (by decide) (by kernel_rfl) (by kernel_rfl) (psL_mono _) ?_ ?_
  · intro i o hi ho q W hsz hout hbel hdep
    have HXW := kpB hbel HX4
    obtain ⟨x0, x1, x2, x3, x4, x5, x6, x7, x8⟩ := bx9 HXW.out
    have HNW := kpB hbel HN4
    obtain ⟨y0, y1, y2, y3, y4, y5, y6, y7, y8, y9, y10⟩ := bx11 HNW.out
    have HDW := kpB hbel HD4
    obtain ⟨v0, v1, v2⟩ := bx3 HDW.out
    have hc : i = 0 ∨ i = 1 ∨ i = 2 ∨ i = 3 ∨ i = 4 ∨ i = 5 ∨ i = 6 ∨ i = 7 ∨ i = 8 ∨ i = 9 := by omega
    rcases hc with rfl | rfl | rfl | rfl | rfl | rfl | rfl | rfl | rfl | rfl
    · -- 0
      cases ho
      have e2 : q.eval (.tmp 2) = .pointer (some ⟨w.heap.size, 0, none⟩) := (hout 2 (by decide)).trans rfl
      refine gives_read (v := .pointer (some ⟨w.heap.size, 1, none⟩)) ?_ rfl
      unfold execOp
      dsimp only
      rw [e2]
      go_simp
    · -- 1
      cases ho
      have e35 : q.eval (.tmp 35) = .pointer (some ⟨w.heap.size, 1, none⟩) := hdep ⟨0, .data⟩ (by simp) rfl (by decide)
      refine gives_read (v := .string s.n) ?_ rfl
      unfold execOp
      dsimp only
      rw [e35]
      go_simp
    · -- 2
      cases ho
      have e3 : q.eval (.tmp 3) = .pointer (some ⟨w.heap.size + 1, 0, none⟩) := (hout 3 (by decide)).trans rfl
      refine gives_read (v := .pointer (some ⟨w.heap.size + 1, 3, none⟩)) ?_ rfl
      unfold execOp
      dsimp only
      rw [e3]
      go_simp
    · -- 3
      cases ho
      have e37 : q.eval (.tmp 37) = .pointer (some ⟨w.heap.size + 1, 3, none⟩) := hdep ⟨2, .data⟩ (by simp) rfl (by decide)
      refine gives_read (v := .string n.d) ?_ rfl
      unfold execOp
      dsimp only
      rw [e37]
      go_simp
    · -- 4
      cases ho
      have e2 : q.eval (.tmp 2) = .pointer (some ⟨w.heap.size, 0, none⟩) := (hout 2 (by decide)).trans rfl
      refine gives_read (v := .pointer (some ⟨w.heap.size, 2, none⟩)) ?_ rfl
      unfold execOp
      dsimp only
      rw [e2]
      go_simp
    · -- 5
      cases ho
      have e39 : q.eval (.tmp 39) = .pointer (some ⟨w.heap.size, 2, none⟩) := hdep ⟨4, .data⟩ (by simp) rfl (by decide)
      refine gives_read (v := .string s.d) ?_ rfl
      unfold execOp
      dsimp only
      rw [e39]
      go_simp
    · -- 6
      cases ho
      have e38 : q.eval (.tmp 38) = .string n.d := hdep ⟨3, .data⟩ (by simp) rfl (by decide)
      have e40 : q.eval (.tmp 40) = .string s.d := hdep ⟨5, .data⟩ (by simp) rfl (by decide)
      refine gives_call (f := 50) (args := #[.string n.d, .string s.d]) ?_ ((CS.out W).mono ?_)
      · unfold execOp
        dsimp only
        simp only [resolve, List.map_toArray, List.map_cons, List.map_nil, e38, e40]
        go_simp
      · rintro e W' ⟨rfl, hb⟩
        exact ⟨_, rfl, hb, rfl⟩
    · -- 7
      cases ho
      have e36 : q.eval (.tmp 36) = .string s.n := hdep ⟨1, .data⟩ (by simp) rfl (by decide)
      have e41 : q.eval (.tmp 41) = .string SL := hdep ⟨6, .data⟩ (by simp) rfl (by decide)
      refine gives_read (v := .agg #[.int .i64 7, .string s.n, .string ⟨#[]⟩, .string SL, .int .i64 0, .int .i64 0, .int .i64 0, .int .i64 0, .bool false, .slice none 0 0, .slice none 0 0]) ?_ rfl
      unfold execOp
      dsimp only
      simp only [List.map_toArray, List.map_cons, List.map_nil, e36, e41]
      go_simp
    · -- 8
      cases ho
      have e42 : q.eval (.tmp 42) = .agg #[.int .i64 7, .string s.n, .string ⟨#[]⟩, .string SL, .int .i64 0, .int .i64 0, .int .i64 0, .int .i64 0, .bool false, .slice none 0 0, .slice none 0 0] := hdep ⟨7, .data⟩ (by simp) rfl (by decide)
      refine gives_run (W' := W.alloc (.cells #[.int .i64 7, .string s.n, .string ⟨#[]⟩, .string SL, .int .i64 0, .int .i64 0, .int .i64 0, .int .i64 0, .bool false, .slice none 0 0, .slice none 0 0] 42)) (v := .slice (some ⟨W.heap.size, 0, none⟩) 1 1) ?_ ((Below.refl _ W).alloc (Nat.le_refl _) _) ⟨_, rfl, hbel.size, box_new W _ _⟩
      unfold execOp
      dsimp only
      simp only [List.map_toArray, List.map_cons, List.map_nil, e42]
      go_simp
    · -- 9
      cases ho
      have e6 : q.eval (.tmp 6) = .pointer (some ⟨A6, 0, none⟩) := (hout 6 (by decide)).trans rfl
      refine gives_read (v := .pointer (some ⟨A6, 0, none⟩)) ?_ rfl
      unfold execOp
      dsimp only
      rw [e6]
      go_simp
  · intro q W hq hbel hv
    obtain ⟨R1, e43, hB, hBB⟩ : ∃ B : Nat, q.eval (.tmp 43) = .slice (some ⟨B, 0, none⟩) 1 1 ∧ w4.heap.size ≤ B ∧ W.heap[B]? = some (.cells #[.int .i64 7, .string s.n, .string ⟨#[]⟩, .string SL, .int .i64 0, .int .i64 0, .int .i64 0, .int .i64 0, .bool false, .slice none 0 0, .slice none 0 0] 42 (0, 0)) := hv 8 (by decide)
    have e44 : q.eval (.tmp 44) = .pointer (some ⟨A6, 0, none⟩) := hv 9 (by decide)
    have HX5 := kpB hbel HX4
    have HN5 := kpB hbel HN4
    have HZ5 := kpB hbel HZ4
    have HO5 := kpB hbel HO4
    have HD5 := kpB hbel HD4
    have HB5 := Lib.hid (HB4.out.trans (hbel.mono HB4.out.size))
    have hR1 : A6 < R1 := Nat.lt_of_lt_of_le (heap_lt HD4.out) hB
    have HR15 := Lib.hid hBB
    clear hB hBB hbel HX4 HN4 HZ4 HO4 HD4 HB4
    have hq2 : q = canonL q [35, 36, 37, 38, 39, 40, 41, 42, 43, 44] _ := hq
    simp only [canonL] at hq2
    rw [e43, e44] at hq2
    clear hq hv e43 e44
    generalize q.eval (.tmp 35) = u35 at hq2
    generalize q.eval (.tmp 36) = u36 at hq2
    generalize q.eval (.tmp 37) = u37 at hq2
    generalize q.eval (.tmp 38) = u38 at hq2
    generalize q.eval (.tmp 39) = u39 at hq2
    generalize q.eval (.tmp 40) = u40 at hq2
    generalize q.eval (.tmp 41) = u41 at hq2
    generalize q.eval (.tmp 42) = u42 at hq2
    subst hq2
    generalize W = w5 at HX5 HN5 HZ5 HO5 HD5 HB5 HR15 ⊢
    have hA5 : A6 < w5.heap.size := heap_lt HD5.out
    obtain ⟨m0, m1, m2, m3, m4, m5, m6, m7, m8⟩ := bx9 HX5.out
    obtain ⟨k0, k1, k2, k3, k4, k5, k6, k7, k8, k9, k10⟩ := bx11 HN5.out
    obtain ⟨d0, d1, d2⟩ := bx3 HD5.out
    have hR1' := hR1
    clear hR1'
    simp only [List.drop_succ_cons, List.drop_zero]
    obtain ⟨f0, f1, f2⟩ := bx3f HD5.out
    go_upto_region 27 with fail
    clear f0 f1 f2
    have HD6 : Hid ((w5.setCell ⟨A6, 0, none⟩ (.slice (some ⟨R1, 0, none⟩) 1 1)).heap[A6]? = some (.cells #[.slice (some ⟨R1, 0, none⟩) 1 1, .bool false, .slice none 0 0] 31 (0, 0))) := by
      show _ = _
      simp only [World.setCell, Array.getElem?_modify, HD5.out]
      simp
    have HX6 := Lib.hid (kp1 (A := A6) (i := 0) (u := .slice (some ⟨R1, 0, none⟩) 1 1) (b := w.heap.size) (by omega) HX5.out)
    have HN6 := Lib.hid (kp1 (A := A6) (i := 0) (u := .slice (some ⟨R1, 0, none⟩) 1 1) (b := w.heap.size + 1) (by omega) HN5.out)
    have HZ6 := Lib.hid (kp1 (A := A6) (i := 0) (u := .slice (some ⟨R1, 0, none⟩) 1 1) (b := w.heap.size + 2) (by omega) HZ5.out)
    have HO6 := Lib.hid (kp1 (A := A6) (i := 0) (u := .slice (some ⟨R1, 0, none⟩) 1 1) (b := w.heap.size + 3) (by omega) HO5.out)
    have HR16 := Lib.hid (kp1 (A := A6) (i := 0) (u := .slice (some ⟨R1, 0, none⟩) 1 1) (b := R1) (by omega) HR15.out)
    have HB6 := Lib.hid (HB5.out.setCell (p := ⟨A6, 0, none⟩) (show w.heap.size ≤ A6 by omega) (.slice (some ⟨R1, 0, none⟩) 1 1))
    clear m0 m1 m2 m3 m4 m5 m6 m7 m8
    clear k0 k1 k2 k3 k4 k5 k6 k7 k8 k9 k10
    clear d0 d1 d2
    clear hA5
    clear HX5 HN5 HZ5 HO5 HD5 HR15 HB5
    generalize (w5.setCell ⟨A6, 0, none⟩ (.slice (some ⟨R1, 0, none⟩) 1 1)) = w6 at HX6 HN6 HZ6 HO6 HD6 HR16 HB6 ⊢
    have hA6 : A6 < w6.heap.size := heap_lt HD6.out
    obtain ⟨m0, m1, m2, m3, m4, m5, m6, m7, m8⟩ := bx9 HX6.out
    obtain ⟨k0, k1, k2, k3, k4, k5, k6, k7, k8, k9, k10⟩ := bx11 HN6.out
    obtain ⟨d0, d1, d2⟩ := bx3 HD6.out
    obtain ⟨f0, f1, f2, f3, f4, f5, f6, f7, f8⟩ := bx9f HX6.out
    go_upto_region 29 with fail
    clear f0 f1 f2 f3 f4 f5 f6 f7 f8
    have HX7 : Hid ((w6.setCell ⟨w.heap.size, 7, none⟩ (.int .i64 0)).heap[w.heap.size]? = some (.cells #[.int .i64 2, .string s.n, .string s.d, .int .i64 s.s, .int .i64 s.t, .int .i64 s.c, .int .i64 0, .int .i64 0, .int .i64 s.e] 28 (0, 0))) := by
      show _ = _
      simp only [World.setCell, Array.getElem?_modify, HX6.out]
      simp
    have HN7 := Lib.hid (kp1 (A := w.heap.size) (i := 7) (u := .int .i64 0) (b := w.heap.size + 1) (by omega) HN6.out)
    have HZ7 := Lib.hid (kp1 (A := w.heap.size) (i := 7) (u := .int .i64 0) (b := w.heap.size + 2) (by omega) HZ6.out)
    have HO7 := Lib.hid (kp1 (A := w.heap.size) (i := 7) (u := .int .i64 0) (b := w.heap.size + 3) (by omega) HO6.out)
    have HD7 := Lib.hid (kp1 (A := w.heap.size) (i := 7) (u := .int .i64 0) (b := A6) (by omega) HD6.out)
    have HR17 := Lib.hid (kp1 (A := w.heap.size) (i := 7) (u := .int .i64 0) (b := R1) (by omega) HR16.out)
    have HB7 := Lib.hid (HB6.out.setCell (p := ⟨w.heap.size, 7, none⟩) (show w.heap.size ≤ w.heap.size by omega) (.int .i64 0))
    clear m0 m1 m2 m3 m4 m5 m6 m7 m8
    clear k0 k1 k2 k3 k4 k5 k6 k7 k8 k9 k10
    clear d0 d1 d2
    clear hA6
    clear HX6 HN6 HZ6 HO6 HD6 HR16 HB6
    generalize (w6.setCell ⟨w.heap.size, 7, none⟩ (.int .i64 0)) = w7 at HX7 HN7 HZ7 HO7 HD7 HR17 HB7 ⊢
    have hA7 : A6 < w7.heap.size := heap_lt HD7.out
    obtain ⟨m0, m1, m2, m3, m4, m5, m6, m7, m8⟩ := bx9 HX7.out
    obtain ⟨k0, k1, k2, k3, k4, k5, k6, k7, k8, k9, k10⟩ := bx11 HN7.out
    obtain ⟨d0, d1, d2⟩ := bx3 HD7.out
    clear m0 m1 m2 m3 m4 m5 m6 m7 m8
    clear k0 k1 k2 k3 k4 k5 k6 k7 k8 k9 k10
    clear d0 d1 d2
    clear hA7
    have hZN : w.heap.size + 1 + 1 < w7.heap.size := heap_lt HZ7.out
    have hAN : A6 < w7.heap.size := heap_lt HD7.out
    refine region_Z (w := w) (Z := w.heap.size + 1 + 1) 3 2 (fun j => [140, 141, 100002].getD j 0) [140, 141] [.eq (.agg #[.int .i64 2, .string s.n, .string s.d, .int .i64 s.s, .int .i64 s.t, .int .i64 s.c, .int .i64 0, .int .i64 0, .int .i64 s.e]), .eq (.agg #[.slice (some ⟨R1, 0, none⟩) 1 1, .bool false, .slice none 0 0]), .st #[.int .i64 2, .string s.n, .string s.d, .int .i64 s.s, .int .i64 s.t, .int .i64 s.c, .int .i64 0, .int .i64 0, .int .i64 s.e]] (by kernel_rfl) (by kernel_rfl) (by kernel_rfl) (by kernel_rfl) (by decide) (by kernel_rfl) (by kernel_rfl) (by kernel_rfl) (by kernel_rfl) (fun h => absurd (show 2 < 3 by decide) h) HB7.out HZ7.out ?_ ?_
    · intro i o hi ho q W hsz hout hJ hZ0 hdep
      have HXW := oldJ hJ (by omega) HX7
      obtain ⟨x0, x1, x2, x3, x4, x5, x6, x7, x8⟩ := bx9 HXW.out
      have HDW := oldJ hJ (by omega) HD7
      obtain ⟨y0, y1, y2⟩ := bx3 HDW.out
      have hc : i = 0 ∨ i = 1 ∨ i = 2 := by omega
      rcases hc with rfl | rfl | rfl
      · -- 0
        cases ho
        refine plainR (by decide) ?_
        have e2 : q.eval (.tmp 2) = .pointer (some ⟨w.heap.size, 0, none⟩) := (hout 2 (by decide)).trans rfl
        refine gives_read (v := .agg #[.int .i64 2, .string s.n, .string s.d, .int .i64 s.s, .int .i64 s.t, .int .i64 s.c, .int .i64 0, .int .i64 0, .int .i64 s.e]) ?_ rfl
        unfold execOp
        dsimp only
        rw [e2]
        go_simp
      · -- 1
        cases ho
        refine plainR (by decide) ?_
        have e6 : q.eval (.tmp 6) = .pointer (some ⟨A6, 0, none⟩) := (hout 6 (by decide)).trans rfl
        refine gives_read (v := .agg #[.slice (some ⟨R1, 0, none⟩) 1 1, .bool false, .slice none 0 0]) ?_ rfl
        unfold execOp
        dsimp only
        rw [e6]
        go_simp
      · -- 2
        cases ho
        have e4 : q.eval (.tmp 4) = .pointer (some ⟨w.heap.size + 1 + 1, 0, none⟩) := (hout 4 (by decide)).trans rfl
        have e140 : q.eval (.tmp 140) = .agg #[.int .i64 2, .string s.n, .string s.d, .int .i64 s.s, .int .i64 s.t, .int .i64 s.c, .int .i64 0, .int .i64 0, .int .i64 s.e] := hdep ⟨0, .data⟩ (by simp) rfl (by decide)
        have hz := hZ0 (by kernel_rfl)
        obtain ⟨zc0, zc1, zc2, zc3, zc4, zc5, zc6, zc7, zc8⟩ := bx9 hz
        obtain ⟨zf0, zf1, zf2, zf3, zf4, zf5, zf6, zf7, zf8⟩ := bx9f hz
        refine givesR_skip ?_ (stZ_of (by omega) hz (.int .i64 2) (.string s.n) (.string s.d) (.int .i64 s.s) (.int .i64 s.t) (.int .i64 s.c) (.int .i64 0) (.int .i64 0) (.int .i64 s.e)) (st9 hz (.int .i64 2) (.string s.n) (.string s.d) (.int .i64 s.s) (.int .i64 s.t) (.int .i64 s.c) (.int .i64 0) (.int .i64 0) (.int .i64 s.e))
        unfold execOp
        dsimp only
        rw [e4, e140]
        go_simp
    · intro q W hq hJ hv
      have e141 : q.eval (.tmp 141) = .agg #[.slice (some ⟨R1, 0, none⟩) 1 1, .bool false, .slice none 0 0] := hv 1 (by decide)
      have hZW : W.heap[w.heap.size + 1 + 1]? = some (.cells #[.int .i64 2, .string s.n, .string s.d, .int .i64 s.s, .int .i64 s.t, .int .i64 s.c, .int .i64 0, .int .i64 0, .int .i64 s.e] 28 (0, 0)) := hv 2 (by decide)
      have HBW := Lib.hid hJ.bel
      have HOW := oldJ hJ (by omega) HO7
      have HZW := Lib.hid hZW
      have HR1W := oldJ hJ (by omega) HR17
      clear hJ hZW HX7 HN7 HZ7 HO7 HD7 HR17
      have hq2 : q = canonL q [140, 141] _ := hq
      simp only [canonL] at hq2
      rw [e141] at hq2
      clear hq hv e141
      generalize q.eval (.tmp 140) = u140 at hq2
      subst hq2
      obtain ⟨y0, y1, y2⟩ := bx3 HOW.out
      obtain ⟨v0, v1, v2⟩ := bx3f HOW.out
      simp only [List.drop_succ_cons, List.drop_zero]
      go_wp2_with fail
      exact bodyPost_ret (results_two Tryz.results25 _ _ (w.heap.size + 2) (w.heap.size + 3) _ _ rfl rfl (load_s ((st3k (by omega) (.slice (some ⟨R1, 0, none⟩) 1 1) (.bool false) (.slice none 0 0)).trans HZW.out)) (load_o (st3 HOW.out (.slice (some ⟨R1, 0, none⟩) 1 1) (.bool false) (.slice none 0 0)))) rfl ⟨some ⟨R1, 0, none⟩, none, 1, 0, rfl, st3b HBW.out (by omega) (.slice (some ⟨R1, 0, none⟩) 1 1) (.bool false) (.slice none 0 0), fr_one { nK 7 with n := s.n, d := SL } (by omega) ((st3k (by omega) (.slice (some ⟨R1, 0, none⟩) 1 1) (.bool false) (.slice none 0 0)).trans HR1W.out) (fun _ _ => ntl_plain _ rfl rfl h1 (Nat.zero_le _) (by show SL.size ≤ _; omega)), (fr_nil _ _ _).v⟩
set_option maxRecDepth 100000 in
set_option maxHeartbeats 8000000 in
theorem rtake_n1 (s : Ss) (n : Nt) (ai az : Option Addr) (ci cz : Nat) (w : World) (hk : n.k = 8 ∨ n.k = 9 ∨ n.k = 18 ∨ n.k = 19 ∨ KO n.k)  : Calls Tryz.prog 25 #[.agg #[.int .i64 1, .string s.n, .string s.d, .int .i64 s.s, .int .i64 s.t, .int .i64 s.c, .int .i64 s.h, .int .i64 s.a, .int .i64 s.e], .agg #[.int .i64 n.k, .string n.n, .string n.x, .string n.d, .int .i64 n.c, .int .i64 n.s, .int .i64 n.e, .int .i64 n.t, .bool n.o, .slice ai n.l.length ci, .slice az n.z.length cz]] w (StV ai az n ({ s with p := 1, h := 0 }, zO) w) := by
  have hK : KF n.k false false true false false false ∨ KF n.k false false false true false false ∨ KF n.k false false false false true false ∨ KF n.k false false false false false true ∨ KF n.k false false false false false false := by
    rcases hk with h | h | h | h | h
    · exact (.inl ⟨by rw [h]; rfl, by rw [h]; rfl, by rw [h]; rfl, by rw [h]; rfl, by rw [h]; rfl, by rw [h]; rfl⟩)
    · exact (.inr (.inl ⟨by rw [h]; rfl, by rw [h]; rfl, by rw [h]; rfl, by rw [h]; rfl, by rw [h]; rfl, by rw [h]; rfl⟩))
    · exact (.inr (.inr (.inl ⟨by rw [h]; rfl, by rw [h]; rfl, by rw [h]; rfl, by rw [h]; rfl, by rw [h]; rfl, by rw [h]; rfl⟩)))
    · exact (.inr (.inr (.inr (.inl ⟨by rw [h]; rfl, by rw [h]; rfl, by rw [h]; rfl, by rw [h]; rfl, by rw [h]; rfl, by rw [h]; rfl⟩))))
    · exact (.inr (.inr (.inr (.inr (⟨beqf h.1, beqf h.2.1, beqf h.2.2.1, beqf h.2.2.2.1, beqf h.2.2.2.2.1, beqf h.2.2.2.2.2⟩)))))
  clear hk
  rcases hK with ⟨q3, q6, q8, q9, q18, q19⟩ | ⟨q3, q6, q8, q9, q18, q19⟩ | ⟨q3, q6, q8, q9, q18, q19⟩ | ⟨q3, q6, q8, q9, q18, q19⟩ | ⟨q3, q6, q8, q9, q18, q19⟩
  all_goals
    have hu : undr 1 = true := rfl
    have CU : Hid (∀ W, Calls Tryz.prog 49 #[.agg #[.int .i64 1, .string s.n, .string s.d, .int .i64 s.s, .int .i64 s.t, .int .i64 s.c, .int .i64 s.h, .int .i64 s.a, .int .i64 s.e]] W (Gives (.bool true) W)) := fun W => by
      have q := rundr_any { s with p := 1 } W
      rw [show undr _ = true from hu] at q
      exact q
    clear hu
    obtain ⟨HB, HX, HN, HZ, HO⟩ := bxFour w #[.int .i64 1, .string s.n, .string s.d, .int .i64 s.s, .int .i64 s.t, .int .i64 s.c, .int .i64 s.h, .int .i64 s.a, .int .i64 s.e] 28 #[.int .i64 n.k, .string n.n, .string n.x, .string n.d, .int .i64 n.c, .int .i64 n.s, .int .i64 n.e, .int .i64 n.t, .bool n.o, .slice ai n.l.length ci, .slice az n.z.length cz] 42 #[.int .i64 0, .string ⟨#[]⟩, .string ⟨#[]⟩, .int .i64 0, .int .i64 0, .int .i64 0, .int .i64 0, .int .i64 0, .int .i64 0] 28 #[.slice none 0 0, .bool false, .slice none 0 0] 31
    obtain ⟨m0, m1, m2, m3, m4, m5, m6, m7, m8⟩ := bx9 HX.out
    go_enter Tryz.func25, Tryz.ntmps25
    go_wp2_with fail
    refine (CU.out _).mono ?_
    rintro e w1 ⟨rfl, hb⟩
    clear m0 m1 m2 m3 m4 m5 m6 m7 m8
    have HX1 := kpB hb HX
    have HN1 := kpB hb HN
    have HZ1 := kpB hb HZ
    have HO1 := kpB hb HO
    have HB1 := Lib.hid (HB.out.trans (hb.mono HB.out.size))
    clear hb HB HX HN HZ HO CU
    obtain ⟨m0, m1, m2, m3, m4, m5, m6, m7, m8⟩ := bx9 HX1.out
    obtain ⟨k0, k1, k2, k3, k4, k5, k6, k7, k8, k9, k10⟩ := bx11 HN1.out
    obtain ⟨f0, f1, f2, f3, f4, f5, f6, f7, f8⟩ := bx9f HX1.out
    have hPx : w.heap.size + 3 < w1.heap.size := heap_lt HO1.out
    go_upto_region 4 with fail
    clear m0 m1 m2 m3 m4 m5 m6 m7 m8 f0 f1 f2 f3 f4 f5 f6 f7 f8
    clear k0 k1 k2 k3 k4 k5 k6 k7 k8 k9 k10
    have HX2 : Hid ((w1.setCell ⟨w.heap.size, 6, none⟩ (.int .i64 0)).heap[w.heap.size]? = some (.cells #[.int .i64 1, .string s.n, .string s.d, .int .i64 s.s, .int .i64 s.t, .int .i64 s.c, .int .i64 0, .int .i64 s.a, .int .i64 s.e] 28 (0, 0))) := by
      show _ = _
      simp [World.setCell, Array.getElem?_modify, HX1.out]
    have HN2 := Lib.hid (kp1 (A := w.heap.size) (i := 6) (u := .int .i64 0) (b := w.heap.size + 1) (by omega) HN1.out)
    have HZ2 := Lib.hid (kp1 (A := w.heap.size) (i := 6) (u := .int .i64 0) (b := w.heap.size + 2) (by omega) HZ1.out)
    have HO2 := Lib.hid (kp1 (A := w.heap.size) (i := 6) (u := .int .i64 0) (b := w.heap.size + 3) (by omega) HO1.out)
    have HB2 := Lib.hid (HB1.out.setCell (p := ⟨w.heap.size, 6, none⟩) (Nat.le_refl _) (.int .i64 0))
    clear HX1 HN1 HZ1 HO1 HB1 hPx
    generalize (w1.setCell ⟨w.heap.size, 6, none⟩ (.int .i64 0)) = w2 at HX2 HN2 HZ2 HO2 HB2 ⊢
    obtain ⟨HD3, HBp⟩ := bxOne w2 #[.slice none 0 0, .bool false, .slice none 0 0] 31
    have HX3 := kpB HBp.out HX2
    have HN3 := kpB HBp.out HN2
    have HZ3 := kpB HBp.out HZ2
    have HO3 := kpB HBp.out HO2
    have HB3 := Lib.hid (HB2.out.trans (HBp.out.mono HB2.out.size))
    have hPy : w.heap.size + 3 < w2.heap.size := heap_lt HO2.out
    go_upto_region 5 with fail
    clear HX2 HN2 HZ2 HO2 HB2 HBp
    generalize (w2.alloc (.cells #[.slice none 0 0, .bool false, .slice none 0 0] 31)) = w3 at HX3 HN3 HZ3 HO3 HD3 HB3 ⊢
    generalize w2.heap.size = A6 at hPy HD3 ⊢
    have hA3 : A6 < w3.heap.size := heap_lt HD3.out
    obtain ⟨m0, m1, m2, m3, m4, m5, m6, m7, m8⟩ := bx9 HX3.out
    obtain ⟨k0, k1, k2, k3, k4, k5, k6, k7, k8, k9, k10⟩ := bx11 HN3.out
    obtain ⟨d0, d1, d2⟩ := bx3 HD3.out
    go_upto_region 11 with fail
    have r0 : ∀ y : Ext w3, y.to.cell? _ = _ := fun y => ext_cell y k0
    have r1 : ∀ y : Ext w3, y.to.cell? _ = _ := fun y => ext_cell y m0
    have hsome := extSome w3
    clear m0 m1 m2 m3 m4 m5 m6 m7 m8
    clear k0 k1 k2 k3 k4 k5 k6 k7 k8 k9 k10
    clear d0 d1 d2
    clear hA3
    refine ext_region (by kernel_rfl) (by kernel_rfl) ?_
    repeat (go_big_quiet_step (fail))
    refine wpQuiet_nil ?_
    rintro _ ⟨y, hy⟩
    subst hy
    have HX4 := kpB y.below HX3
    have HN4 := kpB y.below HN3
    have HZ4 := kpB y.below HZ3
    have HO4 := kpB y.below HO3
    have HD4 := kpB y.below HD3
    have HB4 := Lib.hid (HB3.out.trans (y.below.mono HB3.out.size))
    clear hsome r0 r1 HX3 HN3 HZ3 HO3 HD3 HB3
    generalize y.to = w4 at HX4 HN4 HZ4 HO4 HD4 HB4 ⊢
    clear y
    have hA4 : A6 < w4.heap.size := heap_lt HD4.out
    obtain ⟨m0, m1, m2, m3, m4, m5, m6, m7, m8⟩ := bx9 HX4.out
    obtain ⟨k0, k1, k2, k3, k4, k5, k6, k7, k8, k9, k10⟩ := bx11 HN4.out
    obtain ⟨d0, d1, d2⟩ := bx3 HD4.out
    go_upto_region 29 with fail
    clear m0 m1 m2 m3 m4 m5 m6 m7 m8
    clear k0 k1 k2 k3 k4 k5 k6 k7 k8 k9 k10
    clear d0 d1 d2
    clear hA4
    have hZN : w.heap.size + 1 + 1 < w4.heap.size := heap_lt HZ4.out
    have hAN : A6 < w4.heap.size := heap_lt HD4.out
    refine region_Z (w := w) (Z := w.heap.size + 1 + 1) 3 2 (fun j => [140, 141, 100002].getD j 0) [140, 141] [.eq (.agg #[.int .i64 1, .string s.n, .string s.d, .int .i64 s.s, .int .i64 s.t, .int .i64 s.c, .int .i64 0, .int .i64 s.a, .int .i64 s.e]), .eq (.agg #[.slice none 0 0, .bool false, .slice none 0 0]), .st #[.int .i64 1, .string s.n, .string s.d, .int .i64 s.s, .int .i64 s.t, .int .i64 s.c, .int .i64 0, .int .i64 s.a, .int .i64 s.e]] (by kernel_rfl) (by kernel_rfl) (by kernel_rfl) (by kernel_rfl) (by decide) (by kernel_rfl) (by kernel_rfl) (by kernel_rfl) (by kernel_rfl) (fun h => absurd (show 2 < 3 by decide) h) HB4.out HZ4.out ?_ ?_
    · intro i o hi ho q W hsz hout hJ hZ0 hdep
      have HXW := oldJ hJ (by omega) HX4
      obtain ⟨x0, x1, x2, x3, x4, x5, x6, x7, x8⟩ := bx9 HXW.out
      have HDW := oldJ hJ (by omega) HD4
      obtain ⟨y0, y1, y2⟩ := bx3 HDW.out
      have hc : i = 0 ∨ i = 1 ∨ i = 2 := by omega
      rcases hc with rfl | rfl | rfl
      · -- 0
        cases ho
        refine plainR (by decide) ?_
        have e2 : q.eval (.tmp 2) = .pointer (some ⟨w.heap.size, 0, none⟩) := (hout 2 (by decide)).trans rfl
        refine gives_read (v := .agg #[.int .i64 1, .string s.n, .string s.d, .int .i64 s.s, .int .i64 s.t, .int .i64 s.c, .int .i64 0, .int .i64 s.a, .int .i64 s.e]) ?_ rfl
        unfold execOp
        dsimp only
        rw [e2]
        go_simp
      · -- 1
        cases ho
        refine plainR (by decide) ?_
        have e6 : q.eval (.tmp 6) = .pointer (some ⟨A6, 0, none⟩) := (hout 6 (by decide)).trans rfl
        refine gives_read (v := .agg #[.slice none 0 0, .bool false, .slice none 0 0]) ?_ rfl
        unfold execOp
        dsimp only
        rw [e6]
        go_simp
      · -- 2
        cases ho
        have e4 : q.eval (.tmp 4) = .pointer (some ⟨w.heap.size + 1 + 1, 0, none⟩) := (hout 4 (by decide)).trans rfl
        have e140 : q.eval (.tmp 140) = .agg #[.int .i64 1, .string s.n, .string s.d, .int .i64 s.s, .int .i64 s.t, .int .i64 s.c, .int .i64 0, .int .i64 s.a, .int .i64 s.e] := hdep ⟨0, .data⟩ (by simp) rfl (by decide)
        have hz := hZ0 (by kernel_rfl)
        obtain ⟨zc0, zc1, zc2, zc3, zc4, zc5, zc6, zc7, zc8⟩ := bx9 hz
        obtain ⟨zf0, zf1, zf2, zf3, zf4, zf5, zf6, zf7, zf8⟩ := bx9f hz
        refine givesR_skip ?_ (stZ_of (by omega) hz (.int .i64 1) (.string s.n) (.string s.d) (.int .i64 s.s) (.int .i64 s.t) (.int .i64 s.c) (.int .i64 0) (.int .i64 s.a) (.int .i64 s.e)) (st9 hz (.int .i64 1) (.string s.n) (.string s.d) (.int .i64 s.s) (.int .i64 s.t) (.int .i64 s.c) (.int .i64 0) (.int .i64 s.a) (.int .i64 s.e))
        unfold execOp
        dsimp only
        rw [e4, e140]
        go_simp
    · intro q W hq hJ hv
      have e141 : q.eval (.tmp 141) = .agg #[.slice none 0 0, .bool false, .slice none 0 0] := hv 1 (by decide)
      have hZW : W.heap[w.heap.size + 1 + 1]? = some (.cells #[.int .i64 1, .string s.n, .string s.d, .int .i64 s.s, .int .i64 s.t, .int .i64 s.c, .int .i64 0, .int .i64 s.a, .int .i64 s.e] 28 (0, 0)) := hv 2 (by decide)
      have HBW := Lib.hid hJ.bel
      have HOW := oldJ hJ (by omega) HO4
      have HZW := Lib.hid hZW
      clear hJ hZW HX4 HN4 HZ4 HO4 HD4
      have hq2 : q = canonL q [140, 141] _ := hq
      simp only [canonL] at hq2
      rw [e141] at hq2
      clear hq hv e141
      generalize q.eval (.tmp 140) = u140 at hq2
      subst hq2
      obtain ⟨y0, y1, y2⟩ := bx3 HOW.out
      obtain ⟨v0, v1, v2⟩ := bx3f HOW.out
      simp only [List.drop_succ_cons, List.drop_zero]
      go_wp2_with fail
      exact bodyPost_ret (results_two Tryz.results25 _ _ (w.heap.size + 2) (w.heap.size + 3) _ _ rfl rfl (load_s ((st3k (by omega) (.slice none 0 0) (.bool false) (.slice none 0 0)).trans HZW.out)) (load_o (st3 HOW.out (.slice none 0 0) (.bool false) (.slice none 0 0)))) rfl ⟨none, none, 0, 0, rfl, st3b HBW.out (by omega) (.slice none 0 0) (.bool false) (.slice none 0 0), fr_nil _ _ _, (fr_nil _ _ _).v⟩
set_option maxRecDepth 100000 in
set_option maxHeartbeats 8000000 in
theorem rtake_n2 (s : Ss) (n : Nt) (ai az : Option Addr) (ci cz : Nat) (w : World) (hk : n.k = 6 ∨ n.k = 9 ∨ n.k = 18 ∨ n.k = 19 ∨ KO n.k)  : Calls Tryz.prog 25 #[.agg #[.int .i64 2, .string s.n, .string s.d, .int .i64 s.s, .int .i64 s.t, .int .i64 s.c, .int .i64 s.h, .int .i64 s.a, .int .i64 s.e], .agg #[.int .i64 n.k, .string n.n, .string n.x, .string n.d, .int .i64 n.c, .int .i64 n.s, .int .i64 n.e, .int .i64 n.t, .bool n.o, .slice ai n.l.length ci, .slice az n.z.length cz]] w (StV ai az n ({ s with p := 2, h := 0 }, zO) w) := by
  have hK : KF n.k false true false false false false ∨ KF n.k false false false true false false ∨ KF n.k false false false false true false ∨ KF n.k false false false false false true ∨ KF n.k false false false false false false := by
    rcases hk with h | h | h | h | h
    · exact (.inl ⟨by rw [h]; rfl, by rw [h]; rfl, by rw [h]; rfl, by rw [h]; rfl, by rw [h]; rfl, by rw [h]; rfl⟩)
    · exact (.inr (.inl ⟨by rw [h]; rfl, by rw [h]; rfl, by rw [h]; rfl, by rw [h]; rfl, by rw [h]; rfl, by rw [h]; rfl⟩))
    · exact (.inr (.inr (.inl ⟨by rw [h]; rfl, by rw [h]; rfl, by rw [h]; rfl, by rw [h]; rfl, by rw [h]; rfl, by rw [h]; rfl⟩)))
    · exact (.inr (.inr (.inr (.inl ⟨by rw [h]; rfl, by rw [h]; rfl, by rw [h]; rfl, by rw [h]; rfl, by rw [h]; rfl, by rw [h]; rfl⟩))))
    · exact (.inr (.inr (.inr (.inr (⟨beqf h.1, beqf h.2.1, beqf h.2.2.1, beqf h.2.2.2.1, beqf h.2.2.2.2.1, beqf h.2.2.2.2.2⟩)))))
  clear hk
  rcases hK with ⟨q3, q6, q8, q9, q18, q19⟩ | ⟨q3, q6, q8, q9, q18, q19⟩ | ⟨q3, q6, q8, q9, q18, q19⟩ | ⟨q3, q6, q8, q9, q18, q19⟩ | ⟨q3, q6, q8, q9, q18, q19⟩
  all_goals
    have hu : undr 2 = true := rfl
    have CU : Hid (∀ W, Calls Tryz.prog 49 #[.agg #[.int .i64 2, .string s.n, .string s.d, .int .i64 s.s, .int .i64 s.t, .int .i64 s.c, .int .i64 s.h, .int .i64 s.a, .int .i64 s.e]] W (Gives (.bool true) W)) := fun W => by
      have q := rundr_any { s with p := 2 } W
      rw [show undr _ = true from hu] at q
      exact q
    clear hu
    obtain ⟨HB, HX, HN, HZ, HO⟩ := bxFour w #[.int .i64 2, .string s.n, .string s.d, .int .i64 s.s, .int .i64 s.t, .int .i64 s.c, .int .i64 s.h, .int .i64 s.a, .int .i64 s.e] 28 #[.int .i64 n.k, .string n.n, .string n.x, .string n.d, .int .i64 n.c, .int .i64 n.s, .int .i64 n.e, .int .i64 n.t, .bool n.o, .slice ai n.l.length ci, .slice az n.z.length cz] 42 #[.int .i64 0, .string ⟨#[]⟩, .string ⟨#[]⟩, .int .i64 0, .int .i64 0, .int .i64 0, .int .i64 0, .int .i64 0, .int .i64 0] 28 #[.slice none 0 0, .bool false, .slice none 0 0] 31
    obtain ⟨m0, m1, m2, m3, m4, m5, m6, m7, m8⟩ := bx9 HX.out
    go_enter Tryz.func25, Tryz.ntmps25
    go_wp2_with fail
    refine (CU.out _).mono ?_
    rintro e w1 ⟨rfl, hb⟩
    clear m0 m1 m2 m3 m4 m5 m6 m7 m8
    have HX1 := kpB hb HX
    have HN1 := kpB hb HN
    have HZ1 := kpB hb HZ
    have HO1 := kpB hb HO
    have HB1 := Lib.hid (HB.out.trans (hb.mono HB.out.size))
    clear hb HB HX HN HZ HO CU
    obtain ⟨m0, m1, m2, m3, m4, m5, m6, m7, m8⟩ := bx9 HX1.out
    obtain ⟨k0, k1, k2, k3, k4, k5, k6, k7, k8, k9, k10⟩ := bx11 HN1.out
    obtain ⟨f0, f1, f2, f3, f4, f5, f6, f7, f8⟩ := bx9f HX1.out
    have hPx : w.heap.size + 3 < w1.heap.size := heap_lt HO1.out
    go_upto_region 4 with fail
    clear m0 m1 m2 m3 m4 m5 m6 m7 m8 f0 f1 f2 f3 f4 f5 f6 f7 f8
    clear k0 k1 k2 k3 k4 k5 k6 k7 k8 k9 k10
    have HX2 : Hid ((w1.setCell ⟨w.heap.size, 6, none⟩ (.int .i64 0)).heap[w.heap.size]? = some (.cells #[.int .i64 2, .string s.n, .string s.d, .int .i64 s.s, .int .i64 s.t, .int .i64 s.c, .int .i64 0, .int .i64 s.a, .int .i64 s.e] 28 (0, 0))) := by
      show _ = _
      simp [World.setCell, Array.getElem?_modify, HX1.out]
    have HN2 := Lib.hid (kp1 (A := w.heap.size) (i := 6) (u := .int .i64 0) (b := w.heap.size + 1) (by omega) HN1.out)
    have HZ2 := Lib.hid (kp1 (A := w.heap.size) (i := 6) (u := .int .i64 0) (b := w.heap.size + 2) (by omega) HZ1.out)
    have HO2 := Lib.hid (kp1 (A := w.heap.size) (i := 6) (u := .int .i64 0) (b := w.heap.size + 3) (by omega) HO1.out)
    have HB2 := Lib.hid (HB1.out.setCell (p := ⟨w.heap.size, 6, none⟩) (Nat.le_refl _) (.int .i64 0))
    clear HX1 HN1 HZ1 HO1 HB1 hPx
    generalize (w1.setCell ⟨w.heap.size, 6, none⟩ (.int .i64 0)) = w2 at HX2 HN2 HZ2 HO2 HB2 ⊢
    obtain ⟨HD3, HBp⟩ := bxOne w2 #[.slice none 0 0, .bool false, .slice none 0 0] 31
    have HX3 := kpB HBp.out HX2
    have HN3 := kpB HBp.out HN2
    have HZ3 := kpB HBp.out HZ2
    have HO3 := kpB HBp.out HO2
    have HB3 := Lib.hid (HB2.out.trans (HBp.out.mono HB2.out.size))
    have hPy : w.heap.size + 3 < w2.heap.size := heap_lt HO2.out
    go_upto_region 5 with fail
    clear HX2 HN2 HZ2 HO2 HB2 HBp
    generalize (w2.alloc (.cells #[.slice none 0 0, .bool false, .slice none 0 0] 31)) = w3 at HX3 HN3 HZ3 HO3 HD3 HB3 ⊢
    generalize w2.heap.size = A6 at hPy HD3 ⊢
    have hA3 : A6 < w3.heap.size := heap_lt HD3.out
    obtain ⟨m0, m1, m2, m3, m4, m5, m6, m7, m8⟩ := bx9 HX3.out
    obtain ⟨k0, k1, k2, k3, k4, k5, k6, k7, k8, k9, k10⟩ := bx11 HN3.out
    obtain ⟨d0, d1, d2⟩ := bx3 HD3.out
    go_upto_region 11 with fail
    have r0 : ∀ y : Ext w3, y.to.cell? _ = _ := fun y => ext_cell y k0
    have r1 : ∀ y : Ext w3, y.to.cell? _ = _ := fun y => ext_cell y m0
    have hsome := extSome w3
    clear m0 m1 m2 m3 m4 m5 m6 m7 m8
    clear k0 k1 k2 k3 k4 k5 k6 k7 k8 k9 k10
    clear d0 d1 d2
    clear hA3
    refine ext_region (by kernel_rfl) (by kernel_rfl) ?_
    repeat (go_big_quiet_step (fail))
    refine wpQuiet_nil ?_
    rintro _ ⟨y, hy⟩
    subst hy
    have HX4 := kpB y.below HX3
    have HN4 := kpB y.below HN3
    have HZ4 := kpB y.below HZ3
    have HO4 := kpB y.below HO3
    have HD4 := kpB y.below HD3
    have HB4 := Lib.hid (HB3.out.trans (y.below.mono HB3.out.size))
    clear hsome r0 r1 HX3 HN3 HZ3 HO3 HD3 HB3
    generalize y.to = w4 at HX4 HN4 HZ4 HO4 HD4 HB4 ⊢
    clear y
    have hA4 : A6 < w4.heap.size := heap_lt HD4.out
    obtain ⟨m0, m1, m2, m3, m4, m5, m6, m7, m8⟩ := bx9 HX4.out
    obtain ⟨k0, k1, k2, k3, k4, k5, k6, k7, k8, k9, k10⟩ := bx11 HN4.out
    obtain ⟨d0, d1, d2⟩ := bx3 HD4.out
    go_upto_region 29 with fail
    clear m0 m1 m2 m3 m4 m5 m6 m7 m8
    clear k0 k1 k2 k3 k4 k5 k6 k7 k8 k9 k10
    clear d0 d1 d2
    clear hA4
    have hZN : w.heap.size + 1 + 1 < w4.heap.size := heap_lt HZ4.out
    have hAN : A6 < w4.heap.size := heap_lt HD4.out
    refine region_Z (w := w) (Z := w.heap.size + 1 + 1) 3 2 (fun j => [140, 141, 100002].getD j 0) [140, 141] [.eq (.agg #[.int .i64 2, .string s.n, .string s.d, .int .i64 s.s, .int .i64 s.t, .int .i64 s.c, .int .i64 0, .int .i64 s.a, .int .i64 s.e]), .eq (.agg #[.slice none 0 0, .bool false, .slice none 0 0]), .st #[.int .i64 2, .string s.n, .string s.d, .int .i64 s.s, .int .i64 s.t, .int .i64 s.c, .int .i64 0, .int .i64 s.a, .int .i64 s.e]] (by kernel_rfl) (by kernel_rfl) (by kernel_rfl) (by kernel_rfl) (by decide) (by kernel_rfl) (by kernel_rfl) (by kernel_rfl) (by kernel_rfl) (fun h => absurd (show 2 < 3 by decide) h) HB4.out HZ4.out ?_ ?_
    · intro i o hi ho q W hsz hout hJ hZ0 hdep
      have HXW := oldJ hJ (by omega) HX4
      obtain ⟨x0, x1, x2, x3, x4, x5, x6, x7, x8⟩ := bx9 HXW.out
      have HDW := oldJ hJ (by omega) HD4
      obtain ⟨y0, y1, y2⟩ := bx3 HDW.out
      have hc : i = 0 ∨ i = 1 ∨ i = 2 := by omega
      rcases hc with rfl | rfl | rfl
      · -- 0
        cases ho
        refine plainR (by decide) ?_
        have e2 : q.eval (.tmp 2) = .pointer (some ⟨w.heap.size, 0, none⟩) := (hout 2 (by decide)).trans rfl
        refine gives_read (v := .agg #[.int .i64 2, .string s.n, .string s.d, .int .i64 s.s, .int .i64 s.t, .int .i64 s.c, .int .i64 0, .int .i64 s.a, .int .i64 s.e]) ?_ rfl
        unfold execOp
        dsimp only
        rw [e2]
        go_simp
      · -- 1
        cases ho
        refine plainR (by decide) ?_
        have e6 : q.eval (.tmp 6) = .pointer (some ⟨A6, 0, none⟩) := (hout 6 (by decide)).trans rfl
        refine gives_read (v := .agg #[.slice none 0 0, .bool false, .slice none 0 0]) ?_ rfl
        unfold execOp
        dsimp only
        rw [e6]
        go_simp
      · -- 2
        cases ho
        have e4 : q.eval (.tmp 4) = .pointer (some ⟨w.heap.size + 1 + 1, 0, none⟩) := (hout 4 (by decide)).trans rfl
        have e140 : q.eval (.tmp 140) = .agg #[.int .i64 2, .string s.n, .string s.d, .int .i64 s.s, .int .i64 s.t, .int .i64 s.c, .int .i64 0, .int .i64 s.a, .int .i64 s.e] := hdep ⟨0, .data⟩ (by simp) rfl (by decide)
        have hz := hZ0 (by kernel_rfl)
        obtain ⟨zc0, zc1, zc2, zc3, zc4, zc5, zc6, zc7, zc8⟩ := bx9 hz
        obtain ⟨zf0, zf1, zf2, zf3, zf4, zf5, zf6, zf7, zf8⟩ := bx9f hz
        refine givesR_skip ?_ (stZ_of (by omega) hz (.int .i64 2) (.string s.n) (.string s.d) (.int .i64 s.s) (.int .i64 s.t) (.int .i64 s.c) (.int .i64 0) (.int .i64 s.a) (.int .i64 s.e)) (st9 hz (.int .i64 2) (.string s.n) (.string s.d) (.int .i64 s.s) (.int .i64 s.t) (.int .i64 s.c) (.int .i64 0) (.int .i64 s.a) (.int .i64 s.e))
        unfold execOp
        dsimp only
        rw [e4, e140]
        go_simp
    · intro q W hq hJ hv
      have e141 : q.eval (.tmp 141) = .agg #[.slice none 0 0, .bool false, .slice none 0 0] := hv 1 (by decide)
      have hZW : W.heap[w.heap.size + 1 + 1]? = some (.cells #[.int .i64 2, .string s.n, .string s.d, .int .i64 s.s, .int .i64 s.t, .int .i64 s.c, .int .i64 0, .int .i64 s.a, .int .i64 s.e] 28 (0, 0)) := hv 2 (by decide)
      have HBW := Lib.hid hJ.bel
      have HOW := oldJ hJ (by omega) HO4
      have HZW := Lib.hid hZW
      clear hJ hZW HX4 HN4 HZ4 HO4 HD4
      have hq2 : q = canonL q [140, 141] _ := hq
      simp only [canonL] at hq2
      rw [e141] at hq2
      clear hq hv e141
      generalize q.eval (.tmp 140) = u140 at hq2
      subst hq2
      obtain ⟨y0, y1, y2⟩ := bx3 HOW.out
      obtain ⟨v0, v1, v2⟩ := bx3f HOW.out
      simp only [List.drop_succ_cons, List.drop_zero]
      go_wp2_with fail
      exact bodyPost_ret (results_two Tryz.results25 _ _ (w.heap.size + 2) (w.heap.size + 3) _ _ rfl rfl (load_s ((st3k (by omega) (.slice none 0 0) (.bool false) (.slice none 0 0)).trans HZW.out)) (load_o (st3 HOW.out (.slice none 0 0) (.bool false) (.slice none 0 0)))) rfl ⟨none, none, 0, 0, rfl, st3b HBW.out (by omega) (.slice none 0 0) (.bool false) (.slice none 0 0), fr_nil _ _ _, (fr_nil _ _ _).v⟩
set_option maxRecDepth 100000 in
set_option maxHeartbeats 8000000 in
theorem rtake_n3 (s : Ss) (n : Nt) (ai az : Option Addr) (ci cz : Nat) (w : World) (hk : n.k = 6 ∨ n.k = 8 ∨ n.k = 18 ∨ n.k = 19 ∨ KO n.k)  : Calls Tryz.prog 25 #[.agg #[.int .i64 3, .string s.n, .string s.d, .int .i64 s.s, .int .i64 s.t, .int .i64 s.c, .int .i64 s.h, .int .i64 s.a, .int .i64 s.e], .agg #[.int .i64 n.k, .string n.n, .string n.x, .string n.d, .int .i64 n.c, .int .i64 n.s, .int .i64 n.e, .int .i64 n.t, .bool n.o, .slice ai n.l.length ci, .slice az n.z.length cz]] w (StV ai az n ({ s with p := 3, h := 0 }, zO) w) := by
  have hK : KF n.k false true false false false false ∨ KF n.k false false true false false false ∨ KF n.k false false false false true false ∨ KF n.k false false false false false true ∨ KF n.k false false false false false false := by
    rcases hk with h | h | h | h | h
    · exact (.inl ⟨by rw [h]; rfl, by rw [h]; rfl, by rw [h]; rfl, by rw [h]; rfl, by rw [h]; rfl, by rw [h]; rfl⟩)
    · exact (.inr (.inl ⟨by rw [h]; rfl, by rw [h]; rfl, by rw [h]; rfl, by rw [h]; rfl, by rw [h]; rfl, by rw [h]; rfl⟩))
    · exact (.inr (.inr (.inl ⟨by rw [h]; rfl, by rw [h]; rfl, by rw [h]; rfl, by rw [h]; rfl, by rw [h]; rfl, by rw [h]; rfl⟩)))
    · exact (.inr (.inr (.inr (.inl ⟨by rw [h]; rfl, by rw [h]; rfl, by rw [h]; rfl, by rw [h]; rfl, by rw [h]; rfl, by rw [h]; rfl⟩))))
    · exact (.inr (.inr (.inr (.inr (⟨beqf h.1, beqf h.2.1, beqf h.2.2.1, beqf h.2.2.2.1, beqf h.2.2.2.2.1, beqf h.2.2.2.2.2⟩)))))
  clear hk
  rcases hK with ⟨q3, q6, q8, q9, q18, q19⟩ | ⟨q3, q6, q8, q9, q18, q19⟩ | ⟨q3, q6, q8, q9, q18, q19⟩ | ⟨q3, q6, q8, q9, q18, q19⟩ | ⟨q3, q6, q8, q9, q18, q19⟩
  all_goals
    have hu : undr 3 = true := rfl
    have CU : Hid (∀ W, Calls Tryz.prog 49 #[.agg #[.int .i64 3, .string s.n, .string s.d, .int .i64 s.s, .int .i64 s.t, .int .i64 s.c, .int .i64 s.h, .int .i64 s.a, .int .i64 s.e]] W (Gives (.bool true) W)) := fun W => by
      have q := rundr_any { s with p := 3 } W
      rw [show undr _ = true from hu] at q
      exact q
    clear hu
    obtain ⟨HB, HX, HN, HZ, HO⟩ := bxFour w #[.int .i64 3, .string s.n, .string s.d, .int .i64 s.s, .int .i64 s.t, .int .i64 s.c, .int .i64 s.h, .int .i64 s.a, .int .i64 s.e] 28 #[.int .i64 n.k, .string n.n, .string n.x, .string n.d, .int .i64 n.c, .int .i64 n.s, .int .i64 n.e, .int .i64 n.t, .bool n.o, .slice ai n.l.length ci, .slice az n.z.length cz] 42 #[.int .i64 0, .string ⟨#[]⟩, .string ⟨#[]⟩, .int .i64 0, .int .i64 0, .int .i64 0, .int .i64 0, .int .i64 0, .int .i64 0] 28 #[.slice none 0 0, .bool false, .slice none 0 0] 31
    obtain ⟨m0, m1, m2, m3, m4, m5, m6, m7, m8⟩ := bx9 HX.out
    go_enter Tryz.func25, Tryz.ntmps25
    go_wp2_with fail
    refine (CU.out _).mono ?_
    rintro e w1 ⟨rfl, hb⟩
    clear m0 m1 m2 m3 m4 m5 m6 m7 m8
    have HX1 := kpB hb HX
    have HN1 := kpB hb HN
    have HZ1 := kpB hb HZ
    have HO1 := kpB hb HO
    have HB1 := Lib.hid (HB.out.trans (hb.mono HB.out.size))
    clear hb HB HX HN HZ HO CU
    obtain ⟨m0, m1, m2, m3, m4, m5, m6, m7, m8⟩ := bx9 HX1.out
    obtain ⟨k0, k1, k2, k3, k4, k5, k6, k7, k8, k9, k10⟩ := bx11 HN1.out
    obtain ⟨f0, f1, f2, f3, f4, f5, f6, f7, f8⟩ := bx9f HX1.out
    have hPx : w.heap.size + 3 < w1.heap.size := heap_lt HO1.out
    go_upto_region 4 with fail
    clear m0 m1 m2 m3 m4 m5 m6 m7 m8 f0 f1 f2 f3 f4 f5 f6 f7 f8
    clear k0 k1 k2 k3 k4 k5 k6 k7 k8 k9 k10
    have HX2 : Hid ((w1.setCell ⟨w.heap.size, 6, none⟩ (.int .i64 0)).heap[w.heap.size]? = some (.cells #[.int .i64 3, .string s.n, .string s.d, .int .i64 s.s, .int .i64 s.t, .int .i64 s.c, .int .i64 0, .int .i64 s.a, .int .i64 s.e] 28 (0, 0))) := by
      show _ = _
      simp [World.setCell, Array.getElem?_modify, HX1.out]
    have HN2 := Lib.hid (kp1 (A := w.heap.size) (i := 6) (u := .int .i64 0) (b := w.heap.size + 1) (by omega) HN1.out)
    have HZ2 := Lib.hid (kp1 (A := w.heap.size) (i := 6) (u := .int .i64 0) (b := w.heap.size + 2) (by omega) HZ1.out)
    have HO2 := Lib.hid (kp1 (A := w.heap.size) (i := 6) (u := .int .i64 0) (b := w.heap.size + 3) (by omega) HO1.out)
    have HB2 := Lib.hid (HB1.out.setCell (p := ⟨w.heap.size, 6, none⟩) (Nat.le_refl _) (.int .i64 0))
    clear HX1 HN1 HZ1 HO1 HB1 hPx
    generalize (w1.setCell ⟨w.heap.size, 6, none⟩ (.int .i64 0)) = w2 at HX2 HN2 HZ2 HO2 HB2 ⊢
    obtain ⟨HD3, HBp⟩ := bxOne w2 #[.slice none 0 0, .bool false, .slice none 0 0] 31
    have HX3 := kpB HBp.out HX2
    have HN3 := kpB HBp.out HN2
    have HZ3 := kpB HBp.out HZ2
    have HO3 := kpB HBp.out HO2
    have HB3 := Lib.hid (HB2.out.trans (HBp.out.mono HB2.out.size))
    have hPy : w.heap.size + 3 < w2.heap.size := heap_lt HO2.out
    go_upto_region 5 with fail
    clear HX2 HN2 HZ2 HO2 HB2 HBp
    generalize (w2.alloc (.cells #[.slice none 0 0, .bool false, .slice none 0 0] 31)) = w3 at HX3 HN3 HZ3 HO3 HD3 HB3 ⊢
    generalize w2.heap.size = A6 at hPy HD3 ⊢
    have hA3 : A6 < w3.heap.size := heap_lt HD3.out
    obtain ⟨m0, m1, m2, m3, m4, m5, m6, m7, m8⟩ := bx9 HX3.out
    obtain ⟨k0, k1, k2, k3, k4, k5, k6, k7, k8, k9, k10⟩ := bx11 HN3.out
    obtain ⟨d0, d1, d2⟩ := bx3 HD3.out
    go_upto_region 11 with fail
    have r0 : ∀ y : Ext w3, y.to.cell? _ = _ := fun y => ext_cell y k0
    have r1 : ∀ y : Ext w3, y.to.cell? _ = _ := fun y => ext_cell y m0
    have hsome := extSome w3
    clear m0 m1 m2 m3 m4 m5 m6 m7 m8
    clear k0 k1 k2 k3 k4 k5 k6 k7 k8 k9 k10
    clear d0 d1 d2
    clear hA3
    refine ext_region (by kernel_rfl) (by kernel_rfl) ?_
    repeat (go_big_quiet_step (fail))
    refine wpQuiet_nil ?_
    rintro _ ⟨y, hy⟩
    subst hy
    have HX4 := kpB y.below HX3
    have HN4 := kpB y.below HN3
    have HZ4 := kpB y.below HZ3
    have HO4 := kpB y.below HO3
    have HD4 := kpB y.below HD3
    have HB4 := Lib.hid (HB3.out.trans (y.below.mono HB3.out.size))
    clear hsome r0 r1 HX3 HN3 HZ3 HO3 HD3 HB3
    generalize y.to = w4 at HX4 HN4 HZ4 HO4 HD4 HB4 ⊢
    clear y
    have hA4 : A6 < w4.heap.size := heap_lt HD4.out
    obtain ⟨m0, m1, m2, m3, m4, m5, m6, m7, m8⟩ := bx9 HX4.out
    obtain ⟨k0, k1, k2, k3, k4, k5, k6, k7, k8, k9, k10⟩ := bx11 HN4.out
    obtain ⟨d0, d1, d2⟩ := bx3 HD4.out
    go_upto_region 29 with fail
    clear m0 m1 m2 m3 m4 m5 m6 m7 m8
    clear k0 k1 k2 k3 k4 k5 k6 k7 k8 k9 k10
    clear d0 d1 d2
    clear hA4
    have hZN : w.heap.size + 1 + 1 < w4.heap.size := heap_lt HZ4.out
    have hAN : A6 < w4.heap.size := heap_lt HD4.out
    refine region_Z (w := w) (Z := w.heap.size + 1 + 1) 3 2 (fun j => [140, 141, 100002].getD j 0) [140, 141] [.eq (.agg #[.int .i64 3, .string s.n, .string s.d, .int .i64 s.s, .int .i64 s.t, .int .i64 s.c, .int .i64 0, .int .i64 s.a, .int .i64 s.e]), .eq (.agg #[.slice none 0 0, .bool false, .slice none 0 0]), .st #[.int .i64 3, .string s.n, .string s.d, .int .i64 s.s, .int .i64 s.t, .int .i64 s.c, .int .i64 0, .int .i64 s.a, .int .i64 s.e]] (by kernel_rfl) (by kernel_rfl) (by kernel_rfl) (by kernel_rfl) (by decide) (by kernel_rfl) (by kernel_rfl) (by kernel_rfl) (by kernel_rfl) (fun h => absurd (show 2 < 3 by decide) h) HB4.out HZ4.out ?_ ?_
    · intro i o hi ho q W hsz hout hJ hZ0 hdep
      have HXW := oldJ hJ (by omega) HX4
      obtain ⟨x0, x1, x2, x3, x4, x5, x6, x7, x8⟩ := bx9 HXW.out
      have HDW := oldJ hJ (by omega) HD4
      obtain ⟨y0, y1, y2⟩ := bx3 HDW.out
      have hc : i = 0 ∨ i = 1 ∨ i = 2 := by omega
      rcases hc with rfl | rfl | rfl
      · -- 0
        cases ho
        refine plainR (by decide) ?_
        have e2 : q.eval (.tmp 2) = .pointer (some ⟨w.heap.size, 0, none⟩) := (hout 2 (by decide)).trans rfl
        refine gives_read (v := .agg #[.int .i64 3, .string s.n, .string s.d, .int .i64 s.s, .int .i64 s.t, .int .i64 s.c, .int .i64 0, .int .i64 s.a, .int .i64 s.e]) ?_ rfl
        unfold execOp
        dsimp only
        rw [e2]
        go_simp
      · -- 1
        cases ho
        refine plainR (by decide) ?_
        have e6 : q.eval (.tmp 6) = .pointer (some ⟨A6, 0, none⟩) := (hout 6 (by decide)).trans rfl
        refine gives_read (v := .agg #[.slice none 0 0, .bool false, .slice none 0 0]) ?_ rfl
        unfold execOp
        dsimp only
        rw [e6]
        go_simp
      · -- 2
        cases ho
        have e4 : q.eval (.tmp 4) = .pointer (some ⟨w.heap.size + 1 + 1, 0, none⟩) := (hout 4 (by decide)).trans rfl
        have e140 : q.eval (.tmp 140) = .agg #[.int .i64 3, .string s.n, .string s.d, .int .i64 s.s, .int .i64 s.t, .int .i64 s.c, .int .i64 0, .int .i64 s.a, .int .i64 s.e] := hdep ⟨0, .data⟩ (by simp) rfl (by decide)
        have hz := hZ0 (by kernel_rfl)
        obtain ⟨zc0, zc1, zc2, zc3, zc4, zc5, zc6, zc7, zc8⟩ := bx9 hz
        obtain ⟨zf0, zf1, zf2, zf3, zf4, zf5, zf6, zf7, zf8⟩ := bx9f hz
        refine givesR_skip ?_ (stZ_of (by omega) hz (.int .i64 3) (.string s.n) (.string s.d) (.int .i64 s.s) (.int .i64 s.t) (.int .i64 s.c) (.int .i64 0) (.int .i64 s.a) (.int .i64 s.e)) (st9 hz (.int .i64 3) (.string s.n) (.string s.d) (.int .i64 s.s) (.int .i64 s.t) (.int .i64 s.c) (.int .i64 0) (.int .i64 s.a) (.int .i64 s.e))
        unfold execOp
        dsimp only
        rw [e4, e140]
        go_simp
    · intro q W hq hJ hv
      have e141 : q.eval (.tmp 141) = .agg #[.slice none 0 0, .bool false, .slice none 0 0] := hv 1 (by decide)
      have hZW : W.heap[w.heap.size + 1 + 1]? = some (.cells #[.int .i64 3, .string s.n, .string s.d, .int .i64 s.s, .int .i64 s.t, .int .i64 s.c, .int .i64 0, .int .i64 s.a, .int .i64 s.e] 28 (0, 0)) := hv 2 (by decide)
      have HBW := Lib.hid hJ.bel
      have HOW := oldJ hJ (by omega) HO4
      have HZW := Lib.hid hZW
      clear hJ hZW HX4 HN4 HZ4 HO4 HD4
      have hq2 : q = canonL q [140, 141] _ := hq
      simp only [canonL] at hq2
      rw [e141] at hq2
      clear hq hv e141
      generalize q.eval (.tmp 140) = u140 at hq2
      subst hq2
      obtain ⟨y0, y1, y2⟩ := bx3 HOW.out
      obtain ⟨v0, v1, v2⟩ := bx3f HOW.out
      simp only [List.drop_succ_cons, List.drop_zero]
      go_wp2_with fail
      exact bodyPost_ret (results_two Tryz.results25 _ _ (w.heap.size + 2) (w.heap.size + 3) _ _ rfl rfl (load_s ((st3k (by omega) (.slice none 0 0) (.bool false) (.slice none 0 0)).trans HZW.out)) (load_o (st3 HOW.out (.slice none 0 0) (.bool false) (.slice none 0 0)))) rfl ⟨none, none, 0, 0, rfl, st3b HBW.out (by omega) (.slice none 0 0) (.bool false) (.slice none 0 0), fr_nil _ _ _, (fr_nil _ _ _).v⟩
set_option maxRecDepth 100000 in
set_option maxHeartbeats 8000000 in
theorem rtake_n4 (s : Ss) (n : Nt) (ai az : Option Addr) (ci cz : Nat) (w : World) (hk : n.k = 6 ∨ n.k = 8 ∨ n.k = 9 ∨ KO n.k)  : Calls Tryz.prog 25 #[.agg #[.int .i64 4, .string s.n, .string s.d, .int .i64 s.s, .int .i64 s.t, .int .i64 s.c, .int .i64 s.h, .int .i64 s.a, .int .i64 s.e], .agg #[.int .i64 n.k, .string n.n, .string n.x, .string n.d, .int .i64 n.c, .int .i64 n.s, .int .i64 n.e, .int .i64 n.t, .bool n.o, .slice ai n.l.length ci, .slice az n.z.length cz]] w (StV ai az n ({ s with p := 4, h := 0 }, zO) w) := by
  have hK : KF n.k false true false false false false ∨ KF n.k false false true false false false ∨ KF n.k false false false true false false ∨ KF n.k false false false false false false := by
    rcases hk with h | h | h | h
    · exact (.inl ⟨by rw [h]; rfl, by rw [h]; rfl, by rw [h]; rfl, by rw [h]; rfl, by rw [h]; rfl, by rw [h]; rfl⟩)
    · exact (.inr (.inl ⟨by rw [h]; rfl, by rw [h]; rfl, by rw [h]; rfl, by rw [h]; rfl, by rw [h]; rfl, by rw [h]; rfl⟩))
    · exact (.inr (.inr (.inl ⟨by rw [h]; rfl, by rw [h]; rfl, by rw [h]; rfl, by rw [h]; rfl, by rw [h]; rfl, by rw [h]; rfl⟩)))
    · exact (.inr (.inr (.inr (⟨beqf h.1, beqf h.2.1, beqf h.2.2.1, beqf h.2.2.2.1, beqf h.2.2.2.2.1, beqf h.2.2.2.2.2⟩))))
  clear hk
  rcases hK with ⟨q3, q6, q8, q9, q18, q19⟩ | ⟨q3, q6, q8, q9, q18, q19⟩ | ⟨q3, q6, q8, q9, q18, q19⟩ | ⟨q3, q6, q8, q9, q18, q19⟩
  all_goals
    have hu : undr 4 = true := rfl
    have CU : Hid (∀ W, Calls Tryz.prog 49 #[.agg #[.int .i64 4, .string s.n, .string s.d, .int .i64 s.s, .int .i64 s.t, .int .i64 s.c, .int .i64 s.h, .int .i64 s.a, .int .i64 s.e]] W (Gives (.bool true) W)) := fun W => by
      have q := rundr_any { s with p := 4 } W
      rw [show undr _ = true from hu] at q
      exact q
    clear hu
    obtain ⟨HB, HX, HN, HZ, HO⟩ := bxFour w #[.int .i64 4, .string s.n, .string s.d, .int .i64 s.s, .int .i64 s.t, .int .i64 s.c, .int .i64 s.h, .int .i64 s.a, .int .i64 s.e] 28 #[.int .i64 n.k, .string n.n, .string n.x, .string n.d, .int .i64 n.c, .int .i64 n.s, .int .i64 n.e, .int .i64 n.t, .bool n.o, .slice ai n.l.length ci, .slice az n.z.length cz] 42 #[.int .i64 0, .string ⟨#[]⟩, .string ⟨#[]⟩, .int .i64 0, .int .i64 0, .int .i64 0, .int .i64 0, .int .i64 0, .int .i64 0] 28 #[.slice none 0 0, .bool false, .slice none 0 0] 31
    obtain ⟨m0, m1, m2, m3, m4, m5, m6, m7, m8⟩ := bx9 HX.out
    go_enter Tryz.func25, Tryz.ntmps25
    go_wp2_with fail
    refine (CU.out _).mono ?_
    rintro e w1 ⟨rfl, hb⟩
    clear m0 m1 m2 m3 m4 m5 m6 m7 m8
    have HX1 := kpB hb HX
    have HN1 := kpB hb HN
    have HZ1 := kpB hb HZ
    have HO1 := kpB hb HO
    have HB1 := Lib.hid (HB.out.trans (hb.mono HB.out.size))
    clear hb HB HX HN HZ HO CU
    obtain ⟨m0, m1, m2, m3, m4, m5, m6, m7, m8⟩ := bx9 HX1.out
    obtain ⟨k0, k1, k2, k3, k4, k5, k6, k7, k8, k9, k10⟩ := bx11 HN1.out
    obtain ⟨f0, f1, f2, f3, f4, f5, f6, f7, f8⟩ := bx9f HX1.out
    have hPx : w.heap.size + 3 < w1.heap.size := heap_lt HO1.out
    go_upto_region 4 with fail
    clear m0 m1 m2 m3 m4 m5 m6 m7 m8 f0 f1 f2 f3 f4 f5 f6 f7 f8
    clear k0 k1 k2 k3 k4 k5 k6 k7 k8 k9 k10
    have HX2 : Hid ((w1.setCell ⟨w.heap.size, 6, none⟩ (.int .i64 0)).heap[w.heap.size]? = some (.cells #[.int .i64 4, .string s.n, .string s.d, .int .i64 s.s, .int .i64 s.t, .int .i64 s.c, .int .i64 0, .int .i64 s.a, .int .i64 s.e] 28 (0, 0))) := by
      show _ = _
      simp [World.setCell, Array.getElem?_modify, HX1.out]
    have HN2 := Lib.hid (kp1 (A := w.heap.size) (i := 6) (u := .int .i64 0) (b := w.heap.size + 1) (by omega) HN1.out)
    have HZ2 := Lib.hid (kp1 (A := w.heap.size) (i := 6) (u := .int .i64 0) (b := w.heap.size + 2) (by omega) HZ1.out)
    have HO2 := Lib.hid (kp1 (A := w.heap.size) (i := 6) (u := .int .i64 0) (b := w.heap.size + 3) (by omega) HO1.out)
    have HB2 := Lib.hid (HB1.out.setCell (p := ⟨w.heap.size, 6, none⟩) (Nat.le_refl _) (.int .i64 0))
    clear HX1 HN1 HZ1 HO1 HB1 hPx
    generalize (w1.setCell ⟨w.heap.size, 6, none⟩ (.int .i64 0)) = w2 at HX2 HN2 HZ2 HO2 HB2 ⊢
    obtain ⟨HD3, HBp⟩ := bxOne w2 #[.slice none 0 0, .bool false, .slice none 0 0] 31
    have HX3 := kpB HBp.out HX2
    have HN3 := kpB HBp.out HN2
    have HZ3 := kpB HBp.out HZ2
    have HO3 := kpB HBp.out HO2
    have HB3 := Lib.hid (HB2.out.trans (HBp.out.mono HB2.out.size))
    have hPy : w.heap.size + 3 < w2.heap.size := heap_lt HO2.out
    go_upto_region 5 with fail
    clear HX2 HN2 HZ2 HO2 HB2 HBp
    generalize (w2.alloc (.cells #[.slice none 0 0, .bool false, .slice none 0 0] 31)) = w3 at HX3 HN3 HZ3 HO3 HD3 HB3 ⊢
    generalize w2.heap.size = A6 at hPy HD3 ⊢
    have hA3 : A6 < w3.heap.size := heap_lt HD3.out
    obtain ⟨m0, m1, m2, m3, m4, m5, m6, m7, m8⟩ := bx9 HX3.out
    obtain ⟨k0, k1, k2, k3, k4, k5, k6, k7, k8, k9, k10⟩ := bx11 HN3.out
    obtain ⟨d0, d1, d2⟩ := bx3 HD3.out
    go_upto_region 11 with fail
    have r0 : ∀ y : Ext w3, y.to.cell? _ = _ := fun y => ext_cell y k0
    have r1 : ∀ y : Ext w3, y.to.cell? _ = _ := fun y => ext_cell y m0
    have hsome := extSome w3
    clear m0 m1 m2 m3 m4 m5 m6 m7 m8
    clear k0 k1 k2 k3 k4 k5 k6 k7 k8 k9 k10
    clear d0 d1 d2
    clear hA3
    refine ext_region (by kernel_rfl) (by kernel_rfl) ?_
    repeat (go_big_quiet_step (fail))
    refine wpQuiet_nil ?_
    rintro _ ⟨y, hy⟩
    subst hy
    have HX4 := kpB y.below HX3
    have HN4 := kpB y.below HN3
    have HZ4 := kpB y.below HZ3
    have HO4 := kpB y.below HO3
    have HD4 := kpB y.below HD3
    have HB4 := Lib.hid (HB3.out.trans (y.below.mono HB3.out.size))
    clear hsome r0 r1 HX3 HN3 HZ3 HO3 HD3 HB3
    generalize y.to = w4 at HX4 HN4 HZ4 HO4 HD4 HB4 ⊢
    clear y
    have hA4 : A6 < w4.heap.size := heap_lt HD4.out
    obtain ⟨m0, m1, m2, m3, m4, m5, m6, m7, m8⟩ := bx9 HX4.out
    obtain ⟨k0, k1, k2, k3, k4, k5, k6, k7, k8, k9, k10⟩ := bx11 HN4.out
    obtain ⟨d0, d1, d2⟩ := bx3 HD4.out
    go_upto_region 29 with fail
    clear m0 m1 m2 m3 m4 m5 m6 m7 m8
    clear k0 k1 k2 k3 k4 k5 k6 k7 k8 k9 k10
    clear d0 d1 d2
    clear hA4
    have hZN : w.heap.size + 1 + 1 < w4.heap.size := heap_lt HZ4.out
    have hAN : A6 < w4.heap.size := heap_lt HD4.out
    refine region_Z (w := w) (Z := w.heap.size + 1 + 1) 3 2 (fun j => [140, 141, 100002].getD j 0) [140, 141] [.eq (.agg #[.int .i64 4, .string s.n, .string s.d, .int .i64 s.s, .int .i64 s.t, .int .i64 s.c, .int .i64 0, .int .i64 s.a, .int .i64 s.e]), .eq (.agg #[.slice none 0 0, .bool false, .slice none 0 0]), .st #[.int .i64 4, .string s.n, .string s.d, .int .i64 s.s, .int .i64 s.t, .int .i64 s.c, .int .i64 0, .int .i64 s.a, .int .i64 s.e]] (by kernel_rfl) (by kernel_rfl) (by kernel_rfl) (by kernel_rfl) (by decide) (by kernel_rfl) (by kernel_rfl) (by kernel_rfl) (by kernel_rfl) (fun h => absurd (show 2 < 3 by decide) h) HB4.out HZ4.out ?_ ?_
    · intro i o hi ho q W hsz hout hJ hZ0 hdep
      have HXW := oldJ hJ (by omega) HX4
      obtain ⟨x0, x1, x2, x3, x4, x5, x6, x7, x8⟩ := bx9 HXW.out
      have HDW := oldJ hJ (by omega) HD4
      obtain ⟨y0, y1, y2⟩ := bx3 HDW.out
      have hc : i = 0 ∨ i = 1 ∨ i = 2 := by omega
      rcases hc with rfl | rfl | rfl
      · -- 0
        cases ho
        refine plainR (by decide) ?_
        have e2 : q.eval (.tmp 2) = .pointer (some ⟨w.heap.size, 0, none⟩) := (hout 2 (by decide)).trans rfl
        refine gives_read (v := .agg #[.int .i64 4, .string s.n, .string s.d, .int .i64 s.s, .int .i64 s.t, .int .i64 s.c, .int .i64 0, .int .i64 s.a, .int .i64 s.e]) ?_ rfl
        unfold execOp
        dsimp only
        rw [e2]
        go_simp
      · -- 1
        cases ho
        refine plainR (by decide) ?_
        have e6 : q.eval (.tmp 6) = .pointer (some ⟨A6, 0, none⟩) := (hout 6 (by decide)).trans rfl
        refine gives_read (v := .agg #[.slice none 0 0, .bool false, .slice none 0 0]) ?_ rfl
        unfold execOp
        dsimp only
        rw [e6]
        go_simp
      · -- 2
        cases ho
        have e4 : q.eval (.tmp 4) = .pointer (some ⟨w.heap.size + 1 + 1, 0, none⟩) := (hout 4 (by decide)).trans rfl
        have e140 : q.eval (.tmp 140) = .agg #[.int .i64 4, .string s.n, .string s.d, .int .i64 s.s, .int .i64 s.t, .int .i64 s.c, .int .i64 0, .int .i64 s.a, .int .i64 s.e] := hdep ⟨0, .data⟩ (by simp) rfl (by decide)
        have hz := hZ0 (by kernel_rfl)
        obtain ⟨zc0, zc1, zc2, zc3, zc4, zc5, zc6, zc7, zc8⟩ := bx9 hz
        obtain ⟨zf0, zf1, zf2, zf3, zf4, zf5, zf6, zf7, zf8⟩ := bx9f hz
        refine givesR_skip ?_ (stZ_of (by omega) hz (.int .i64 4) (.string s.n) (.string s.d) (.int .i64 s.s) (.int .i64 s.t) (.int .i64 s.c) (.int .i64 0) (.int .i64 s.a) (.int .i64 s.e)) (st9 hz (.int .i64 4) (.string s.n) (.string s.d) (.int .i64 s.s) (.int .i64 s.t) (.int .i64 s.c) (.int .i64 0) (.int .i64 s.a) (.int .i64 s.e))
        unfold execOp
        dsimp only
        rw [e4, e140]
        go_simp
    · intro q W hq hJ hv
      have e141 : q.eval (.tmp 141) = .agg #[.slice none 0 0, .bool false, .slice none 0 0] := hv 1 (by decide)
      have hZW : W.heap[w.heap.size + 1 + 1]? = some (.cells #[.int .i64 4, .string s.n, .string s.d, .int .i64 s.s, .int .i64 s.t, .int .i64 s.c, .int .i64 0, .int .i64 s.a, .int .i64 s.e] 28 (0, 0)) := hv 2 (by decide)
      have HBW := Lib.hid hJ.bel
      have HOW := oldJ hJ (by omega) HO4
      have HZW := Lib.hid hZW
      clear hJ hZW HX4 HN4 HZ4 HO4 HD4
      have hq2 : q = canonL q [140, 141] _ := hq
      simp only [canonL] at hq2
      rw [e141] at hq2
      clear hq hv e141
      generalize q.eval (.tmp 140) = u140 at hq2
      subst hq2
      obtain ⟨y0, y1, y2⟩ := bx3 HOW.out
      obtain ⟨v0, v1, v2⟩ := bx3f HOW.out
      simp only [List.drop_succ_cons, List.drop_zero]
      go_wp2_with fail
      exact bodyPost_ret (results_two Tryz.results25 _ _ (w.heap.size + 2) (w.heap.size + 3) _ _ rfl rfl (load_s ((st3k (by omega) (.slice none 0 0) (.bool false) (.slice none 0 0)).trans HZW.out)) (load_o (st3 HOW.out (.slice none 0 0) (.bool false) (.slice none 0 0)))) rfl ⟨none, none, 0, 0, rfl, st3b HBW.out (by omega) (.slice none 0 0) (.bool false) (.slice none 0 0), fr_nil _ _ _, (fr_nil _ _ _).v⟩
set_option maxRecDepth 100000 in
set_option maxHeartbeats 8000000 in
theorem rtake_up (s : Ss) (n : Nt) (ai az : Option Addr) (ci cz : Nat) (w : World) (hk : n.k = 18 ∨ n.k = 19 ∨ KO n.k) (hup : upK n.k = true) : Calls Tryz.prog 25 #[.agg #[.int .i64 5, .string s.n, .string s.d, .int .i64 s.s, .int .i64 s.t, .int .i64 s.c, .int .i64 s.h, .int .i64 s.a, .int .i64 s.e], .agg #[.int .i64 n.k, .string n.n, .string n.x, .string n.d, .int .i64 n.c, .int .i64 n.s, .int .i64 n.e, .int .i64 n.t, .bool n.o, .slice ai n.l.length ci, .slice az n.z.length cz]] w (StV ai az n ({ s with p := 5, h := 0 }, ⟨[], false, [n]⟩) w) := by
  have hK : KF n.k false false false false true false ∨ KF n.k false false false false false true ∨ KF n.k false false false false false false := by
    rcases hk with h | h | h
    · exact (.inl ⟨by rw [h]; rfl, by rw [h]; rfl, by rw [h]; rfl, by rw [h]; rfl, by rw [h]; rfl, by rw [h]; rfl⟩)
    · exact (.inr (.inl ⟨by rw [h]; rfl, by rw [h]; rfl, by rw [h]; rfl, by rw [h]; rfl, by rw [h]; rfl, by rw [h]; rfl⟩))
    · exact (.inr (.inr (⟨beqf h.1, beqf h.2.1, beqf h.2.2.1, beqf h.2.2.2.1, beqf h.2.2.2.2.1, beqf h.2.2.2.2.2⟩)))
  clear hk
  rcases hK with ⟨q3, q6, q8, q9, q18, q19⟩ | ⟨q3, q6, q8, q9, q18, q19⟩ | ⟨q3, q6, q8, q9, q18, q19⟩
  all_goals
    have hu : undr 5 = true := rfl
    have CP : Hid (∀ W, Calls Tryz.prog 51 #[.int .i64 n.k] W (Gives (.bool true) W)) := fun W => by
      have q := rpasses_any n.k W
      rw [hup] at q
      exact q
    clear hup
    have CU : Hid (∀ W, Calls Tryz.prog 49 #[.agg #[.int .i64 5, .string s.n, .string s.d, .int .i64 s.s, .int .i64 s.t, .int .i64 s.c, .int .i64 s.h, .int .i64 s.a, .int .i64 s.e]] W (Gives (.bool true) W)) := fun W => by
      have q := rundr_any { s with p := 5 } W
      rw [show undr _ = true from hu] at q
      exact q
    clear hu
    obtain ⟨HB, HX, HN, HZ, HO⟩ := bxFour w #[.int .i64 5, .string s.n, .string s.d, .int .i64 s.s, .int .i64 s.t, .int .i64 s.c, .int .i64 s.h, .int .i64 s.a, .int .i64 s.e] 28 #[.int .i64 n.k, .string n.n, .string n.x, .string n.d, .int .i64 n.c, .int .i64 n.s, .int .i64 n.e, .int .i64 n.t, .bool n.o, .slice ai n.l.length ci, .slice az n.z.length cz] 42 #[.int .i64 0, .string ⟨#[]⟩, .string ⟨#[]⟩, .int .i64 0, .int .i64 0, .int .i64 0, .int .i64 0, .int .i64 0, .int .i64 0] 28 #[.slice none 0 0, .bool false, .slice none 0 0] 31
    obtain ⟨m0, m1, m2, m3, m4, m5, m6, m7, m8⟩ := bx9 HX.out
    go_enter Tryz.func25, Tryz.ntmps25
    go_wp2_with fail
    refine (CU.out _).mono ?_
    rintro e w1 ⟨rfl, hb⟩
    clear m0 m1 m2 m3 m4 m5 m6 m7 m8
    have HX1 := kpB hb HX
    have HN1 := kpB hb HN
    have HZ1 := kpB hb HZ
    have HO1 := kpB hb HO
    have HB1 := Lib.hid (HB.out.trans (hb.mono HB.out.size))
    clear hb HB HX HN HZ HO CU
    obtain ⟨m0, m1, m2, m3, m4, m5, m6, m7, m8⟩ := bx9 HX1.out
    obtain ⟨k0, k1, k2, k3, k4, k5, k6, k7, k8, k9, k10⟩ := bx11 HN1.out
    obtain ⟨f0, f1, f2, f3, f4, f5, f6, f7, f8⟩ := bx9f HX1.out
    have hPx : w.heap.size + 3 < w1.heap.size := heap_lt HO1.out
    go_upto_region 4 with fail
    clear m0 m1 m2 m3 m4 m5 m6 m7 m8 f0 f1 f2 f3 f4 f5 f6 f7 f8
    clear k0 k1 k2 k3 k4 k5 k6 k7 k8 k9 k10
    have HX2 : Hid ((w1.setCell ⟨w.heap.size, 6, none⟩ (.int .i64 0)).heap[w.heap.size]? = some (.cells #[.int .i64 5, .string s.n, .string s.d, .int .i64 s.s, .int .i64 s.t, .int .i64 s.c, .int .i64 0, .int .i64 s.a, .int .i64 s.e] 28 (0, 0))) := by
      show _ = _
      simp [World.setCell, Array.getElem?_modify, HX1.out]
    have HN2 := Lib.hid (kp1 (A := w.heap.size) (i := 6) (u := .int .i64 0) (b := w.heap.size + 1) (by omega) HN1.out)
    have HZ2 := Lib.hid (kp1 (A := w.heap.size) (i := 6) (u := .int .i64 0) (b := w.heap.size + 2) (by omega) HZ1.out)
    have HO2 := Lib.hid (kp1 (A := w.heap.size) (i := 6) (u := .int .i64 0) (b := w.heap.size + 3) (by omega) HO1.out)
    have HB2 := Lib.hid (HB1.out.setCell (p := ⟨w.heap.size, 6, none⟩) (Nat.le_refl _) (.int .i64 0))
    clear HX1 HN1 HZ1 HO1 HB1 hPx
    generalize (w1.setCell ⟨w.heap.size, 6, none⟩ (.int .i64 0)) = w2 at HX2 HN2 HZ2 HO2 HB2 ⊢
    obtain ⟨HD3, HBp⟩ := bxOne w2 #[.slice none 0 0, .bool false, .slice none 0 0] 31
    have HX3 := kpB HBp.out HX2
    have HN3 := kpB HBp.out HN2
    have HZ3 := kpB HBp.out HZ2
    have HO3 := kpB HBp.out HO2
    have HB3 := Lib.hid (HB2.out.trans (HBp.out.mono HB2.out.size))
    have hPy : w.heap.size + 3 < w2.heap.size := heap_lt HO2.out
    go_upto_region 5 with fail
    clear HX2 HN2 HZ2 HO2 HB2 HBp
    generalize (w2.alloc (.cells #[.slice none 0 0, .bool false, .slice none 0 0] 31)) = w3 at HX3 HN3 HZ3 HO3 HD3 HB3 ⊢
    generalize w2.heap.size = A6 at hPy HD3 ⊢
    have hA3 : A6 < w3.heap.size := heap_lt HD3.out
    obtain ⟨m0, m1, m2, m3, m4, m5, m6, m7, m8⟩ := bx9 HX3.out
    obtain ⟨k0, k1, k2, k3, k4, k5, k6, k7, k8, k9, k10⟩ := bx11 HN3.out
    obtain ⟨d0, d1, d2⟩ := bx3 HD3.out
    go_upto_region 11 with fail
    have r0 : ∀ y : Ext w3, y.to.cell? _ = _ := fun y => ext_cell y k0
    have r1 : ∀ y : Ext w3, y.to.cell? _ = _ := fun y => ext_cell y m0
    have hsome := extSome w3
    clear m0 m1 m2 m3 m4 m5 m6 m7 m8
    clear k0 k1 k2 k3 k4 k5 k6 k7 k8 k9 k10
    clear d0 d1 d2
    clear hA3
    refine ext_region (by kernel_rfl) (by kernel_rfl) ?_
    repeat (go_big_quiet_step (fail))
    refine wpQuiet_nil ?_
    rintro _ ⟨y, hy⟩
    subst hy
    have HX4 := kpB y.below HX3
    have HN4 := kpB y.below HN3
    have HZ4 := kpB y.below HZ3
    have HO4 := kpB y.below HO3
    have HD4 := kpB y.below HD3
    have HB4 := Lib.hid (HB3.out.trans (y.below.mono HB3.out.size))
    clear hsome r0 r1 HX3 HN3 HZ3 HO3 HD3 HB3
    generalize y.to = w4 at HX4 HN4 HZ4 HO4 HD4 HB4 ⊢
    clear y
    have hA4 : A6 < w4.heap.size := heap_lt HD4.out
    obtain ⟨m0, m1, m2, m3, m4, m5, m6, m7, m8⟩ := bx9 HX4.out
    obtain ⟨k0, k1, k2, k3, k4, k5, k6, k7, k8, k9, k10⟩ := bx11 HN4.out
    obtain ⟨d0, d1, d2⟩ := bx3 HD4.out
    go_wp2_with fail
    refine (CP.out _).mono ?_
    rintro e w5 ⟨rfl, hb⟩
    clear m0 m1 m2 m3 m4 m5 m6 m7 m8
    clear k0 k1 k2 k3 k4 k5 k6 k7 k8 k9 k10
    clear d0 d1 d2
    clear hA4
    have HX5 := kpB hb HX4
    have HN5 := kpB hb HN4
    have HZ5 := kpB hb HZ4
    have HO5 := kpB hb HO4
    have HD5 := kpB hb HD4
    have HB5 := Lib.hid (HB4.out.trans (hb.mono HB4.out.size))
    clear hb CP HX4 HN4 HZ4 HO4 HD4 HB4
    have hA5 : A6 < w5.heap.size := heap_lt HD5.out
    obtain ⟨m0, m1, m2, m3, m4, m5, m6, m7, m8⟩ := bx9 HX5.out
    obtain ⟨k0, k1, k2, k3, k4, k5, k6, k7, k8, k9, k10⟩ := bx11 HN5.out
    obtain ⟨d0, d1, d2⟩ := bx3 HD5.out
    obtain ⟨f0, f1, f2⟩ := bx3f HD5.out
    go_upto_region 27 with fail
    clear f0 f1 f2
    have HDg : Hid ((w5.setCell ⟨A6, 2, none⟩ (.slice (some ⟨w5.heap.size, 0, none⟩) 1 1)).heap[A6]? = some (.cells #[.slice none 0 0, .bool false, .slice (some ⟨w5.heap.size, 0, none⟩) 1 1] 31 (0, 0))) := by
      show _ = _
      simp only [World.setCell, Array.getElem?_modify, HD5.out]
      simp
    have HXg := Lib.hid (kp1 (A := A6) (i := 2) (u := .slice (some ⟨w5.heap.size, 0, none⟩) 1 1) (b := w.heap.size) (by omega) HX5.out)
    have HNg := Lib.hid (kp1 (A := A6) (i := 2) (u := .slice (some ⟨w5.heap.size, 0, none⟩) 1 1) (b := w.heap.size + 1) (by omega) HN5.out)
    have HZg := Lib.hid (kp1 (A := A6) (i := 2) (u := .slice (some ⟨w5.heap.size, 0, none⟩) 1 1) (b := w.heap.size + 2) (by omega) HZ5.out)
    have HOg := Lib.hid (kp1 (A := A6) (i := 2) (u := .slice (some ⟨w5.heap.size, 0, none⟩) 1 1) (b := w.heap.size + 3) (by omega) HO5.out)
    have HBg := Lib.hid (HB5.out.setCell (p := ⟨A6, 2, none⟩) (show w.heap.size ≤ A6 by omega) (.slice (some ⟨w5.heap.size, 0, none⟩) 1 1))
    obtain ⟨HRn, HBn⟩ := bxOne (w5.setCell ⟨A6, 2, none⟩ (.slice (some ⟨w5.heap.size, 0, none⟩) 1 1)) #[.int .i64 n.k, .string n.n, .string n.x, .string n.d, .int .i64 n.c, .int .i64 n.s, .int .i64 n.e, .int .i64 n.t, .bool n.o, .slice ai n.l.length ci, .slice az n.z.length cz] 42
    have HR16 : Hid (((w5.setCell ⟨A6, 2, none⟩ (.slice (some ⟨w5.heap.size, 0, none⟩) 1 1)).alloc (.cells #[.int .i64 n.k, .string n.n, .string n.x, .string n.d, .int .i64 n.c, .int .i64 n.s, .int .i64 n.e, .int .i64 n.t, .bool n.o, .slice ai n.l.length ci, .slice az n.z.length cz] 42)).heap[w5.heap.size]? = some (.cells #[.int .i64 n.k, .string n.n, .string n.x, .string n.d, .int .i64 n.c, .int .i64 n.s, .int .i64 n.e, .int .i64 n.t, .bool n.o, .slice ai n.l.length ci, .slice az n.z.length cz] 42 (0, 0))) := by
      have h := HRn.out
      rw [st_size] at h
      exact h
    have HX6 := kpB HBn.out HXg
    have HN6 := kpB HBn.out HNg
    have HZ6 := kpB HBn.out HZg
    have HO6 := kpB HBn.out HOg
    have HD6 := kpB HBn.out HDg
    have HB6 := Lib.hid (HBg.out.trans (HBn.out.mono (by rw [st_size]; exact HB5.out.size)))
    have hR1 : A6 < w5.heap.size := hA5
    clear m0 m1 m2 m3 m4 m5 m6 m7 m8
    clear k0 k1 k2 k3 k4 k5 k6 k7 k8 k9 k10
    clear d0 d1 d2
    clear hA5
    clear HRn HBn HXg HNg HZg HOg HDg HBg HX5 HN5 HZ5 HO5 HD5 HB5
    generalize ((w5.setCell ⟨A6, 2, none⟩ (.slice (some ⟨w5.heap.size, 0, none⟩) 1 1)).alloc (.cells #[.int .i64 n.k, .string n.n, .string n.x, .string n.d, .int .i64 n.c, .int .i64 n.s, .int .i64 n.e, .int .i64 n.t, .bool n.o, .slice ai n.l.length ci, .slice az n.z.length cz] 42)) = w6 at HX6 HN6 HZ6 HO6 HD6 HR16 HB6 ⊢
    generalize w5.heap.size = R1 at HD6 HR16 hR1 ⊢
    have hA6 : A6 < w6.heap.size := heap_lt HD6.out
    obtain ⟨m0, m1, m2, m3, m4, m5, m6, m7, m8⟩ := bx9 HX6.out
    obtain ⟨k0, k1, k2, k3, k4, k5, k6, k7, k8, k9, k10⟩ := bx11 HN6.out
    obtain ⟨d0, d1, d2⟩ := bx3 HD6.out
    go_upto_region 29 with fail
    clear m0 m1 m2 m3 m4 m5 m6 m7 m8
    clear k0 k1 k2 k3 k4 k5 k6 k7 k8 k9 k10
    clear d0 d1 d2
    clear hA6
    have hZN : w.heap.size + 1 + 1 < w6.heap.size := heap_lt HZ6.out
    have hAN : A6 < w6.heap.size := heap_lt HD6.out
    refine region_Z (w := w) (Z := w.heap.size + 1 + 1) 3 2 (fun j => [140, 141, 100002].getD j 0) [140, 141] [.eq (.agg #[.int .i64 5, .string s.n, .string s.d, .int .i64 s.s, .int .i64 s.t, .int .i64 s.c, .int .i64 0, .int .i64 s.a, .int .i64 s.e]), .eq (.agg #[.slice none 0 0, .bool false, .slice (some ⟨R1, 0, none⟩) 1 1]), .st #[.int .i64 5, .string s.n, .string s.d, .int .i64 s.s, .int .i64 s.t, .int .i64 s.c, .int .i64 0, .int .i64 s.a, .int .i64 s.e]] (by kernel_rfl) (by kernel_rfl) (by kernel_rfl) (by kernel_rfl) (by decide) (by kernel_rfl) (by kernel_rfl) (by kernel_rfl) (by kernel_rfl) (fun h => absurd (show 2 < 3 by decide) h) HB6.out HZ6.out ?_ ?_
    · intro i o hi ho q W hsz hout hJ hZ0 hdep
      have HXW := oldJ hJ (by omega) HX6
      obtain ⟨x0, x1, x2, x3, x4, x5, x6, x7, x8⟩ := bx9 HXW.out
      have HDW := oldJ hJ (by omega) HD6
      obtain ⟨y0, y1, y2⟩ := bx3 HDW.out
      have hc : i = 0 ∨ i = 1 ∨ i = 2 := by omega
      rcases hc with rfl | rfl | rfl
      · -- 0
        cases ho
        refine plainR (by decide) ?_
        have e2 : q.eval (.tmp 2) = .pointer (some ⟨w.heap.size, 0, none⟩) := (hout 2 (by decide)).trans rfl
        refine gives_read (v := .agg #[.int .i64 5, .string s.n, .string s.d, .int .i64 s.s, .int .i64 s.t, .int .i64 s.c, .int .i64 0, .int .i64 s.a, .int .i64 s.e]) ?_ rfl
        unfold execOp
        dsimp only
        rw [e2]
        go_simp
      · -- 1
        cases ho
        refine plainR (by decide) ?_
        have e6 : q.eval (.tmp 6) = .pointer (some ⟨A6, 0, none⟩) := (hout 6 (by decide)).trans rfl
        refine gives_read (v := .agg #[.slice none 0 0, .bool false, .slice (some ⟨R1, 0, none⟩) 1 1]) ?_ rfl
        unfold execOp
        dsimp only
        rw [e6]
        go_simp
      · -- 2
        cases ho
        have e4 : q.eval (.tmp 4) = .pointer (some ⟨w.heap.size + 1 + 1, 0, none⟩) := (hout 4 (by decide)).trans rfl
        have e140 : q.eval (.tmp 140) = .agg #[.int .i64 5, .string s.n, .string s.d, .int .i64 s.s, .int .i64 s.t, .int .i64 s.c, .int .i64 0, .int .i64 s.a, .int .i64 s.e] := hdep ⟨0, .data⟩ (by simp) rfl (by decide)
        have hz := hZ0 (by kernel_rfl)
        obtain ⟨zc0, zc1, zc2, zc3, zc4, zc5, zc6, zc7, zc8⟩ := bx9 hz
        obtain ⟨zf0, zf1, zf2, zf3, zf4, zf5, zf6, zf7, zf8⟩ := bx9f hz
        refine givesR_skip ?_ (stZ_of (by omega) hz (.int .i64 5) (.string s.n) (.string s.d) (.int .i64 s.s) (.int .i64 s.t) (.int .i64 s.c) (.int .i64 0) (.int .i64 s.a) (.int .i64 s.e)) (st9 hz (.int .i64 5) (.string s.n) (.string s.d) (.int .i64 s.s) (.int .i64 s.t) (.int .i64 s.c) (.int .i64 0) (.int .i64 s.a) (.int .i64 s.e))
        unfold execOp
        dsimp only
        rw [e4, e140]
        go_simp
    · intro q W hq hJ hv
      have e141 : q.eval (.tmp 141) = .agg #[.slice none 0 0, .bool false, .slice (some ⟨R1, 0, none⟩) 1 1] := hv 1 (by decide)
      have hZW : W.heap[w.heap.size + 1 + 1]? = some (.cells #[.int .i64 5, .string s.n, .string s.d, .int .i64 s.s, .int .i64 s.t, .int .i64 s.c, .int .i64 0, .int .i64 s.a, .int .i64 s.e] 28 (0, 0)) := hv 2 (by decide)
      have HBW := Lib.hid hJ.bel
      have HOW := oldJ hJ (by omega) HO6
      have HZW := Lib.hid hZW
      have HR1W := oldJ hJ (by omega) HR16
      clear hJ hZW HX6 HN6 HZ6 HO6 HD6 HR16
      have hq2 : q = canonL q [140, 141] _ := hq
      simp only [canonL] at hq2
      rw [e141] at hq2
      clear hq hv e141
      generalize q.eval (.tmp 140) = u140 at hq2
      subst hq2
      obtain ⟨y0, y1, y2⟩ := bx3 HOW.out
      obtain ⟨v0, v1, v2⟩ := bx3f HOW.out
      simp only [List.drop_succ_cons, List.drop_zero]
      go_wp2_with fail
      exact bodyPost_ret (results_two Tryz.results25 _ _ (w.heap.size + 2) (w.heap.size + 3) _ _ rfl rfl (load_s ((st3k (by omega) (.slice none 0 0) (.bool false) (.slice (some ⟨R1, 0, none⟩) 1 1)).trans HZW.out)) (load_o (st3 HOW.out (.slice none 0 0) (.bool false) (.slice (some ⟨R1, 0, none⟩) 1 1)))) rfl ⟨none, some ⟨R1, 0, none⟩, 0, 1, rfl, st3b HBW.out (by omega) (.slice none 0 0) (.bool false) (.slice (some ⟨R1, 0, none⟩) 1 1), fr_nil _ _ _, fv_one n (by omega) ((st3k (by omega) (.slice none 0 0) (.bool false) (.slice (some ⟨R1, 0, none⟩) 1 1)).trans HR1W.out)⟩
set_option maxRecDepth 100000 in
set_option maxHeartbeats 8000000 in
theorem rtake_n5 (s : Ss) (n : Nt) (ai az : Option Addr) (ci cz : Nat) (w : World) (hk : n.k = 6 ∨ n.k = 8 ∨ n.k = 9 ∨ KO n.k) (hup : upK n.k = false) : Calls Tryz.prog 25 #[.agg #[.int .i64 5, .string s.n, .string s.d, .int .i64 s.s, .int .i64 s.t, .int .i64 s.c, .int .i64 s.h, .int .i64 s.a, .int .i64 s.e], .agg #[.int .i64 n.k, .string n.n, .string n.x, .string n.d, .int .i64 n.c, .int .i64 n.s, .int .i64 n.e, .int .i64 n.t, .bool n.o, .slice ai n.l.length ci, .slice az n.z.length cz]] w (StV ai az n ({ s with p := 5, h := 0 }, zO) w) := by
  have hK : KF n.k false true false false false false ∨ KF n.k false false true false false false ∨ KF n.k false false false true false false ∨ KF n.k false false false false false false := by
    rcases hk with h | h | h | h
    · exact (.inl ⟨by rw [h]; rfl, by rw [h]; rfl, by rw [h]; rfl, by rw [h]; rfl, by rw [h]; rfl, by rw [h]; rfl⟩)
    · exact (.inr (.inl ⟨by rw [h]; rfl, by rw [h]; rfl, by rw [h]; rfl, by rw [h]; rfl, by rw [h]; rfl, by rw [h]; rfl⟩))
    · exact (.inr (.inr (.inl ⟨by rw [h]; rfl, by rw [h]; rfl, by rw [h]; rfl, by rw [h]; rfl, by rw [h]; rfl, by rw [h]; rfl⟩)))
    · exact (.inr (.inr (.inr (⟨beqf h.1, beqf h.2.1, beqf h.2.2.1, beqf h.2.2.2.1, beqf h.2.2.2.2.1, beqf h.2.2.2.2.2⟩))))
  clear hk
  rcases hK with ⟨q3, q6, q8, q9, q18, q19⟩ | ⟨q3, q6, q8, q9, q18, q19⟩ | ⟨q3, q6, q8, q9, q18, q19⟩ | ⟨q3, q6, q8, q9, q18, q19⟩
  all_goals
    have hu : undr 5 = true := rfl
    have CP : Hid (∀ W, Calls Tryz.prog 51 #[.int .i64 n.k] W (Gives (.bool false) W)) := fun W => by
      have q := rpasses_any n.k W
      rw [hup] at q
      exact q
    clear hup
    have CU : Hid (∀ W, Calls Tryz.prog 49 #[.agg #[.int .i64 5, .string s.n, .string s.d, .int .i64 s.s, .int .i64 s.t, .int .i64 s.c, .int .i64 s.h, .int .i64 s.a, .int .i64 s.e]] W (Gives (.bool true) W)) := fun W => by
      have q := rundr_any { s with p := 5 } W
      rw [show undr _ = true from hu] at q
      exact q
    clear hu
    obtain ⟨HB, HX, HN, HZ, HO⟩ := bxFour w #[.int .i64 5, .string s.n, .string s.d, .int .i64 s.s, .int .i64 s.t, .int .i64 s.c, .int .i64 s.h, .int .i64 s.a, .int .i64 s.e] 28 #[.int .i64 n.k, .string n.n, .string n.x, .string n.d, .int .i64 n.c, .int .i64 n.s, .int .i64 n.e, .int .i64 n.t, .bool n.o, .slice ai n.l.length ci, .slice az n.z.length cz] 42 #[.int .i64 0, .string ⟨#[]⟩, .string ⟨#[]⟩, .int .i64 0, .int .i64 0, .int .i64 0, .int .i64 0, .int .i64 0, .int .i64 0] 28 #[.slice none 0 0, .bool false, .slice none 0 0] 31
    obtain ⟨m0, m1, m2, m3, m4, m5, m6, m7, m8⟩ := bx9 HX.out
    go_enter Tryz.func25, Tryz.ntmps25
    go_wp2_with fail
    refine (CU.out _).mono ?_
    rintro e w1 ⟨rfl, hb⟩
    clear m0 m1 m2 m3 m4 m5 m6 m7 m8
    have HX1 := kpB hb HX
    have HN1 := kpB hb HN
    have HZ1 := kpB hb HZ
    have HO1 := kpB hb HO
    have HB1 := Lib.hid (HB.out.trans (hb.mono HB.out.size))
    clear hb HB HX HN HZ HO CU
    obtain ⟨m0, m1, m2, m3, m4, m5, m6, m7, m8⟩ := bx9 HX1.out
    obtain ⟨k0, k1, k2, k3, k4, k5, k6, k7, k8, k9, k10⟩ := bx11 HN1.out
    obtain ⟨f0, f1, f2, f3, f4, f5, f6, f7, f8⟩ := bx9f HX1.out
    have hPx : w.heap.size + 3 < w1.heap.size := heap_lt HO1.out
    go_upto_region 4 with fail
    clear m0 m1 m2 m3 m4 m5 m6 m7 m8 f0 f1 f2 f3 f4 f5 f6 f7 f8
    clear k0 k1 k2 k3 k4 k5 k6 k7 k8 k9 k10
    have HX2 : Hid ((w1.setCell ⟨w.heap.size, 6, none⟩ (.int .i64 0)).heap[w.heap.size]? = some (.cells #[.int .i64 5, .string s.n, .string s.d, .int .i64 s.s, .int .i64 s.t, .int .i64 s.c, .int .i64 0, .int .i64 s.a, .int .i64 s.e] 28 (0, 0))) := by
      show _ = _
      simp [World.setCell, Array.getElem?_modify, HX1.out]
    have HN2 := Lib.hid (kp1 (A := w.heap.size) (i := 6) (u := .int .i64 0) (b := w.heap.size + 1) (by omega) HN1.out)
    have HZ2 := Lib.hid (kp1 (A := w.heap.size) (i := 6) (u := .int .i64 0) (b := w.heap.size + 2) (by omega) HZ1.out)
    have HO2 := Lib.hid (kp1 (A := w.heap.size) (i := 6) (u := .int .i64 0) (b := w.heap.size + 3) (by omega) HO1.out)
    have HB2 := Lib.hid (HB1.out.setCell (p := ⟨w.heap.size, 6, none⟩) (Nat.le_refl _) (.int .i64 0))
    clear HX1 HN1 HZ1 HO1 HB1 hPx
    generalize (w1.setCell ⟨w.heap.size, 6, none⟩ (.int .i64 0)) = w2 at HX2 HN2 HZ2 HO2 HB2 ⊢
    obtain ⟨HD3, HBp⟩ := bxOne w2 #[.slice none 0 0, .bool false, .slice none 0 0] 31
    have HX3 := kpB HBp.out HX2
    have HN3 := kpB HBp.out HN2
    have HZ3 := kpB HBp.out HZ2
    have HO3 := kpB HBp.out HO2
    have HB3 := Lib.hid (HB2.out.trans (HBp.out.mono HB2.out.size))
    have hPy : w.heap.size + 3 < w2.heap.size := heap_lt HO2.out
    go_upto_region 5 with fail
    clear HX2 HN2 HZ2 HO2 HB2 HBp
    generalize (w2.alloc (.cells #[.slice none 0 0, .bool false, .slice none 0 0] 31)) = w3 at HX3 HN3 HZ3 HO3 HD3 HB3 ⊢
    generalize w2.heap.size = A6 at hPy HD3 ⊢
    have hA3 : A6 < w3.heap.size := heap_lt HD3.out
    obtain ⟨m0, m1, m2, m3, m4, m5, m6, m7, m8⟩ := bx9 HX3.out
    obtain ⟨k0, k1, k2, k3, k4, k5, k6, k7, k8, k9, k10⟩ := bx11 HN3.out
    obtain ⟨d0, d1, d2⟩ := bx3 HD3.out
    go_upto_region 11 with fail
    have r0 : ∀ y : Ext w3, y.to.cell? _ = _ := fun y => ext_cell y k0
    have r1 : ∀ y : Ext w3, y.to.cell? _ = _ := fun y => ext_cell y m0
    have hsome := extSome w3
    clear m0 m1 m2 m3 m4 m5 m6 m7 m8
    clear k0 k1 k2 k3 k4 k5 k6 k7 k8 k9 k10
    clear d0 d1 d2
    clear hA3
    refine ext_region (by kernel_rfl) (by kernel_rfl) ?_
    repeat (go_big_quiet_step (fail))
    refine wpQuiet_nil ?_
    rintro _ ⟨y, hy⟩
    subst hy
    have HX4 := kpB y.below HX3
    have HN4 := kpB y.below HN3
    have HZ4 := kpB y.below HZ3
    have HO4 := kpB y.below HO3
    have HD4 := kpB y.below HD3
    have HB4 := Lib.hid (HB3.out.trans (y.below.mono HB3.out.size))
    clear hsome r0 r1 HX3 HN3 HZ3 HO3 HD3 HB3
    generalize y.to = w4 at HX4 HN4 HZ4 HO4 HD4 HB4 ⊢
    clear y
    have hA4 : A6 < w4.heap.size := heap_lt HD4.out
    obtain ⟨m0, m1, m2, m3, m4, m5, m6, m7, m8⟩ := bx9 HX4.out
    obtain ⟨k0, k1, k2, k3, k4, k5, k6, k7, k8, k9, k10⟩ := bx11 HN4.out
    obtain ⟨d0, d1, d2⟩ := bx3 HD4.out
    go_wp2_with fail
    refine (CP.out _).mono ?_
    rintro e w5 ⟨rfl, hb⟩
    clear m0 m1 m2 m3 m4 m5 m6 m7 m8
    clear k0 k1 k2 k3 k4 k5 k6 k7 k8 k9 k10
    clear d0 d1 d2
    clear hA4
    have HX5 := kpB hb HX4
    have HN5 := kpB hb HN4
    have HZ5 := kpB hb HZ4
    have HO5 := kpB hb HO4
    have HD5 := kpB hb HD4
    have HB5 := Lib.hid (HB4.out.trans (hb.mono HB4.out.size))
    clear hb CP HX4 HN4 HZ4 HO4 HD4 HB4
    have hA5 : A6 < w5.heap.size := heap_lt HD5.out
    obtain ⟨m0, m1, m2, m3, m4, m5, m6, m7, m8⟩ := bx9 HX5.out
    obtain ⟨k0, k1, k2, k3, k4, k5, k6, k7, k8, k9, k10⟩ := bx11 HN5.out
    obtain ⟨d0, d1, d2⟩ := bx3 HD5.out
    go_upto_region 29 with fail
    clear m0 m1 m2 m3 m4 m5 m6 m7 m8
    clear k0 k1 k2 k3 k4 k5 k6 k7 k8 k9 k10
    clear d0 d1 d2
    clear hA5
    have hZN : w.heap.size + 1 + 1 < w5.heap.size := heap_lt HZ5.out
    have hAN : A6 < w5.heap.size := heap_lt HD5.out
    refine region_Z (w := w) (Z := w.heap.size + 1 + 1) 3 2 (fun j => [140, 141, 100002].getD j 0) [140, 141] [.eq (.agg #[.int .i64 5, .string s.n, .string s.d, .int .i64 s.s, .int .i64 s.t, .int .i64 s.c, .int .i64 0, .int .i64 s.a, .int .i64 s.e]), .eq (.agg #[.slice none 0 0, .bool false, .slice none 0 0]), .st #[.int .i64 5, .string s.n, .string s.d, .int .i64 s.s, .int .i64 s.t, .int .i64 s.c, .int .i64 0, .int .i64 s.a, .int .i64 s.e]] (by kernel_rfl) (by kernel_rfl) (by kernel_rfl) (by kernel_rfl) (by decide) (by kernel_rfl) (by kernel_rfl) (by kernel_rfl) (by kernel_rfl) (fun h => absurd (show 2 < 3 by decide) h) HB5.out HZ5.out ?_ ?_
    · intro i o hi ho q W hsz hout hJ hZ0 hdep
      have HXW := oldJ hJ (by omega) HX5
      obtain ⟨x0, x1, x2, x3, x4, x5, x6, x7, x8⟩ := bx9 HXW.out
      have HDW := oldJ hJ (by omega) HD5
      obtain ⟨y0, y1, y2⟩ := bx3 HDW.out
      have hc : i = 0 ∨ i = 1 ∨ i = 2 := by omega
      rcases hc with rfl | rfl | rfl
      · -- 0
        cases ho
        refine plainR (by decide) ?_
        have e2 : q.eval (.tmp 2) = .pointer (some ⟨w.heap.size, 0, none⟩) := (hout 2 (by decide)).trans rfl
        refine gives_read (v := .agg #[.int .i64 5, .string s.n, .string s.d, .int .i64 s.s, .int .i64 s.t, .int .i64 s.c, .int .i64 0, .int .i64 s.a, .int .i64 s.e]) ?_ rfl
        unfold execOp
        dsimp only
        rw [e2]
        go_simp
      · -- 1
        cases ho
        refine plainR (by decide) ?_
        have e6 : q.eval (.tmp 6) = .pointer (some ⟨A6, 0, none⟩) := (hout 6 (by decide)).trans rfl
        refine gives_read (v := .agg #[.slice none 0 0, .bool false, .slice none 0 0]) ?_ rfl
        unfold execOp
        dsimp only
        rw [e6]
        go_simp
      · -- 2
        cases ho
        have e4 : q.eval (.tmp 4) = .pointer (some ⟨w.heap.size + 1 + 1, 0, none⟩) := (hout 4 (by decide)).trans rfl
        have e140 : q.eval (.tmp 140) = .agg #[.int .i64 5, .string s.n, .string s.d, .int .i64 s.s, .int .i64 s.t, .int .i64 s.c, .int .i64 0, .int .i64 s.a, .int .i64 s.e] := hdep ⟨0, .data⟩ (by simp) rfl (by decide)
        have hz := hZ0 (by kernel_rfl)
        obtain ⟨zc0, zc1, zc2, zc3, zc4, zc5, zc6, zc7, zc8⟩ := bx9 hz
        obtain ⟨zf0, zf1, zf2, zf3, zf4, zf5, zf6, zf7, zf8⟩ := bx9f hz
        refine givesR_skip ?_ (stZ_of (by omega) hz (.int .i64 5) (.string s.n) (.string s.d) (.int .i64 s.s) (.int .i64 s.t) (.int .i64 s.c) (.int .i64 0) (.int .i64 s.a) (.int .i64 s.e)) (st9 hz (.int .i64 5) (.string s.n) (.string s.d) (.int .i64 s.s) (.int .i64 s.t) (.int .i64 s.c) (.int .i64 0) (.int .i64 s.a) (.int .i64 s.e))
        unfold execOp
        dsimp only
        rw [e4, e140]
        go_simp
    · intro q W hq hJ hv
      have e141 : q.eval (.tmp 141) = .agg #[.slice none 0 0, .bool false, .slice none 0 0] := hv 1 (by decide)
      have hZW : W.heap[w.heap.size + 1 + 1]? = some (.cells #[.int .i64 5, .string s.n, .string s.d, .int .i64 s.s, .int .i64 s.t, .int .i64 s.c, .int .i64 0, .int .i64 s.a, .int .i64 s.e] 28 (0, 0)) := hv 2 (by decide)
      have HBW := Lib.hid hJ.bel
      have HOW := oldJ hJ (by omega) HO5
      have HZW := Lib.hid hZW
      clear hJ hZW HX5 HN5 HZ5 HO5 HD5
      have hq2 : q = canonL q [140, 141] _ := hq
      simp only [canonL] at hq2
      rw [e141] at hq2
      clear hq hv e141
      generalize q.eval (.tmp 140) = u140 at hq2
      subst hq2
      obtain ⟨y0, y1, y2⟩ := bx3 HOW.out
      obtain ⟨v0, v1, v2⟩ := bx3f HOW.out
      simp only [List.drop_succ_cons, List.drop_zero]
      go_wp2_with fail
      exact bodyPost_ret (results_two Tryz.results25 _ _ (w.heap.size + 2) (w.heap.size + 3) _ _ rfl rfl (load_s ((st3k (by omega) (.slice none 0 0) (.bool false) (.slice none 0 0)).trans HZW.out)) (load_o (st3 HOW.out (.slice none 0 0) (.bool false) (.slice none 0 0)))) rfl ⟨none, none, 0, 0, rfl, st3b HBW.out (by omega) (.slice none 0 0) (.bool false) (.slice none 0 0), fr_nil _ _ _, (fr_nil _ _ _).v⟩
end Go.Proofs.YthbeempmdpfnmaaGreatDoor.T
