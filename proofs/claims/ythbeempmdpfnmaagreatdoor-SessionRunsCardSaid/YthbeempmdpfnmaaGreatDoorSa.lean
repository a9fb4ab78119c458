/- Contract: Start of package session where all holds. Conditions: those of the theorem's head. -/
import Derived.Test.YthbeempmdpfnmaaGreatDoorS9
namespace Go.Proofs.YthbeempmdpfnmaaGreatDoor.T
open Go.RowKit Go.Lib

set_option maxRecDepth 100000 in
set_option maxHeartbeats 8000000 in
theorem start_y (n d : ByteArray) (s t c : Int) (w : World) (hn : n.size ≤ 1048576) (hd : d.size ≤ 1000000) (h0 : isN n = true) (h1 : pwB d = true) (h2 : inB s 0 65535 = true) (h3 : inB t 0 4294967295 = true) (h4 : inB c 0 65535 = true) : Calls Tryz.prog 15 #[.string n, .string d, .int .i64 s, .int .i64 t, .int .i64 c] w fun e w' => ∃ g, e = .returned (.tuple #[.agg #[.int .i64 1, .string n, .string d, .int .i64 s, .int .i64 t, .int .i64 c, .int .i64 0, .int .i64 0, .int .i64 0], .agg #[.slice (some ⟨g, 0, none⟩) 2 2, .bool true, .slice none 0 0], .int .i64 0]) ∧ Below w.heap.size w w' ∧ w'.heap[g]? = some (.cells #[.int .i64 1, .string ⟨#[]⟩, .string ⟨#[]⟩, .string ⟨#[]⟩, .int .i64 0, .int .i64 0, .int .i64 0, .int .i64 0, .bool false, .slice none 0 0, .slice none 0 0, .int .i64 5, .string n, .string ⟨#[]⟩, .string ⟨#[]⟩, .int .i64 0, .int .i64 0, .int .i64 0, .int .i64 0, .bool false, .slice none 0 0, .slice none 0 0] 42 (0, 0)) ∧ w.heap.size ≤ g := by
  have CLd := Lib.hid (fun W => clone_any d W (Nat.le_trans hd (by decide)))
  have CL := Lib.hid (fun W => clone_any n W (Nat.le_trans hn (by decide)))
  have C0 := Lib.hid (fun W => hcheck_any n W hn)
  have e0 : Hd.nm n.data.toList = true := h0
  rw [e0] at C0
  clear e0
  change Hid (∀ W, Calls Tryz.prog 29 #[.string n] W fun e w' => e = .returned (.int .i64 0) ∧ Below W.heap.size W w') at C0
  have C1 := Lib.hid (fun W => pw_any d W)
  rw [h1] at C1
  have C2 := Lib.hid (fun W => isIn_any s 65535 W)
  rw [h2] at C2
  have C3 := Lib.hid (fun W => isIn_any t 4294967295 W)
  rw [h3] at C3
  have C4 := Lib.hid (fun W => isIn_any c 65535 W)
  rw [h4] at C4
  clear h0 h1 h2 h3 h4
  obtain ⟨HB, HZ, HO⟩ := bxTwo w #[.int .i64 0, .string ⟨#[]⟩, .string ⟨#[]⟩, .int .i64 0, .int .i64 0, .int .i64 0, .int .i64 0, .int .i64 0, .int .i64 0] 28 #[.slice none 0 0, .bool false, .slice none 0 0] 31
  go_enter Tryz.func15, Tryz.ntmps15
  go_wp2_with fail
  refine (C0.out _).mono ?_
  rintro e w1 ⟨rfl, hb⟩
  have HZ1 := kpB hb HZ
  have HO1 := kpB hb HO
  have HB1 := Lib.hid (HB.out.trans (hb.mono HB.out.size))
  clear hb HZ HO HB C0
  go_wp2_with fail
  refine (C1.out _).mono ?_
  rintro e w2 ⟨rfl, hb⟩
  have HZ2 := kpB hb HZ1
  have HO2 := kpB hb HO1
  have HB2 := Lib.hid (HB1.out.trans (hb.mono HB1.out.size))
  clear hb HZ1 HO1 HB1 C1
  go_wp2_with fail
  refine (C2.out _).mono ?_
  rintro e wz ⟨rfl, hw⟩
  have hw := hw.symm
  subst hw
  go_wp2_with fail
  refine (C3.out _).mono ?_
  rintro e wz ⟨rfl, hw⟩
  have hw := hw.symm
  subst hw
  go_wp2_with fail
  refine (C4.out _).mono ?_
  rintro e wz ⟨rfl, hw⟩
  have hw := hw.symm
  subst hw
  have CY : Hid (∀ (a : Option Addr) (k e : Nat) (W : World), Calls Tryz.prog 33 #[.agg #[.int .i64 1, .string n, .string d, .int .i64 s, .int .i64 t, .int .i64 c, .int .i64 0, .int .i64 0, .int .i64 0], .slice a k e] W (Gives (.tuple #[.agg #[.int .i64 1, .string n, .string d, .int .i64 s, .int .i64 t, .int .i64 c, .int .i64 0, .int .i64 0, .int .i64 0], .agg #[.slice a k e, .bool false, .slice none 0 0]]) W)) := fun a k e W => say_any ⟨1, n, d, s, t, c, 0, 0, 0⟩ a k e W
  go_wp2_with fail
  refine (CL.out _).mono ?_
  rintro e w3 ⟨rfl, hb⟩
  have HZ3 := kpB hb HZ2
  have HO3 := kpB hb HO2
  have HB3 := Lib.hid (HB2.out.trans (hb.mono HB2.out.size))
  clear hb HZ2 HO2 HB2
  go_wp2_with fail
  refine (CLd.out _).mono ?_
  rintro e w4 ⟨rfl, hb⟩
  have HZ4 := kpB hb HZ3
  have HO4 := kpB hb HO3
  have HB4 := Lib.hid (HB3.out.trans (hb.mono HB3.out.size))
  clear hb HZ3 HO3 HB3 CLd
  go_upto_region 4 with fail
  have hA1 : w.heap.size + 1 < w4.heap.size := heap_lt HO4.out
  obtain ⟨HX, HBs⟩ := bxOne w4 #[.int .i64 1, .string n, .string d, .int .i64 s, .int .i64 t, .int .i64 c, .int .i64 0, .int .i64 0, .int .i64 0] 28
  have HZ := kpB HBs.out HZ4
  have HO := kpB HBs.out HO4
  have HB := Lib.hid (HB4.out.trans (HBs.out.mono HB4.out.size))
  have hZN : w4.heap.size < (w4.alloc (.cells #[.int .i64 1, .string n, .string d, .int .i64 s, .int .i64 t, .int .i64 c, .int .i64 0, .int .i64 0, .int .i64 0] 28)).heap.size := heap_lt HX.out
  clear HBs HZ4 HO4 HB4
  generalize (w4.alloc (.cells #[.int .i64 1, .string n, .string d, .int .i64 s, .int .i64 t, .int .i64 c, .int .i64 0, .int .i64 0, .int .i64 0] 28)) = W0 at HX HZ HO HB hZN ⊢
  generalize w4.heap.size = A13 at HX hA1 hZN ⊢
  refine region_Z (w := w) (Z := A13) 12 11 (fun j => [49, 50, 51, 52, 53, 54, 55, 48, 56, 57, 14, 100011].getD j 0) [49, 50, 51, 52, 53, 54, 55, 48, 56, 57, 14] [.eq (.agg #[.int .i64 1, .string n, .string d, .int .i64 s, .int .i64 t, .int .i64 c, .int .i64 0, .int .i64 0, .int .i64 0]), .eq (.agg #[.int .i64 1, .string ⟨#[]⟩, .string ⟨#[]⟩, .string ⟨#[]⟩, .int .i64 0, .int .i64 0, .int .i64 0, .int .i64 0, .bool false, .slice none 0 0, .slice none 0 0]), .eq (.string n), .eq (.string n), .eq (.agg #[.int .i64 5, .string n, .string ⟨#[]⟩, .string ⟨#[]⟩, .int .i64 0, .int .i64 0, .int .i64 0, .int .i64 0, .bool false, .slice none 0 0, .slice none 0 0]), .ex (W0.heap.size) hZN #[.int .i64 1, .string ⟨#[]⟩, .string ⟨#[]⟩, .string ⟨#[]⟩, .int .i64 0, .int .i64 0, .int .i64 0, .int .i64 0, .bool false, .slice none 0 0, .slice none 0 0, .int .i64 5, .string n, .string ⟨#[]⟩, .string ⟨#[]⟩, .int .i64 0, .int .i64 0, .int .i64 0, .int .i64 0, .bool false, .slice none 0 0, .slice none 0 0] 42 (fun B => .slice (some ⟨B, 0, none⟩) 2 2), .ex (W0.heap.size) hZN #[.int .i64 1, .string ⟨#[]⟩, .string ⟨#[]⟩, .string ⟨#[]⟩, .int .i64 0, .int .i64 0, .int .i64 0, .int .i64 0, .bool false, .slice none 0 0, .slice none 0 0, .int .i64 5, .string n, .string ⟨#[]⟩, .string ⟨#[]⟩, .int .i64 0, .int .i64 0, .int .i64 0, .int .i64 0, .bool false, .slice none 0 0, .slice none 0 0] 42 (fun B => .tuple #[.agg #[.int .i64 1, .string n, .string d, .int .i64 s, .int .i64 t, .int .i64 c, .int .i64 0, .int .i64 0, .int .i64 0], .agg #[.slice (some ⟨B, 0, none⟩) 2 2, .bool false, .slice none 0 0]]), .ex (W0.heap.size) hZN #[.int .i64 1, .string ⟨#[]⟩, .string ⟨#[]⟩, .string ⟨#[]⟩, .int .i64 0, .int .i64 0, .int .i64 0, .int .i64 0, .bool false, .slice none 0 0, .slice none 0 0, .int .i64 5, .string n, .string ⟨#[]⟩, .string ⟨#[]⟩, .int .i64 0, .int .i64 0, .int .i64 0, .int .i64 0, .bool false, .slice none 0 0, .slice none 0 0] 42 (fun B => .tuple #[.agg #[.int .i64 1, .string n, .string d, .int .i64 s, .int .i64 t, .int .i64 c, .int .i64 0, .int .i64 0, .int .i64 0], .agg #[.slice (some ⟨B, 0, none⟩) 2 2, .bool false, .slice none 0 0]]), .eq (.agg #[.int .i64 1, .string n, .string d, .int .i64 s, .int .i64 t, .int .i64 c, .int .i64 0, .int .i64 0, .int .i64 0]), .ex (W0.heap.size) hZN #[.int .i64 1, .string ⟨#[]⟩, .string ⟨#[]⟩, .string ⟨#[]⟩, .int .i64 0, .int .i64 0, .int .i64 0, .int .i64 0, .bool false, .slice none 0 0, .slice none 0 0, .int .i64 5, .string n, .string ⟨#[]⟩, .string ⟨#[]⟩, .int .i64 0, .int .i64 0, .int .i64 0, .int .i64 0, .bool false, .slice none 0 0, .slice none 0 0] 42 (fun B => .agg #[.slice (some ⟨B, 0, none⟩) 2 2, .bool false, .slice none 0 0]), .ex (W0.heap.size) hZN #[.slice none 0 0, .bool false, .slice none 0 0] 31 (fun B => .pointer (some ⟨B, 0, none⟩)), .st #[.int .i64 1, .string n, .string d, .int .i64 s, .int .i64 t, .int .i64 c, .int .i64 0, .int .i64 0, .int .i64 0]] (by kernel_rfl) (by kernel_rfl) (by kernel_rfl) (by kernel_rfl) (by decide) (by kernel_rfl) (by kernel_rfl) (by kernel_rfl) (by kernel_rfl) (fun h => absurd (show 11 < 12 by decide) h) HB.out HX.out ?_ ?_
  · intro i o hi ho q W hsz hout hJ hZ0 hdep
    have hc : i = 0 ∨ i = 1 ∨ i = 2 ∨ i = 3 ∨ i = 4 ∨ i = 5 ∨ i = 6 ∨ i = 7 ∨ i = 8 ∨ i = 9 ∨ i = 10 ∨ i = 11 := by omega
    rcases hc with rfl | rfl | rfl | rfl | rfl | rfl | rfl | rfl | rfl | rfl | rfl | rfl
    · -- 0
      cases ho
      refine plainR (by decide) ?_
      obtain ⟨zc0, zc1, zc2, zc3, zc4, zc5, zc6, zc7, zc8⟩ := bx9 (hZ0 (by kernel_rfl))
      have e13 : q.eval (.tmp 13) = .pointer (some ⟨A13, 0, none⟩) := (hout 13 (by decide)).trans rfl
      refine gives_read (v := .agg #[.int .i64 1, .string n, .string d, .int .i64 s, .int .i64 t, .int .i64 c, .int .i64 0, .int .i64 0, .int .i64 0]) ?_ rfl
      unfold execOp
      dsimp only
      rw [e13]
      go_simp
    · -- 1
      cases ho
      refine plainR (by decide) ?_
      refine gives_read (v := .agg #[.int .i64 1, .string ⟨#[]⟩, .string ⟨#[]⟩, .string ⟨#[]⟩, .int .i64 0, .int .i64 0, .int .i64 0, .int .i64 0, .bool false, .slice none 0 0, .slice none 0 0]) ?_ rfl
      unfold execOp
      dsimp only
      simp only [List.map_toArray, List.map_cons, List.map_nil]
      go_simp
    · -- 2
      cases ho
      refine plainR (by decide) ?_
      have e0 : q.eval (.tmp 0) = .string n := (hout 0 (by decide)).trans rfl
      refine gives_read (v := .string n) ?_ rfl
      unfold execOp
      dsimp only
      rw [e0]
      go_simp
    · -- 3
      cases ho
      refine plainR (by decide) ?_
      have e51 : q.eval (.tmp 51) = .string n := hdep ⟨2, .data⟩ (by simp) rfl (by decide)
      refine gives_call (f := 32) (args := #[.string n]) ?_ ((CL.out W).mono ?_)
      · unfold execOp
        dsimp only
        simp only [resolve, List.map_toArray, List.map_cons, List.map_nil, e51]
        go_simp
      · rintro e W' ⟨rfl, hb⟩
        exact ⟨_, rfl, hb, rfl⟩
    · -- 4
      cases ho
      refine plainR (by decide) ?_
      have e52 : q.eval (.tmp 52) = .string n := hdep ⟨3, .data⟩ (by simp) rfl (by decide)
      refine gives_read (v := .agg #[.int .i64 5, .string n, .string ⟨#[]⟩, .string ⟨#[]⟩, .int .i64 0, .int .i64 0, .int .i64 0, .int .i64 0, .bool false, .slice none 0 0, .slice none 0 0]) ?_ rfl
      unfold execOp
      dsimp only
      simp only [List.map_toArray, List.map_cons, List.map_nil, e52]
      go_simp
    · -- 5
      cases ho
      refine plainR (by decide) ?_
      have e50 : q.eval (.tmp 50) = .agg #[.int .i64 1, .string ⟨#[]⟩, .string ⟨#[]⟩, .string ⟨#[]⟩, .int .i64 0, .int .i64 0, .int .i64 0, .int .i64 0, .bool false, .slice none 0 0, .slice none 0 0] := hdep ⟨1, .data⟩ (by simp) rfl (by decide)
      have e53 : q.eval (.tmp 53) = .agg #[.int .i64 5, .string n, .string ⟨#[]⟩, .string ⟨#[]⟩, .int .i64 0, .int .i64 0, .int .i64 0, .int .i64 0, .bool false, .slice none 0 0, .slice none 0 0] := hdep ⟨4, .data⟩ (by simp) rfl (by decide)
      refine gives_run (W' := W.alloc (.cells #[.int .i64 1, .string ⟨#[]⟩, .string ⟨#[]⟩, .string ⟨#[]⟩, .int .i64 0, .int .i64 0, .int .i64 0, .int .i64 0, .bool false, .slice none 0 0, .slice none 0 0, .int .i64 5, .string n, .string ⟨#[]⟩, .string ⟨#[]⟩, .int .i64 0, .int .i64 0, .int .i64 0, .int .i64 0, .bool false, .slice none 0 0, .slice none 0 0] 42)) (v := .slice (some ⟨W.heap.size, 0, none⟩) 2 2) ?_ ((Below.refl _ W).alloc (Nat.le_refl _) _) ⟨_, rfl, hJ.sz, box_new W _ _⟩
      unfold execOp
      dsimp only
      simp only [List.map_toArray, List.map_cons, List.map_nil, e50, e53]
      go_simp
    · -- 6
      cases ho
      refine plainR (by decide) ?_
      have e49 : q.eval (.tmp 49) = .agg #[.int .i64 1, .string n, .string d, .int .i64 s, .int .i64 t, .int .i64 c, .int .i64 0, .int .i64 0, .int .i64 0] := hdep ⟨0, .data⟩ (by simp) rfl (by decide)
      obtain ⟨BB, e54, hB, hBB⟩ : ∃ B : Nat, q.eval (.tmp 54) = .slice (some ⟨B, 0, none⟩) 2 2 ∧ W0.heap.size ≤ B ∧ W.heap[B]? = some (.cells #[.int .i64 1, .string ⟨#[]⟩, .string ⟨#[]⟩, .string ⟨#[]⟩, .int .i64 0, .int .i64 0, .int .i64 0, .int .i64 0, .bool false, .slice none 0 0, .slice none 0 0, .int .i64 5, .string n, .string ⟨#[]⟩, .string ⟨#[]⟩, .int .i64 0, .int .i64 0, .int .i64 0, .int .i64 0, .bool false, .slice none 0 0, .slice none 0 0] 42 (0, 0)) := hdep ⟨5, .data⟩ (by simp) rfl (by decide)
      refine gives_call (f := 33) (args := #[.agg #[.int .i64 1, .string n, .string d, .int .i64 s, .int .i64 t, .int .i64 c, .int .i64 0, .int .i64 0, .int .i64 0], .slice (some ⟨BB, 0, none⟩) 2 2]) ?_ ((CY.out _ _ _ W).mono ?_)
      · unfold execOp
        dsimp only
        simp only [resolve, List.map_toArray, List.map_cons, List.map_nil, e49, e54]
        go_simp
      · rintro e W' ⟨rfl, hb⟩
        exact ⟨_, rfl, hb, ⟨BB, rfl, hB, (hb.block _ (heap_lt hBB)).trans hBB⟩⟩
    · -- 7
      cases ho
      refine plainR (by decide) ?_
      obtain ⟨BB, e55, hB, hBB⟩ : ∃ B : Nat, q.eval (.tmp 55) = .tuple #[.agg #[.int .i64 1, .string n, .string d, .int .i64 s, .int .i64 t, .int .i64 c, .int .i64 0, .int .i64 0, .int .i64 0], .agg #[.slice (some ⟨B, 0, none⟩) 2 2, .bool false, .slice none 0 0]] ∧ W0.heap.size ≤ B ∧ W.heap[B]? = some (.cells #[.int .i64 1, .string ⟨#[]⟩, .string ⟨#[]⟩, .string ⟨#[]⟩, .int .i64 0, .int .i64 0, .int .i64 0, .int .i64 0, .bool false, .slice none 0 0, .slice none 0 0, .int .i64 5, .string n, .string ⟨#[]⟩, .string ⟨#[]⟩, .int .i64 0, .int .i64 0, .int .i64 0, .int .i64 0, .bool false, .slice none 0 0, .slice none 0 0] 42 (0, 0)) := hdep ⟨6, .data⟩ (by simp) rfl (by decide)
      refine gives_read (v := .tuple #[.agg #[.int .i64 1, .string n, .string d, .int .i64 s, .int .i64 t, .int .i64 c, .int .i64 0, .int .i64 0, .int .i64 0], .agg #[.slice (some ⟨BB, 0, none⟩) 2 2, .bool false, .slice none 0 0]]) ?_ ⟨BB, rfl, hB, hBB⟩
      unfold execOp
      dsimp only
      rw [e55]
      go_simp
    · -- 8
      cases ho
      refine plainR (by decide) ?_
      obtain ⟨BB, e48, hB, hBB⟩ : ∃ B : Nat, q.eval (.tmp 48) = .tuple #[.agg #[.int .i64 1, .string n, .string d, .int .i64 s, .int .i64 t, .int .i64 c, .int .i64 0, .int .i64 0, .int .i64 0], .agg #[.slice (some ⟨B, 0, none⟩) 2 2, .bool false, .slice none 0 0]] ∧ W0.heap.size ≤ B ∧ W.heap[B]? = some (.cells #[.int .i64 1, .string ⟨#[]⟩, .string ⟨#[]⟩, .string ⟨#[]⟩, .int .i64 0, .int .i64 0, .int .i64 0, .int .i64 0, .bool false, .slice none 0 0, .slice none 0 0, .int .i64 5, .string n, .string ⟨#[]⟩, .string ⟨#[]⟩, .int .i64 0, .int .i64 0, .int .i64 0, .int .i64 0, .bool false, .slice none 0 0, .slice none 0 0] 42 (0, 0)) := hdep ⟨7, .data⟩ (by simp) rfl (by decide)
      refine gives_read (v := .agg #[.int .i64 1, .string n, .string d, .int .i64 s, .int .i64 t, .int .i64 c, .int .i64 0, .int .i64 0, .int .i64 0]) ?_ rfl
      unfold execOp
      dsimp only
      rw [e48]
      go_simp
    · -- 9
      cases ho
      refine plainR (by decide) ?_
      obtain ⟨BB, e48, hB, hBB⟩ : ∃ B : Nat, q.eval (.tmp 48) = .tuple #[.agg #[.int .i64 1, .string n, .string d, .int .i64 s, .int .i64 t, .int .i64 c, .int .i64 0, .int .i64 0, .int .i64 0], .agg #[.slice (some ⟨B, 0, none⟩) 2 2, .bool false, .slice none 0 0]] ∧ W0.heap.size ≤ B ∧ W.heap[B]? = some (.cells #[.int .i64 1, .string ⟨#[]⟩, .string ⟨#[]⟩, .string ⟨#[]⟩, .int .i64 0, .int .i64 0, .int .i64 0, .int .i64 0, .bool false, .slice none 0 0, .slice none 0 0, .int .i64 5, .string n, .string ⟨#[]⟩, .string ⟨#[]⟩, .int .i64 0, .int .i64 0, .int .i64 0, .int .i64 0, .bool false, .slice none 0 0, .slice none 0 0] 42 (0, 0)) := hdep ⟨7, .data⟩ (by simp) rfl (by decide)
      refine gives_read (v := .agg #[.slice (some ⟨BB, 0, none⟩) 2 2, .bool false, .slice none 0 0]) ?_ ⟨BB, rfl, hB, hBB⟩
      unfold execOp
      dsimp only
      rw [e48]
      go_simp
    · -- 10
      cases ho
      refine plainR (by decide) ?_
      refine gives_run (W' := W.alloc (.cells #[.slice none 0 0, .bool false, .slice none 0 0] 31)) (v := .pointer (some ⟨W.heap.size, 0, none⟩)) ?_ ((Below.refl _ W).alloc (Nat.le_refl _) _) ⟨_, rfl, hJ.sz, box_new W _ _⟩
      unfold execOp
      dsimp only
      go_simp
    · -- 11
      cases ho
      have e13 : q.eval (.tmp 13) = .pointer (some ⟨A13, 0, none⟩) := (hout 13 (by decide)).trans rfl
      have e56 : q.eval (.tmp 56) = .agg #[.int .i64 1, .string n, .string d, .int .i64 s, .int .i64 t, .int .i64 c, .int .i64 0, .int .i64 0, .int .i64 0] := hdep ⟨8, .data⟩ (by simp) rfl (by decide)
      have hz := hZ0 (by kernel_rfl)
      obtain ⟨zc0, zc1, zc2, zc3, zc4, zc5, zc6, zc7, zc8⟩ := bx9 hz
      obtain ⟨zf0, zf1, zf2, zf3, zf4, zf5, zf6, zf7, zf8⟩ := bx9f hz
      refine givesR_skip ?_ (stZ_of (by omega) hz (.int .i64 1) (.string n) (.string d) (.int .i64 s) (.int .i64 t) (.int .i64 c) (.int .i64 0) (.int .i64 0) (.int .i64 0)) (st9 hz (.int .i64 1) (.string n) (.string d) (.int .i64 s) (.int .i64 t) (.int .i64 c) (.int .i64 0) (.int .i64 0) (.int .i64 0))
      unfold execOp
      dsimp only
      rw [e13, e56]
      go_simp
  · intro q W hq hJ hv
    obtain ⟨B, e57, hB, hBB⟩ : ∃ B : Nat, q.eval (.tmp 57) = .agg #[.slice (some ⟨B, 0, none⟩) 2 2, .bool false, .slice none 0 0] ∧ W0.heap.size ≤ B ∧ W.heap[B]? = some (.cells #[.int .i64 1, .string ⟨#[]⟩, .string ⟨#[]⟩, .string ⟨#[]⟩, .int .i64 0, .int .i64 0, .int .i64 0, .int .i64 0, .bool false, .slice none 0 0, .slice none 0 0, .int .i64 5, .string n, .string ⟨#[]⟩, .string ⟨#[]⟩, .int .i64 0, .int .i64 0, .int .i64 0, .int .i64 0, .bool false, .slice none 0 0, .slice none 0 0] 42 (0, 0)) := hv 9 (by decide)
    obtain ⟨Ba, e14, hBa, hBBa⟩ : ∃ B : Nat, q.eval (.tmp 14) = .pointer (some ⟨B, 0, none⟩) ∧ W0.heap.size ≤ B ∧ W.heap[B]? = some (.cells #[.slice none 0 0, .bool false, .slice none 0 0] 31 (0, 0)) := hv 10 (by decide)
    have hXW : W.heap[A13]? = some (.cells #[.int .i64 1, .string n, .string d, .int .i64 s, .int .i64 t, .int .i64 c, .int .i64 0, .int .i64 0, .int .i64 0] 28 (0, 0)) := hv 11 (by decide)
    have HBW := Lib.hid hJ.bel
    have HOW := oldJ hJ (by omega) HO
    have HZW := oldJ hJ (by omega) HZ
    have HXW := Lib.hid hXW
    have HRW := Lib.hid hBB
    have HAW := Lib.hid hBBa
    clear hBB hBBa hJ HX HZ HO hXW
    have hq2 : q = canonL q [49, 50, 51, 52, 53, 54, 55, 48, 56, 57, 14] _ := hq
    simp only [canonL] at hq2
    rw [e57, e14] at hq2
    clear hq hv e57 e14
    generalize q.eval (.tmp 49) = u49 at hq2
    generalize q.eval (.tmp 50) = u50 at hq2
    generalize q.eval (.tmp 51) = u51 at hq2
    generalize q.eval (.tmp 52) = u52 at hq2
    generalize q.eval (.tmp 53) = u53 at hq2
    generalize q.eval (.tmp 54) = u54 at hq2
    generalize q.eval (.tmp 55) = u55 at hq2
    generalize q.eval (.tmp 48) = u48 at hq2
    generalize q.eval (.tmp 56) = u56 at hq2
    subst hq2
    obtain ⟨y0, y1, y2⟩ := bx3 HAW.out
    obtain ⟨v0, v1, v2⟩ := bx3f HAW.out
    have hne : B ≠ Ba := by
      rintro rfl
      have h1 := HRW.out
      rw [HAW.out] at h1
      cases h1
    simp only [List.drop_succ_cons, List.drop_zero]
    go_upto_region 6 with fail
    have HB := Lib.hid ((st3b (A := Ba) HBW.out (by omega) (.slice (some ⟨B, 0, none⟩) 2 2) (.bool false) (.slice none 0 0)).setCell (p := ⟨Ba, 1, none⟩) (show w.heap.size ≤ Ba by omega) (.bool true))
    have HA : Hid (((((W.setCell ⟨Ba, 0, none⟩ (.slice (some ⟨B, 0, none⟩) 2 2)).setCell ⟨Ba, 1, none⟩ (.bool false)).setCell ⟨Ba, 2, none⟩ (.slice none 0 0)).setCell ⟨Ba, 1, none⟩ (.bool true)).heap[Ba]? = some (.cells #[.slice (some ⟨B, 0, none⟩) 2 2, .bool true, .slice none 0 0] 31 (0, 0))) := by
      show _ = _
      simp [World.setCell, Array.getElem?_modify, HAW.out]
    have HX := Lib.hid (kp1 (A := Ba) (i := 1) (u := .bool true) (b := A13) (by omega) ((st3k (A := Ba) (by omega) (.slice (some ⟨B, 0, none⟩) 2 2) (.bool false) (.slice none 0 0)).trans HXW.out))
    have HZ := Lib.hid (kp1 (A := Ba) (i := 1) (u := .bool true) (b := w.heap.size) (by omega) ((st3k (A := Ba) (by omega) (.slice (some ⟨B, 0, none⟩) 2 2) (.bool false) (.slice none 0 0)).trans HZW.out))
    have HO := Lib.hid (kp1 (A := Ba) (i := 1) (u := .bool true) (b := w.heap.size + 1) (by omega) ((st3k (A := Ba) (by omega) (.slice (some ⟨B, 0, none⟩) 2 2) (.bool false) (.slice none 0 0)).trans HOW.out))
    have HR := Lib.hid (kp1 (A := Ba) (i := 1) (u := .bool true) (b := B) (by omega) ((st3k (A := Ba) (by omega) (.slice (some ⟨B, 0, none⟩) 2 2) (.bool false) (.slice none 0 0)).trans HRW.out))
    generalize ((((W.setCell ⟨Ba, 0, none⟩ (.slice (some ⟨B, 0, none⟩) 2 2)).setCell ⟨Ba, 1, none⟩ (.bool false)).setCell ⟨Ba, 2, none⟩ (.slice none 0 0)).setCell ⟨Ba, 1, none⟩ (.bool true)) = W1 at HB HA HX HZ HO HR ⊢
    clear HXW HZW HOW HRW HAW HBW y0 y1 y2 v0 v1 v2
    have hZN : w.heap.size < W1.heap.size := heap_lt HZ.out
    generalize Ba = A6 at HA hBa hne ⊢
    refine region_Z (w := w) (Z := w.heap.size) 3 2 (fun j => [59, 60, 100002].getD j 0) [59, 60] [.eq (.agg #[.int .i64 1, .string n, .string d, .int .i64 s, .int .i64 t, .int .i64 c, .int .i64 0, .int .i64 0, .int .i64 0]), .eq (.agg #[.slice (some ⟨B, 0, none⟩) 2 2, .bool true, .slice none 0 0]), .st #[.int .i64 1, .string n, .string d, .int .i64 s, .int .i64 t, .int .i64 c, .int .i64 0, .int .i64 0, .int .i64 0]] (by kernel_rfl) (by kernel_rfl) (by kernel_rfl) (by kernel_rfl) (by decide) (by kernel_rfl) (by kernel_rfl) (by kernel_rfl) (by kernel_rfl) (fun h => absurd (show 2 < 3 by decide) h) HB.out HZ.out ?_ ?_
    · intro i o hi ho q W hsz hout hJ hZ0 hdep
      have HXW := oldJ hJ (by omega) HX
      obtain ⟨x0, x1, x2, x3, x4, x5, x6, x7, x8⟩ := bx9 HXW.out
      have HAW := oldJ hJ (by omega) HA
      obtain ⟨y0, y1, y2⟩ := bx3 HAW.out
      have hc : i = 0 ∨ i = 1 ∨ i = 2 := by omega
      rcases hc with rfl | rfl | rfl
      · -- 0
        cases ho
        refine plainR (by decide) ?_
        have e13 : q.eval (.tmp 13) = .pointer (some ⟨A13, 0, none⟩) := (hout 13 (by decide)).trans rfl
        refine gives_read (v := .agg #[.int .i64 1, .string n, .string d, .int .i64 s, .int .i64 t, .int .i64 c, .int .i64 0, .int .i64 0, .int .i64 0]) ?_ rfl
        unfold execOp
        dsimp only
        rw [e13]
        go_simp
      · -- 1
        cases ho
        refine plainR (by decide) ?_
        have e14 : q.eval (.tmp 14) = .pointer (some ⟨A6, 0, none⟩) := (hout 14 (by decide)).trans rfl
        refine gives_read (v := .agg #[.slice (some ⟨B, 0, none⟩) 2 2, .bool true, .slice none 0 0]) ?_ rfl
        unfold execOp
        dsimp only
        rw [e14]
        go_simp
      · -- 2
        cases ho
        have e10 : q.eval (.tmp 10) = .pointer (some ⟨w.heap.size, 0, none⟩) := (hout 10 (by decide)).trans rfl
        have e59 : q.eval (.tmp 59) = .agg #[.int .i64 1, .string n, .string d, .int .i64 s, .int .i64 t, .int .i64 c, .int .i64 0, .int .i64 0, .int .i64 0] := hdep ⟨0, .data⟩ (by simp) rfl (by decide)
        have hz := hZ0 (by kernel_rfl)
        obtain ⟨zc0, zc1, zc2, zc3, zc4, zc5, zc6, zc7, zc8⟩ := bx9 hz
        obtain ⟨zf0, zf1, zf2, zf3, zf4, zf5, zf6, zf7, zf8⟩ := bx9f hz
        refine givesR_skip ?_ (stZ_of (by omega) hz (.int .i64 1) (.string n) (.string d) (.int .i64 s) (.int .i64 t) (.int .i64 c) (.int .i64 0) (.int .i64 0) (.int .i64 0)) (st9 hz (.int .i64 1) (.string n) (.string d) (.int .i64 s) (.int .i64 t) (.int .i64 c) (.int .i64 0) (.int .i64 0) (.int .i64 0))
        unfold execOp
        dsimp only
        rw [e10, e59]
        go_simp
    · intro q W hq hJ hv
      have e60 : q.eval (.tmp 60) = .agg #[.slice (some ⟨B, 0, none⟩) 2 2, .bool true, .slice none 0 0] := hv 1 (by decide)
      have hZW : W.heap[w.heap.size]? = some (.cells #[.int .i64 1, .string n, .string d, .int .i64 s, .int .i64 t, .int .i64 c, .int .i64 0, .int .i64 0, .int .i64 0] 28 (0, 0)) := hv 2 (by decide)
      have HBW := Lib.hid hJ.bel
      have HOW := oldJ hJ (by omega) HO
      have HZW := Lib.hid hZW
      have HRW := oldJ hJ (by omega) HR
      clear hJ HX HO HA HR hZW
      have hq2 : q = canonL q [59, 60] _ := hq
      simp only [canonL] at hq2
      rw [e60] at hq2
      clear hq hv e60
      generalize q.eval (.tmp 59) = u59 at hq2
      subst hq2
      obtain ⟨y0, y1, y2⟩ := bx3 HOW.out
      obtain ⟨v0, v1, v2⟩ := bx3f HOW.out
      simp only [List.drop_succ_cons, List.drop_zero]
      go_wp2_with fail
      exact bodyPost_ret (results_three Tryz.results15 _ _ w.heap.size (w.heap.size + 1) _ _ _ rfl rfl rfl (load_s ((st3k (by omega) (.slice (some ⟨B, 0, none⟩) 2 2) (.bool true) (.slice none 0 0)).trans HZW.out)) (load_o (st3 HOW.out (.slice (some ⟨B, 0, none⟩) 2 2) (.bool true) (.slice none 0 0)))) rfl ⟨B, rfl, st3b HBW.out (by omega) (.slice (some ⟨B, 0, none⟩) 2 2) (.bool true) (.slice none 0 0), (st3k (by omega) (.slice (some ⟨B, 0, none⟩) 2 2) (.bool true) (.slice none 0 0)).trans HRW.out, by omega⟩
end Go.Proofs.YthbeempmdpfnmaaGreatDoor.T
