/- Contracts: isPassword, Start of package session. Conditions: those of each theorem's head. -/
import Derived.Test.YthbeempmdpfnmaaGreatDoorS7
import Derived.Test.YthbeempmdpfnmaaGreatDoorAd
namespace Go.Proofs.YthbeempmdpfnmaaGreatDoor.T
open Go.RowKit Go.Lib

set_option maxRecDepth 100000 in
set_option maxHeartbeats 8000000 in
theorem pw_0 (w : World) : Calls Tryz.prog 30 #[.string ⟨#[]⟩] w (Gives (.bool false) w) := by
  go_enter Tryz.func30, Tryz.ntmps30
  go_wp2_with fail
  go_ret
  exact ⟨rfl, Below.refl _ _⟩
set_option maxRecDepth 100000 in
set_option maxHeartbeats 8000000 in
theorem pw_1 (d : ByteArray) (w : World) (h0 : ¬ d.size = 0) (h1 : ¬ d.size ≤ 16) : Calls Tryz.prog 30 #[.string d] w (Gives (.bool false) w) := by
  have q0 : d.toList.isEmpty = false := By.nonempty h0
  have q1 : ¬ ((d.size : Int) ≤ 16) := by omega
  clear h0 h1
  go_enter Tryz.func30, Tryz.ntmps30
  go_wp2_with fail
  go_ret
  exact ⟨rfl, Below.refl _ _⟩
set_option maxRecDepth 100000 in
set_option maxHeartbeats 8000000 in
theorem pw_2 (d : ByteArray) (w : World) (h0 : ¬ d.size = 0) (h1 : d.size ≤ 16) (h2 : ∀ cs, ¬ Sg.IsT d.data.toList cs) : Calls Tryz.prog 30 #[.string d] w (Gives (.bool false) w) := by
  have C := Lib.hid (check_no d w (by omega) h2)
  have q0 : d.toList.isEmpty = false := By.nonempty h0
  have q1 : ((d.size : Int) ≤ 16) := by omega
  clear h0 h1 h2
  go_enter Tryz.func30, Tryz.ntmps30
  go_wp2_with fail
  refine C.out.mono ?_
  rintro e w1 ⟨rfl, hb⟩
  have HB := Lib.hid hb
  clear hb C
  go_wp2_with fail
  go_ret
  exact ⟨rfl, HB.out⟩
set_option maxRecDepth 100000 in
set_option maxHeartbeats 8000000 in
theorem pw_3 (d : ByteArray) (w : World) (h0 : ¬ d.size = 0) (h1 : d.size ≤ 16) (cs : List Nat) (h2 : Sg.IsT d.data.toList cs) : Calls Tryz.prog 30 #[.string d] w (Gives (.bool true) w) := by
  have C := Lib.hid (check_yes d w (by omega) h2)
  have q0 : d.toList.isEmpty = false := By.nonempty h0
  have q1 : ((d.size : Int) ≤ 16) := by omega
  clear h0 h1 h2
  go_enter Tryz.func30, Tryz.ntmps30
  go_wp2_with fail
  refine C.out.mono ?_
  rintro e w1 ⟨rfl, hb⟩
  have HB := Lib.hid hb
  clear hb C
  go_wp2_with fail
  go_ret
  exact ⟨rfl, HB.out⟩
theorem pw_any (d : ByteArray) (w : World) : Calls Tryz.prog 30 #[.string d] w (Gives (.bool (pwB d)) w) := by
  unfold pwB
  by_cases h0 : d.size = 0
  · have e : d = ⟨#[]⟩ := By.empty_of h0
    subst e
    exact pw_0 w
  rw [decide_eq_true h0]
  by_cases h1 : d.size ≤ 16
  · rw [decide_eq_true h1]
    cases h2 : isT d
    · exact pw_2 d w h0 h1 (isT_not.1 h2)
    · obtain ⟨cs, hc⟩ := isT_iff.1 h2
      exact pw_3 d w h0 h1 cs hc
  · rw [decide_eq_false h1]
    exact pw_1 d w h0 h1
set_option maxRecDepth 100000 in
set_option maxHeartbeats 8000000 in
theorem start_0 (n d : ByteArray) (s t c : Int) (w : World) (hn : n.size ≤ 1048576) (h0 : isN n = false) : Calls Tryz.prog 15 #[.string n, .string d, .int .i64 s, .int .i64 t, .int .i64 c] w (Gives (.tuple #[.agg #[.int .i64 0, .string ⟨#[]⟩, .string ⟨#[]⟩, .int .i64 0, .int .i64 0, .int .i64 0, .int .i64 0, .int .i64 0, .int .i64 0], .agg #[.slice none 0 0, .bool false, .slice none 0 0], .int .i64 2]) w) := by
  have C0 := Lib.hid (fun W => hcheck_any n W hn)
  have e0 : Hd.nm n.data.toList = false := h0
  rw [e0] at C0
  clear e0
  change Hid (∀ W, Calls Tryz.prog 29 #[.string n] W fun e w' => e = .returned (.int .i64 40) ∧ Below W.heap.size W w') at C0
  clear h0
  obtain ⟨HB, HZ, HO⟩ := bxTwo w #[.int .i64 0, .string ⟨#[]⟩, .string ⟨#[]⟩, .int .i64 0, .int .i64 0, .int .i64 0, .int .i64 0, .int .i64 0, .int .i64 0] 28 #[.slice none 0 0, .bool false, .slice none 0 0] 31
  go_enter Tryz.func15, Tryz.ntmps15
  go_wp2_with fail
  refine (C0.out _).mono ?_
  rintro e w1 ⟨rfl, hb⟩
  have HZ1 := kpB hb HZ
  have HO1 := kpB hb HO
  have HB1 := Lib.hid (HB.out.trans (hb.mono HB.out.size))
  clear hb HZ HO HB C0
  obtain ⟨z0, z1, z2, z3, z4, z5, z6, z7, z8⟩ := bx9 HZ1.out
  obtain ⟨u0, u1, u2, u3, u4, u5, u6, u7, u8⟩ := bx9f HZ1.out
  obtain ⟨y0, y1, y2⟩ := bx3 HO1.out
  obtain ⟨v0, v1, v2⟩ := bx3f HO1.out
  have hP : w.heap.size + 1 < w1.heap.size := heap_lt HO1.out
  go_wp2_with fail
  exact bodyPost_ret (results_three Tryz.results15 _ _ w.heap.size (w.heap.size + 1) _ _ _ rfl rfl rfl (load_s ((st3k (by omega) (.slice none 0 0) (.bool false) (.slice none 0 0)).trans (st9 HZ1.out (.int .i64 0) (.string ⟨#[]⟩) (.string ⟨#[]⟩) (.int .i64 0) (.int .i64 0) (.int .i64 0) (.int .i64 0) (.int .i64 0) (.int .i64 0)))) (load_o (st3 ((st9k (by omega) (.int .i64 0) (.string ⟨#[]⟩) (.string ⟨#[]⟩) (.int .i64 0) (.int .i64 0) (.int .i64 0) (.int .i64 0) (.int .i64 0) (.int .i64 0)).trans HO1.out) (.slice none 0 0) (.bool false) (.slice none 0 0)))) rfl ⟨rfl, st3b (st9b HB1.out (by omega) (.int .i64 0) (.string ⟨#[]⟩) (.string ⟨#[]⟩) (.int .i64 0) (.int .i64 0) (.int .i64 0) (.int .i64 0) (.int .i64 0) (.int .i64 0)) (by omega) (.slice none 0 0) (.bool false) (.slice none 0 0)⟩
set_option maxRecDepth 100000 in
set_option maxHeartbeats 8000000 in
theorem start_1 (n d : ByteArray) (s t c : Int) (w : World) (hn : n.size ≤ 1048576) (h0 : isN n = true) (h1 : pwB d = false) : Calls Tryz.prog 15 #[.string n, .string d, .int .i64 s, .int .i64 t, .int .i64 c] w (Gives (.tuple #[.agg #[.int .i64 0, .string ⟨#[]⟩, .string ⟨#[]⟩, .int .i64 0, .int .i64 0, .int .i64 0, .int .i64 0, .int .i64 0, .int .i64 0], .agg #[.slice none 0 0, .bool false, .slice none 0 0], .int .i64 2]) w) := by
  have C0 := Lib.hid (fun W => hcheck_any n W hn)
  have e0 : Hd.nm n.data.toList = true := h0
  rw [e0] at C0
  clear e0
  change Hid (∀ W, Calls Tryz.prog 29 #[.string n] W fun e w' => e = .returned (.int .i64 0) ∧ Below W.heap.size W w') at C0
  have C1 := Lib.hid (fun W => pw_any d W)
  rw [h1] at C1
  clear h0 h1
  obtain ⟨HB, HZ, HO⟩ := bxTwo w #[.int .i64 0, .string ⟨#[]⟩, .string ⟨#[]⟩, .int .i64 0, .int .i64 0, .int .i64 0, .int .i64 0, .int .i64 0, .int .i64 0] 28 #[.slice none 0 0, .bool false, .slice none 0 0] 31
  go_enter Tryz.func15, Tryz.ntmps15
  go_wp2_with fail
  refine (C0.out _).mono ?_
  rintro e w1 ⟨rfl, hb⟩
  have HZ1 := kpB hb HZ
  have HO1 := kpB hb HO
  have HB1 := Lib.hid (HB.out.trans (hb.mono HB.out.size))
  clear hb HZ HO HB C0
  go_wp2_with fail
  refine (C1.out _).mono ?_
  rintro e w2 ⟨rfl, hb⟩
  have HZ2 := kpB hb HZ1
  have HO2 := kpB hb HO1
  have HB2 := Lib.hid (HB1.out.trans (hb.mono HB1.out.size))
  clear hb HZ1 HO1 HB1 C1
  obtain ⟨z0, z1, z2, z3, z4, z5, z6, z7, z8⟩ := bx9 HZ2.out
  obtain ⟨u0, u1, u2, u3, u4, u5, u6, u7, u8⟩ := bx9f HZ2.out
  obtain ⟨y0, y1, y2⟩ := bx3 HO2.out
  obtain ⟨v0, v1, v2⟩ := bx3f HO2.out
  have hP : w.heap.size + 1 < w2.heap.size := heap_lt HO2.out
  go_wp2_with fail
  exact bodyPost_ret (results_three Tryz.results15 _ _ w.heap.size (w.heap.size + 1) _ _ _ rfl rfl rfl (load_s ((st3k (by omega) (.slice none 0 0) (.bool false) (.slice none 0 0)).trans (st9 HZ2.out (.int .i64 0) (.string ⟨#[]⟩) (.string ⟨#[]⟩) (.int .i64 0) (.int .i64 0) (.int .i64 0) (.int .i64 0) (.int .i64 0) (.int .i64 0)))) (load_o (st3 ((st9k (by omega) (.int .i64 0) (.string ⟨#[]⟩) (.string ⟨#[]⟩) (.int .i64 0) (.int .i64 0) (.int .i64 0) (.int .i64 0) (.int .i64 0) (.int .i64 0)).trans HO2.out) (.slice none 0 0) (.bool false) (.slice none 0 0)))) rfl ⟨rfl, st3b (st9b HB2.out (by omega) (.int .i64 0) (.string ⟨#[]⟩) (.string ⟨#[]⟩) (.int .i64 0) (.int .i64 0) (.int .i64 0) (.int .i64 0) (.int .i64 0) (.int .i64 0)) (by omega) (.slice none 0 0) (.bool false) (.slice none 0 0)⟩
set_option maxRecDepth 100000 in
set_option maxHeartbeats 8000000 in
theorem start_2 (n d : ByteArray) (s t c : Int) (w : World) (hn : n.size ≤ 1048576) (h0 : isN n = true) (h1 : pwB d = true) (h2 : inB s 0 65535 = false) : Calls Tryz.prog 15 #[.string n, .string d, .int .i64 s, .int .i64 t, .int .i64 c] w (Gives (.tuple #[.agg #[.int .i64 0, .string ⟨#[]⟩, .string ⟨#[]⟩, .int .i64 0, .int .i64 0, .int .i64 0, .int .i64 0, .int .i64 0, .int .i64 0], .agg #[.slice none 0 0, .bool false, .slice none 0 0], .int .i64 2]) w) := by
  have C0 := Lib.hid (fun W => hcheck_any n W hn)
  have e0 : Hd.nm n.data.toList = true := h0
  rw [e0] at C0
  clear e0
  change Hid (∀ W, Calls Tryz.prog 29 #[.string n] W fun e w' => e = .returned (.int .i64 0) ∧ Below W.heap.size W w') at C0
  have C1 := Lib.hid (fun W => pw_any d W)
  rw [h1] at C1
  have C2 := Lib.hid (fun W => isIn_any s 65535 W)
  rw [h2] at C2
  clear h0 h1 h2
  obtain ⟨HB, HZ, HO⟩ := bxTwo w #[.int .i64 0, .string ⟨#[]⟩, .string ⟨#[]⟩, .int .i64 0, .int .i64 0, .int .i64 0, .int .i64 0, .int .i64 0, .int .i64 0] 28 #[.slice none 0 0, .bool false, .slice none 0 0] 31
  go_enter Tryz.func15, Tryz.ntmps15
  go_wp2_with fail
  refine (C0.out _).mono ?_
  rintro e w1 ⟨rfl, hb⟩
  have HZ1 := kpB hb HZ
  have HO1 := kpB hb HO
  have HB1 := Lib.hid (HB.out.trans (hb.mono HB.out.size))
  clear hb HZ HO HB C0
  go_wp2_with fail
  refine (C1.out _).mono ?_
  rintro e w2 ⟨rfl, hb⟩
  have HZ2 := kpB hb HZ1
  have HO2 := kpB hb HO1
  have HB2 := Lib.hid (HB1.out.trans (hb.mono HB1.out.size))
  clear hb HZ1 HO1 HB1 C1
  obtain ⟨z0, z1, z2, z3, z4, z5, z6, z7, z8⟩ := bx9 HZ2.out
  obtain ⟨u0, u1, u2, u3, u4, u5, u6, u7, u8⟩ := bx9f HZ2.out
  obtain ⟨y0, y1, y2⟩ := bx3 HO2.out
  obtain ⟨v0, v1, v2⟩ := bx3f HO2.out
  have hP : w.heap.size + 1 < w2.heap.size := heap_lt HO2.out
  go_wp2_with fail
  refine (C2.out _).mono ?_
  rintro e wz ⟨rfl, hw⟩
  have hw := hw.symm
  subst hw
  go_wp2_with fail
  exact bodyPost_ret (results_three Tryz.results15 _ _ w.heap.size (w.heap.size + 1) _ _ _ rfl rfl rfl (load_s ((st3k (by omega) (.slice none 0 0) (.bool false) (.slice none 0 0)).trans (st9 HZ2.out (.int .i64 0) (.string ⟨#[]⟩) (.string ⟨#[]⟩) (.int .i64 0) (.int .i64 0) (.int .i64 0) (.int .i64 0) (.int .i64 0) (.int .i64 0)))) (load_o (st3 ((st9k (by omega) (.int .i64 0) (.string ⟨#[]⟩) (.string ⟨#[]⟩) (.int .i64 0) (.int .i64 0) (.int .i64 0) (.int .i64 0) (.int .i64 0) (.int .i64 0)).trans HO2.out) (.slice none 0 0) (.bool false) (.slice none 0 0)))) rfl ⟨rfl, st3b (st9b HB2.out (by omega) (.int .i64 0) (.string ⟨#[]⟩) (.string ⟨#[]⟩) (.int .i64 0) (.int .i64 0) (.int .i64 0) (.int .i64 0) (.int .i64 0) (.int .i64 0)) (by omega) (.slice none 0 0) (.bool false) (.slice none 0 0)⟩
set_option maxRecDepth 100000 in
set_option maxHeartbeats 8000000 in
theorem start_3 (n d : ByteArray) (s t c : Int) (w : World) (hn : n.size ≤ 1048576) (h0 : isN n = true) (h1 : pwB d = true) (h2 : inB s 0 65535 = true) (h3 : inB t 0 4294967295 = false) : Calls Tryz.prog 15 #[.string n, .string d, .int .i64 s, .int .i64 t, .int .i64 c] w (Gives (.tuple #[.agg #[.int .i64 0, .string ⟨#[]⟩, .string ⟨#[]⟩, .int .i64 0, .int .i64 0, .int .i64 0, .int .i64 0, .int .i64 0, .int .i64 0], .agg #[.slice none 0 0, .bool false, .slice none 0 0], .int .i64 2]) w) := by
  have C0 := Lib.hid (fun W => hcheck_any n W hn)
  have e0 : Hd.nm n.data.toList = true := h0
  rw [e0] at C0
  clear e0
  change Hid (∀ W, Calls Tryz.prog 29 #[.string n] W fun e w' => e = .returned (.int .i64 0) ∧ Below W.heap.size W w') at C0
  have C1 := Lib.hid (fun W => pw_any d W)
  rw [h1] at C1
  have C2 := Lib.hid (fun W => isIn_any s 65535 W)
  rw [h2] at C2
  have C3 := Lib.hid (fun W => isIn_any t 4294967295 W)
  rw [h3] at C3
  clear h0 h1 h2 h3
  obtain ⟨HB, HZ, HO⟩ := bxTwo w #[.int .i64 0, .string ⟨#[]⟩, .string ⟨#[]⟩, .int .i64 0, .int .i64 0, .int .i64 0, .int .i64 0, .int .i64 0, .int .i64 0] 28 #[.slice none 0 0, .bool false, .slice none 0 0] 31
  go_enter Tryz.func15, Tryz.ntmps15
  go_wp2_with fail
  refine (C0.out _).mono ?_
  rintro e w1 ⟨rfl, hb⟩
  have HZ1 := kpB hb HZ
  have HO1 := kpB hb HO
  have HB1 := Lib.hid (HB.out.trans (hb.mono HB.out.size))
  clear hb HZ HO HB C0
  go_wp2_with fail
  refine (C1.out _).mono ?_
  rintro e w2 ⟨rfl, hb⟩
  have HZ2 := kpB hb HZ1
  have HO2 := kpB hb HO1
  have HB2 := Lib.hid (HB1.out.trans (hb.mono HB1.out.size))
  clear hb HZ1 HO1 HB1 C1
  obtain ⟨z0, z1, z2, z3, z4, z5, z6, z7, z8⟩ := bx9 HZ2.out
  obtain ⟨u0, u1, u2, u3, u4, u5, u6, u7, u8⟩ := bx9f HZ2.out
  obtain ⟨y0, y1, y2⟩ := bx3 HO2.out
  obtain ⟨v0, v1, v2⟩ := bx3f HO2.out
  have hP : w.heap.size + 1 < w2.heap.size := heap_lt HO2.out
  go_wp2_with fail
  refine (C2.out _).mono ?_
  rintro e wz ⟨rfl, hw⟩
  have hw := hw.symm
  subst hw
  go_wp2_with fail
  refine (C3.out _).mono ?_
  rintro e wz ⟨rfl, hw⟩
  have hw := hw.symm
  subst hw
  go_wp2_with fail
  exact bodyPost_ret (results_three Tryz.results15 _ _ w.heap.size (w.heap.size + 1) _ _ _ rfl rfl rfl (load_s ((st3k (by omega) (.slice none 0 0) (.bool false) (.slice none 0 0)).trans (st9 HZ2.out (.int .i64 0) (.string ⟨#[]⟩) (.string ⟨#[]⟩) (.int .i64 0) (.int .i64 0) (.int .i64 0) (.int .i64 0) (.int .i64 0) (.int .i64 0)))) (load_o (st3 ((st9k (by omega) (.int .i64 0) (.string ⟨#[]⟩) (.string ⟨#[]⟩) (.int .i64 0) (.int .i64 0) (.int .i64 0) (.int .i64 0) (.int .i64 0) (.int .i64 0)).trans HO2.out) (.slice none 0 0) (.bool false) (.slice none 0 0)))) rfl ⟨rfl, st3b (st9b HB2.out (by omega) (.int .i64 0) (.string ⟨#[]⟩) (.string ⟨#[]⟩) (.int .i64 0) (.int .i64 0) (.int .i64 0) (.int .i64 0) (.int .i64 0) (.int .i64 0)) (by omega) (.slice none 0 0) (.bool false) (.slice none 0 0)⟩
set_option maxRecDepth 100000 in
set_option maxHeartbeats 8000000 in
theorem start_4 (n d : ByteArray) (s t c : Int) (w : World) (hn : n.size ≤ 1048576) (h0 : isN n = true) (h1 : pwB d = true) (h2 : inB s 0 65535 = true) (h3 : inB t 0 4294967295 = true) (h4 : inB c 0 65535 = false) : Calls Tryz.prog 15 #[.string n, .string d, .int .i64 s, .int .i64 t, .int .i64 c] w (Gives (.tuple #[.agg #[.int .i64 0, .string ⟨#[]⟩, .string ⟨#[]⟩, .int .i64 0, .int .i64 0, .int .i64 0, .int .i64 0, .int .i64 0, .int .i64 0], .agg #[.slice none 0 0, .bool false, .slice none 0 0], .int .i64 2]) w) := by
  have C0 := Lib.hid (fun W => hcheck_any n W hn)
  have e0 : Hd.nm n.data.toList = true := h0
  rw [e0] at C0
  clear e0
  change Hid (∀ W, Calls Tryz.prog 29 #[.string n] W fun e w' => e = .returned (.int .i64 0) ∧ Below W.heap.size W w') at C0
  have C1 := Lib.hid (fun W => pw_any d W)
  rw [h1] at C1
  have C2 := Lib.hid (fun W => isIn_any s 65535 W)
  rw [h2] at C2
  have C3 := Lib.hid (fun W => isIn_any t 4294967295 W)
  rw [h3] at C3
  have C4 := Lib.hid (fun W => isIn_any c 65535 W)
  rw [h4] at C4
  clear h0 h1 h2 h3 h4
  obtain ⟨HB, HZ, HO⟩ := bxTwo w #[.int .i64 0, .string ⟨#[]⟩, .string ⟨#[]⟩, .int .i64 0, .int .i64 0, .int .i64 0, .int .i64 0, .int .i64 0, .int .i64 0] 28 #[.slice none 0 0, .bool false, .slice none 0 0] 31
  go_enter Tryz.func15, Tryz.ntmps15
  go_wp2_with fail
  refine (C0.out _).mono ?_
  rintro e w1 ⟨rfl, hb⟩
  have HZ1 := kpB hb HZ
  have HO1 := kpB hb HO
  have HB1 := Lib.hid (HB.out.trans (hb.mono HB.out.size))
  clear hb HZ HO HB C0
  go_wp2_with fail
  refine (C1.out _).mono ?_
  rintro e w2 ⟨rfl, hb⟩
  have HZ2 := kpB hb HZ1
  have HO2 := kpB hb HO1
  have HB2 := Lib.hid (HB1.out.trans (hb.mono HB1.out.size))
  clear hb HZ1 HO1 HB1 C1
  obtain ⟨z0, z1, z2, z3, z4, z5, z6, z7, z8⟩ := bx9 HZ2.out
  obtain ⟨u0, u1, u2, u3, u4, u5, u6, u7, u8⟩ := bx9f HZ2.out
  obtain ⟨y0, y1, y2⟩ := bx3 HO2.out
  obtain ⟨v0, v1, v2⟩ := bx3f HO2.out
  have hP : w.heap.size + 1 < w2.heap.size := heap_lt HO2.out
  go_wp2_with fail
  refine (C2.out _).mono ?_
  rintro e wz ⟨rfl, hw⟩
  have hw := hw.symm
  subst hw
  go_wp2_with fail
  refine (C3.out _).mono ?_
  rintro e wz ⟨rfl, hw⟩
  have hw := hw.symm
  subst hw
  go_wp2_with fail
  refine (C4.out _).mono ?_
  rintro e wz ⟨rfl, hw⟩
  have hw := hw.symm
  subst hw
  go_wp2_with fail
  exact bodyPost_ret (results_three Tryz.results15 _ _ w.heap.size (w.heap.size + 1) _ _ _ rfl rfl rfl (load_s ((st3k (by omega) (.slice none 0 0) (.bool false) (.slice none 0 0)).trans (st9 HZ2.out (.int .i64 0) (.string ⟨#[]⟩) (.string ⟨#[]⟩) (.int .i64 0) (.int .i64 0) (.int .i64 0) (.int .i64 0) (.int .i64 0) (.int .i64 0)))) (load_o (st3 ((st9k (by omega) (.int .i64 0) (.string ⟨#[]⟩) (.string ⟨#[]⟩) (.int .i64 0) (.int .i64 0) (.int .i64 0) (.int .i64 0) (.int .i64 0) (.int .i64 0)).trans HO2.out) (.slice none 0 0) (.bool false) (.slice none 0 0)))) rfl ⟨rfl, st3b (st9b HB2.out (by omega) (.int .i64 0) (.string ⟨#[]⟩) (.string ⟨#[]⟩) (.int .i64 0) (.int .i64 0) (.int .i64 0) (.int .i64 0) (.int .i64 0) (.int .i64 0)) (by omega) (.slice none 0 0) (.bool false) (.slice none 0 0)⟩
end Go.Proofs.YthbeempmdpfnmaaGreatDoor.T
