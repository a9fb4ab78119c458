/- Contract: the document's Start. Conditions: those of each theorem's head. -/
import Derived.Test.YthbeempmdpfnmaaGreatDoorU1
namespace Go.Proofs.YthbeempmdpfnmaaGreatDoor.T
open Go.RowKit Go.Lib

def SgB (b : Bool) (w : World) (e : Ending) (w' : World) : Prop := ∃ v, e = .returned (.tuple #[v, .bool b]) ∧ Below w.heap.size w w'
theorem signs_b (d : ByteArray) (w : World) (hs : d.size ≤ 1048576) : Calls Tryz.prog 19 #[.string d] w (SgB (isT d) w) := (rSigns_any d w hs).mono fun e W h => by
  obtain ⟨⟨cs, v, h1, h2, _⟩ | ⟨h1, h2⟩, hb⟩ := h
  · rw [isT_iff.2 ⟨cs, h1⟩]
    exact ⟨v, h2, hb⟩
  · rw [isT_not.2 h1]
    exact ⟨_, h2, hb⟩
theorem is_b (n : ByteArray) (w : World) (hs : n.size ≤ 1048576) : Calls Tryz.prog 20 #[.string n] w (Gives (.bool (isN n)) w) := rhIs_any n w hs
set_option maxRecDepth 100000 in
set_option maxHeartbeats 8000000 in
theorem rstart_0 (n d : ByteArray) (s t c : Int) (w : World) (hn : n.size ≤ 1048576) (hd : d.size ≤ 1048576) (h0 : isN n = false) : Calls Tryz.prog 8 #[.string n, .string d, .int .i64 s, .int .i64 t, .int .i64 c] w (fun e w' => e = .returned (.tuple #[.agg #[.int .i64 0, .string ⟨#[]⟩, .string ⟨#[]⟩, .int .i64 0, .int .i64 0, .int .i64 0, .int .i64 0, .int .i64 0, .int .i64 0], .agg #[.slice none 0 0, .bool false, .slice none 0 0], .int .i64 2]) ∧ Below w.heap.size w w') := by
  have CI : Hid (∀ W, Calls Tryz.prog 20 #[.string n] W (Gives (.bool false) W)) := fun W => by
    have q := is_b n W hn
    rw [h0] at q
    exact q
  have CG : Hid (∀ W, Calls Tryz.prog 19 #[.string d] W (SgB (isT d) W)) := fun W => by
    have q := signs_b d W hd
    exact q
  generalize isT d = bt at CG
  clear h0 hn hd
  obtain ⟨HB, HZ, HO⟩ := bxTwo w #[.int .i64 0, .string ⟨#[]⟩, .string ⟨#[]⟩, .int .i64 0, .int .i64 0, .int .i64 0, .int .i64 0, .int .i64 0, .int .i64 0] 28 #[.slice none 0 0, .bool false, .slice none 0 0] 31
  go_enter Tryz.func8, Tryz.ntmps8
  go_wp2_with fail
  refine (CG.out _).mono ?_
  rintro e w1 ⟨v, rfl, hb⟩
  replace HZ := kpB hb HZ
  replace HO := kpB hb HO
  replace HB := Lib.hid (HB.out.trans (hb.mono HB.out.size))
  clear hb CG
  go_wp2_with fail
  refine (CI.out _).mono ?_
  rintro e w2 ⟨rfl, hb⟩
  replace HZ := kpB hb HZ
  replace HO := kpB hb HO
  replace HB := Lib.hid (HB.out.trans (hb.mono HB.out.size))
  clear hb CI
  obtain ⟨z0, z1, z2, z3, z4, z5, z6, z7, z8⟩ := bx9 HZ.out
  obtain ⟨zf0, zf1, zf2, zf3, zf4, zf5, zf6, zf7, zf8⟩ := bx9f HZ.out
  obtain ⟨y0, y1, y2⟩ := bx3 HO.out
  obtain ⟨yf0, yf1, yf2⟩ := bx3f HO.out
  have hP : w.heap.size + 1 < w2.heap.size := heap_lt HO.out
  have hPa : w.heap.size < w2.heap.size := heap_lt HZ.out
  go_wp2_with fail
  exact bodyPost_ret (results_three Tryz.results8 _ _ w.heap.size (w.heap.size + 1) _ _ _ rfl rfl rfl (load_s ((st3k (by omega) (.slice none 0 0) (.bool false) (.slice none 0 0)).trans (st9 HZ.out (.int .i64 0) (.string ⟨#[]⟩) (.string ⟨#[]⟩) (.int .i64 0) (.int .i64 0) (.int .i64 0) (.int .i64 0) (.int .i64 0) (.int .i64 0)))) (load_o (st3 ((st9k (by omega) (.int .i64 0) (.string ⟨#[]⟩) (.string ⟨#[]⟩) (.int .i64 0) (.int .i64 0) (.int .i64 0) (.int .i64 0) (.int .i64 0) (.int .i64 0)).trans HO.out) (.slice none 0 0) (.bool false) (.slice none 0 0)))) rfl ⟨rfl, st3b (st9b HB.out (by omega) (.int .i64 0) (.string ⟨#[]⟩) (.string ⟨#[]⟩) (.int .i64 0) (.int .i64 0) (.int .i64 0) (.int .i64 0) (.int .i64 0) (.int .i64 0)) (by omega) (.slice none 0 0) (.bool false) (.slice none 0 0)⟩
set_option maxRecDepth 100000 in
set_option maxHeartbeats 8000000 in
theorem rstart_1 (n d : ByteArray) (s t c : Int) (w : World) (hn : n.size ≤ 1048576) (hd : d.size ≤ 1048576) (h0 : isN n = true) (h1 : d.size = 0) : Calls Tryz.prog 8 #[.string n, .string d, .int .i64 s, .int .i64 t, .int .i64 c] w (fun e w' => e = .returned (.tuple #[.agg #[.int .i64 0, .string ⟨#[]⟩, .string ⟨#[]⟩, .int .i64 0, .int .i64 0, .int .i64 0, .int .i64 0, .int .i64 0, .int .i64 0], .agg #[.slice none 0 0, .bool false, .slice none 0 0], .int .i64 2]) ∧ Below w.heap.size w w') := by
  have CI : Hid (∀ W, Calls Tryz.prog 20 #[.string n] W (Gives (.bool true) W)) := fun W => by
    have q := is_b n W hn
    rw [h0] at q
    exact q
  have CG : Hid (∀ W, Calls Tryz.prog 19 #[.string d] W (SgB (isT d) W)) := fun W => by
    have q := signs_b d W hd
    exact q
  have q1 : d.toList.isEmpty = true := by
    rw [show d = ⟨#[]⟩ from By.bytes_ext (List.eq_nil_of_length_eq_zero (by rw [By.len_size]; exact h1)), ByteArray.toList_eq]
    rfl
  generalize isT d = bt at CG
  clear h0 hn hd
  obtain ⟨HB, HZ, HO⟩ := bxTwo w #[.int .i64 0, .string ⟨#[]⟩, .string ⟨#[]⟩, .int .i64 0, .int .i64 0, .int .i64 0, .int .i64 0, .int .i64 0, .int .i64 0] 28 #[.slice none 0 0, .bool false, .slice none 0 0] 31
  go_enter Tryz.func8, Tryz.ntmps8
  go_wp2_with fail
  refine (CG.out _).mono ?_
  rintro e w1 ⟨v, rfl, hb⟩
  replace HZ := kpB hb HZ
  replace HO := kpB hb HO
  replace HB := Lib.hid (HB.out.trans (hb.mono HB.out.size))
  clear hb CG
  go_wp2_with fail
  refine (CI.out _).mono ?_
  rintro e w2 ⟨rfl, hb⟩
  replace HZ := kpB hb HZ
  replace HO := kpB hb HO
  replace HB := Lib.hid (HB.out.trans (hb.mono HB.out.size))
  clear hb CI
  obtain ⟨z0, z1, z2, z3, z4, z5, z6, z7, z8⟩ := bx9 HZ.out
  obtain ⟨zf0, zf1, zf2, zf3, zf4, zf5, zf6, zf7, zf8⟩ := bx9f HZ.out
  obtain ⟨y0, y1, y2⟩ := bx3 HO.out
  obtain ⟨yf0, yf1, yf2⟩ := bx3f HO.out
  have hP : w.heap.size + 1 < w2.heap.size := heap_lt HO.out
  have hPa : w.heap.size < w2.heap.size := heap_lt HZ.out
  go_wp2_with fail
  exact bodyPost_ret (results_three Tryz.results8 _ _ w.heap.size (w.heap.size + 1) _ _ _ rfl rfl rfl (load_s ((st3k (by omega) (.slice none 0 0) (.bool false) (.slice none 0 0)).trans (st9 HZ.out (.int .i64 0) (.string ⟨#[]⟩) (.string ⟨#[]⟩) (.int .i64 0) (.int .i64 0) (.int .i64 0) (.int .i64 0) (.int .i64 0) (.int .i64 0)))) (load_o (st3 ((st9k (by omega) (.int .i64 0) (.string ⟨#[]⟩) (.string ⟨#[]⟩) (.int .i64 0) (.int .i64 0) (.int .i64 0) (.int .i64 0) (.int .i64 0) (.int .i64 0)).trans HO.out) (.slice none 0 0) (.bool false) (.slice none 0 0)))) rfl ⟨rfl, st3b (st9b HB.out (by omega) (.int .i64 0) (.string ⟨#[]⟩) (.string ⟨#[]⟩) (.int .i64 0) (.int .i64 0) (.int .i64 0) (.int .i64 0) (.int .i64 0) (.int .i64 0)) (by omega) (.slice none 0 0) (.bool false) (.slice none 0 0)⟩
set_option maxRecDepth 100000 in
set_option maxHeartbeats 8000000 in
theorem rstart_2 (n d : ByteArray) (s t c : Int) (w : World) (hn : n.size ≤ 1048576) (hd : d.size ≤ 1048576) (h0 : isN n = true) (h1 : ¬ d.size = 0) (h2 : isT d = false) : Calls Tryz.prog 8 #[.string n, .string d, .int .i64 s, .int .i64 t, .int .i64 c] w (fun e w' => e = .returned (.tuple #[.agg #[.int .i64 0, .string ⟨#[]⟩, .string ⟨#[]⟩, .int .i64 0, .int .i64 0, .int .i64 0, .int .i64 0, .int .i64 0, .int .i64 0], .agg #[.slice none 0 0, .bool false, .slice none 0 0], .int .i64 2]) ∧ Below w.heap.size w w') := by
  have CI : Hid (∀ W, Calls Tryz.prog 20 #[.string n] W (Gives (.bool true) W)) := fun W => by
    have q := is_b n W hn
    rw [h0] at q
    exact q
  have CG : Hid (∀ W, Calls Tryz.prog 19 #[.string d] W (SgB false W)) := fun W => by
    have q := signs_b d W hd
    rw [h2] at q
    exact q
  have q1 : d.toList.isEmpty = false := By.nonempty h1
  clear h0 hn hd
  obtain ⟨HB, HZ, HO⟩ := bxTwo w #[.int .i64 0, .string ⟨#[]⟩, .string ⟨#[]⟩, .int .i64 0, .int .i64 0, .int .i64 0, .int .i64 0, .int .i64 0, .int .i64 0] 28 #[.slice none 0 0, .bool false, .slice none 0 0] 31
  go_enter Tryz.func8, Tryz.ntmps8
  go_wp2_with fail
  refine (CG.out _).mono ?_
  rintro e w1 ⟨v, rfl, hb⟩
  replace HZ := kpB hb HZ
  replace HO := kpB hb HO
  replace HB := Lib.hid (HB.out.trans (hb.mono HB.out.size))
  clear hb CG
  go_wp2_with fail
  refine (CI.out _).mono ?_
  rintro e w2 ⟨rfl, hb⟩
  replace HZ := kpB hb HZ
  replace HO := kpB hb HO
  replace HB := Lib.hid (HB.out.trans (hb.mono HB.out.size))
  clear hb CI
  obtain ⟨z0, z1, z2, z3, z4, z5, z6, z7, z8⟩ := bx9 HZ.out
  obtain ⟨zf0, zf1, zf2, zf3, zf4, zf5, zf6, zf7, zf8⟩ := bx9f HZ.out
  obtain ⟨y0, y1, y2⟩ := bx3 HO.out
  obtain ⟨yf0, yf1, yf2⟩ := bx3f HO.out
  have hP : w.heap.size + 1 < w2.heap.size := heap_lt HO.out
  have hPa : w.heap.size < w2.heap.size := heap_lt HZ.out
  go_wp2_with fail
  exact bodyPost_ret (results_three Tryz.results8 _ _ w.heap.size (w.heap.size + 1) _ _ _ rfl rfl rfl (load_s ((st3k (by omega) (.slice none 0 0) (.bool false) (.slice none 0 0)).trans (st9 HZ.out (.int .i64 0) (.string ⟨#[]⟩) (.string ⟨#[]⟩) (.int .i64 0) (.int .i64 0) (.int .i64 0) (.int .i64 0) (.int .i64 0) (.int .i64 0)))) (load_o (st3 ((st9k (by omega) (.int .i64 0) (.string ⟨#[]⟩) (.string ⟨#[]⟩) (.int .i64 0) (.int .i64 0) (.int .i64 0) (.int .i64 0) (.int .i64 0) (.int .i64 0)).trans HO.out) (.slice none 0 0) (.bool false) (.slice none 0 0)))) rfl ⟨rfl, st3b (st9b HB.out (by omega) (.int .i64 0) (.string ⟨#[]⟩) (.string ⟨#[]⟩) (.int .i64 0) (.int .i64 0) (.int .i64 0) (.int .i64 0) (.int .i64 0) (.int .i64 0)) (by omega) (.slice none 0 0) (.bool false) (.slice none 0 0)⟩
set_option maxRecDepth 100000 in
set_option maxHeartbeats 8000000 in
theorem rstart_3 (n d : ByteArray) (s t c : Int) (w : World) (hn : n.size ≤ 1048576) (hd : d.size ≤ 1048576) (h0 : isN n = true) (h1 : ¬ d.size = 0) (h2 : isT d = true) (h3 : 16 < d.size) : Calls Tryz.prog 8 #[.string n, .string d, .int .i64 s, .int .i64 t, .int .i64 c] w (fun e w' => e = .returned (.tuple #[.agg #[.int .i64 0, .string ⟨#[]⟩, .string ⟨#[]⟩, .int .i64 0, .int .i64 0, .int .i64 0, .int .i64 0, .int .i64 0, .int .i64 0], .agg #[.slice none 0 0, .bool false, .slice none 0 0], .int .i64 2]) ∧ Below w.heap.size w w') := by
  have CI : Hid (∀ W, Calls Tryz.prog 20 #[.string n] W (Gives (.bool true) W)) := fun W => by
    have q := is_b n W hn
    rw [h0] at q
    exact q
  have CG : Hid (∀ W, Calls Tryz.prog 19 #[.string d] W (SgB true W)) := fun W => by
    have q := signs_b d W hd
    rw [h2] at q
    exact q
  have q1 : d.toList.isEmpty = false := By.nonempty h1
  have q3 : decide ((16 : Int) < (d.size : Int)) = true := by rw [decide_eq_true_iff]; omega
  have r3 : (16 : Int) < (d.size : Int) := by omega
  clear h0 hn hd
  obtain ⟨HB, HZ, HO⟩ := bxTwo w #[.int .i64 0, .string ⟨#[]⟩, .string ⟨#[]⟩, .int .i64 0, .int .i64 0, .int .i64 0, .int .i64 0, .int .i64 0, .int .i64 0] 28 #[.slice none 0 0, .bool false, .slice none 0 0] 31
  go_enter Tryz.func8, Tryz.ntmps8
  go_wp2_with fail
  refine (CG.out _).mono ?_
  rintro e w1 ⟨v, rfl, hb⟩
  replace HZ := kpB hb HZ
  replace HO := kpB hb HO
  replace HB := Lib.hid (HB.out.trans (hb.mono HB.out.size))
  clear hb CG
  go_wp2_with fail
  refine (CI.out _).mono ?_
  rintro e w2 ⟨rfl, hb⟩
  replace HZ := kpB hb HZ
  replace HO := kpB hb HO
  replace HB := Lib.hid (HB.out.trans (hb.mono HB.out.size))
  clear hb CI
  obtain ⟨z0, z1, z2, z3, z4, z5, z6, z7, z8⟩ := bx9 HZ.out
  obtain ⟨zf0, zf1, zf2, zf3, zf4, zf5, zf6, zf7, zf8⟩ := bx9f HZ.out
  obtain ⟨y0, y1, y2⟩ := bx3 HO.out
  obtain ⟨yf0, yf1, yf2⟩ := bx3f HO.out
  have hP : w.heap.size + 1 < w2.heap.size := heap_lt HO.out
  have hPa : w.heap.size < w2.heap.size := heap_lt HZ.out
  go_wp2_with fail
  exact bodyPost_ret (results_three Tryz.results8 _ _ w.heap.size (w.heap.size + 1) _ _ _ rfl rfl rfl (load_s ((st3k (by omega) (.slice none 0 0) (.bool false) (.slice none 0 0)).trans (st9 HZ.out (.int .i64 0) (.string ⟨#[]⟩) (.string ⟨#[]⟩) (.int .i64 0) (.int .i64 0) (.int .i64 0) (.int .i64 0) (.int .i64 0) (.int .i64 0)))) (load_o (st3 ((st9k (by omega) (.int .i64 0) (.string ⟨#[]⟩) (.string ⟨#[]⟩) (.int .i64 0) (.int .i64 0) (.int .i64 0) (.int .i64 0) (.int .i64 0) (.int .i64 0)).trans HO.out) (.slice none 0 0) (.bool false) (.slice none 0 0)))) rfl ⟨rfl, st3b (st9b HB.out (by omega) (.int .i64 0) (.string ⟨#[]⟩) (.string ⟨#[]⟩) (.int .i64 0) (.int .i64 0) (.int .i64 0) (.int .i64 0) (.int .i64 0) (.int .i64 0)) (by omega) (.slice none 0 0) (.bool false) (.slice none 0 0)⟩
set_option maxRecDepth 100000 in
set_option maxHeartbeats 8000000 in
theorem rstart_4 (n d : ByteArray) (s t c : Int) (w : World) (hn : n.size ≤ 1048576) (hd : d.size ≤ 1048576) (h0 : isN n = true) (h1 : ¬ d.size = 0) (h2 : isT d = true) (h3 : ¬ 16 < d.size) (h4 : s < (0 : Int)) : Calls Tryz.prog 8 #[.string n, .string d, .int .i64 s, .int .i64 t, .int .i64 c] w (fun e w' => e = .returned (.tuple #[.agg #[.int .i64 0, .string ⟨#[]⟩, .string ⟨#[]⟩, .int .i64 0, .int .i64 0, .int .i64 0, .int .i64 0, .int .i64 0, .int .i64 0], .agg #[.slice none 0 0, .bool false, .slice none 0 0], .int .i64 2]) ∧ Below w.heap.size w w') := by
  have CI : Hid (∀ W, Calls Tryz.prog 20 #[.string n] W (Gives (.bool true) W)) := fun W => by
    have q := is_b n W hn
    rw [h0] at q
    exact q
  have CG : Hid (∀ W, Calls Tryz.prog 19 #[.string d] W (SgB true W)) := fun W => by
    have q := signs_b d W hd
    rw [h2] at q
    exact q
  have q1 : d.toList.isEmpty = false := By.nonempty h1
  have q3 : decide ((16 : Int) < (d.size : Int)) = false := by rw [decide_eq_false_iff_not]; omega
  have r3 : ¬ (16 : Int) < (d.size : Int) := by omega
  have q4 : decide (s < (0 : Int)) = true := decide_eq_true h4
  clear h0 hn hd
  obtain ⟨HB, HZ, HO⟩ := bxTwo w #[.int .i64 0, .string ⟨#[]⟩, .string ⟨#[]⟩, .int .i64 0, .int .i64 0, .int .i64 0, .int .i64 0, .int .i64 0, .int .i64 0] 28 #[.slice none 0 0, .bool false, .slice none 0 0] 31
  go_enter Tryz.func8, Tryz.ntmps8
  go_wp2_with fail
  refine (CG.out _).mono ?_
  rintro e w1 ⟨v, rfl, hb⟩
  replace HZ := kpB hb HZ
  replace HO := kpB hb HO
  replace HB := Lib.hid (HB.out.trans (hb.mono HB.out.size))
  clear hb CG
  go_wp2_with fail
  refine (CI.out _).mono ?_
  rintro e w2 ⟨rfl, hb⟩
  replace HZ := kpB hb HZ
  replace HO := kpB hb HO
  replace HB := Lib.hid (HB.out.trans (hb.mono HB.out.size))
  clear hb CI
  obtain ⟨z0, z1, z2, z3, z4, z5, z6, z7, z8⟩ := bx9 HZ.out
  obtain ⟨zf0, zf1, zf2, zf3, zf4, zf5, zf6, zf7, zf8⟩ := bx9f HZ.out
  obtain ⟨y0, y1, y2⟩ := bx3 HO.out
  obtain ⟨yf0, yf1, yf2⟩ := bx3f HO.out
  have hP : w.heap.size + 1 < w2.heap.size := heap_lt HO.out
  have hPa : w.heap.size < w2.heap.size := heap_lt HZ.out
  go_wp2_with fail
  exact bodyPost_ret (results_three Tryz.results8 _ _ w.heap.size (w.heap.size + 1) _ _ _ rfl rfl rfl (load_s ((st3k (by omega) (.slice none 0 0) (.bool false) (.slice none 0 0)).trans (st9 HZ.out (.int .i64 0) (.string ⟨#[]⟩) (.string ⟨#[]⟩) (.int .i64 0) (.int .i64 0) (.int .i64 0) (.int .i64 0) (.int .i64 0) (.int .i64 0)))) (load_o (st3 ((st9k (by omega) (.int .i64 0) (.string ⟨#[]⟩) (.string ⟨#[]⟩) (.int .i64 0) (.int .i64 0) (.int .i64 0) (.int .i64 0) (.int .i64 0) (.int .i64 0)).trans HO.out) (.slice none 0 0) (.bool false) (.slice none 0 0)))) rfl ⟨rfl, st3b (st9b HB.out (by omega) (.int .i64 0) (.string ⟨#[]⟩) (.string ⟨#[]⟩) (.int .i64 0) (.int .i64 0) (.int .i64 0) (.int .i64 0) (.int .i64 0) (.int .i64 0)) (by omega) (.slice none 0 0) (.bool false) (.slice none 0 0)⟩
set_option maxRecDepth 100000 in
set_option maxHeartbeats 8000000 in
theorem rstart_5 (n d : ByteArray) (s t c : Int) (w : World) (hn : n.size ≤ 1048576) (hd : d.size ≤ 1048576) (h0 : isN n = true) (h1 : ¬ d.size = 0) (h2 : isT d = true) (h3 : ¬ 16 < d.size) (h4 : ¬ s < (0 : Int)) (h5 : (65535 : Int) < s) : Calls Tryz.prog 8 #[.string n, .string d, .int .i64 s, .int .i64 t, .int .i64 c] w (fun e w' => e = .returned (.tuple #[.agg #[.int .i64 0, .string ⟨#[]⟩, .string ⟨#[]⟩, .int .i64 0, .int .i64 0, .int .i64 0, .int .i64 0, .int .i64 0, .int .i64 0], .agg #[.slice none 0 0, .bool false, .slice none 0 0], .int .i64 2]) ∧ Below w.heap.size w w') := by
  have CI : Hid (∀ W, Calls Tryz.prog 20 #[.string n] W (Gives (.bool true) W)) := fun W => by
    have q := is_b n W hn
    rw [h0] at q
    exact q
  have CG : Hid (∀ W, Calls Tryz.prog 19 #[.string d] W (SgB true W)) := fun W => by
    have q := signs_b d W hd
    rw [h2] at q
    exact q
  have q1 : d.toList.isEmpty = false := By.nonempty h1
  have q3 : decide ((16 : Int) < (d.size : Int)) = false := by rw [decide_eq_false_iff_not]; omega
  have r3 : ¬ (16 : Int) < (d.size : Int) := by omega
  have q4 : decide (s < (0 : Int)) = false := decide_eq_false h4
  have q5 : decide ((65535 : Int) < s) = true := decide_eq_true h5
  clear h0 hn hd
  obtain ⟨HB, HZ, HO⟩ := bxTwo w #[.int .i64 0, .string ⟨#[]⟩, .string ⟨#[]⟩, .int .i64 0, .int .i64 0, .int .i64 0, .int .i64 0, .int .i64 0, .int .i64 0] 28 #[.slice none 0 0, .bool false, .slice none 0 0] 31
  go_enter Tryz.func8, Tryz.ntmps8
  go_wp2_with fail
  refine (CG.out _).mono ?_
  rintro e w1 ⟨v, rfl, hb⟩
  replace HZ := kpB hb HZ
  replace HO := kpB hb HO
  replace HB := Lib.hid (HB.out.trans (hb.mono HB.out.size))
  clear hb CG
  go_wp2_with fail
  refine (CI.out _).mono ?_
  rintro e w2 ⟨rfl, hb⟩
  replace HZ := kpB hb HZ
  replace HO := kpB hb HO
  replace HB := Lib.hid (HB.out.trans (hb.mono HB.out.size))
  clear hb CI
  obtain ⟨z0, z1, z2, z3, z4, z5, z6, z7, z8⟩ := bx9 HZ.out
  obtain ⟨zf0, zf1, zf2, zf3, zf4, zf5, zf6, zf7, zf8⟩ := bx9f HZ.out
  obtain ⟨y0, y1, y2⟩ := bx3 HO.out
  obtain ⟨yf0, yf1, yf2⟩ := bx3f HO.out
  have hP : w.heap.size + 1 < w2.heap.size := heap_lt HO.out
  have hPa : w.heap.size < w2.heap.size := heap_lt HZ.out
  go_wp2_with fail
  exact bodyPost_ret (results_three Tryz.results8 _ _ w.heap.size (w.heap.size + 1) _ _ _ rfl rfl rfl (load_s ((st3k (by omega) (.slice none 0 0) (.bool false) (.slice none 0 0)).trans (st9 HZ.out (.int .i64 0) (.string ⟨#[]⟩) (.string ⟨#[]⟩) (.int .i64 0) (.int .i64 0) (.int .i64 0) (.int .i64 0) (.int .i64 0) (.int .i64 0)))) (load_o (st3 ((st9k (by omega) (.int .i64 0) (.string ⟨#[]⟩) (.string ⟨#[]⟩) (.int .i64 0) (.int .i64 0) (.int .i64 0) (.int .i64 0) (.int .i64 0) (.int .i64 0)).trans HO.out) (.slice none 0 0) (.bool false) (.slice none 0 0)))) rfl ⟨rfl, st3b (st9b HB.out (by omega) (.int .i64 0) (.string ⟨#[]⟩) (.string ⟨#[]⟩) (.int .i64 0) (.int .i64 0) (.int .i64 0) (.int .i64 0) (.int .i64 0) (.int .i64 0)) (by omega) (.slice none 0 0) (.bool false) (.slice none 0 0)⟩
set_option maxRecDepth 100000 in
set_option maxHeartbeats 8000000 in
theorem rstart_6 (n d : ByteArray) (s t c : Int) (w : World) (hn : n.size ≤ 1048576) (hd : d.size ≤ 1048576) (h0 : isN n = true) (h1 : ¬ d.size = 0) (h2 : isT d = true) (h3 : ¬ 16 < d.size) (h4 : ¬ s < (0 : Int)) (h5 : ¬ (65535 : Int) < s) (h6 : c < (0 : Int)) : Calls Tryz.prog 8 #[.string n, .string d, .int .i64 s, .int .i64 t, .int .i64 c] w (fun e w' => e = .returned (.tuple #[.agg #[.int .i64 0, .string ⟨#[]⟩, .string ⟨#[]⟩, .int .i64 0, .int .i64 0, .int .i64 0, .int .i64 0, .int .i64 0, .int .i64 0], .agg #[.slice none 0 0, .bool false, .slice none 0 0], .int .i64 2]) ∧ Below w.heap.size w w') := by
  have CI : Hid (∀ W, Calls Tryz.prog 20 #[.string n] W (Gives (.bool true) W)) := fun W => by
    have q := is_b n W hn
    rw [h0] at q
    exact q
  have CG : Hid (∀ W, Calls Tryz.prog 19 #[.string d] W (SgB true W)) := fun W => by
    have q := signs_b d W hd
    rw [h2] at q
    exact q
  have q1 : d.toList.isEmpty = false := By.nonempty h1
  have q3 : decide ((16 : Int) < (d.size : Int)) = false := by rw [decide_eq_false_iff_not]; omega
  have r3 : ¬ (16 : Int) < (d.size : Int) := by omega
  have q4 : decide (s < (0 : Int)) = false := decide_eq_false h4
  have q5 : decide ((65535 : Int) < s) = false := decide_eq_false h5
  have q6 : decide (c < (0 : Int)) = true := decide_eq_true h6
  clear h0 hn hd
  obtain ⟨HB, HZ, HO⟩ := bxTwo w #[.int .i64 0, .string ⟨#[]⟩, .string ⟨#[]⟩, .int .i64 0, .int .i64 0, .int .i64 0, .int .i64 0, .int .i64 0, .int .i64 0] 28 #[.slice none 0 0, .bool false, .slice none 0 0] 31
  go_enter Tryz.func8, Tryz.ntmps8
  go_wp2_with fail
  refine (CG.out _).mono ?_
  rintro e w1 ⟨v, rfl, hb⟩
  replace HZ := kpB hb HZ
  replace HO := kpB hb HO
  replace HB := Lib.hid (HB.out.trans (hb.mono HB.out.size))
  clear hb CG
  go_wp2_with fail
  refine (CI.out _).mono ?_
  rintro e w2 ⟨rfl, hb⟩
  replace HZ := kpB hb HZ
  replace HO := kpB hb HO
  replace HB := Lib.hid (HB.out.trans (hb.mono HB.out.size))
  clear hb CI
  obtain ⟨z0, z1, z2, z3, z4, z5, z6, z7, z8⟩ := bx9 HZ.out
  obtain ⟨zf0, zf1, zf2, zf3, zf4, zf5, zf6, zf7, zf8⟩ := bx9f HZ.out
  obtain ⟨y0, y1, y2⟩ := bx3 HO.out
  obtain ⟨yf0, yf1, yf2⟩ := bx3f HO.out
  have hP : w.heap.size + 1 < w2.heap.size := heap_lt HO.out
  have hPa : w.heap.size < w2.heap.size := heap_lt HZ.out
  go_wp2_with fail
  exact bodyPost_ret (results_three Tryz.results8 _ _ w.heap.size (w.heap.size + 1) _ _ _ rfl rfl rfl (load_s ((st3k (by omega) (.slice none 0 0) (.bool false) (.slice none 0 0)).trans (st9 HZ.out (.int .i64 0) (.string ⟨#[]⟩) (.string ⟨#[]⟩) (.int .i64 0) (.int .i64 0) (.int .i64 0) (.int .i64 0) (.int .i64 0) (.int .i64 0)))) (load_o (st3 ((st9k (by omega) (.int .i64 0) (.string ⟨#[]⟩) (.string ⟨#[]⟩) (.int .i64 0) (.int .i64 0) (.int .i64 0) (.int .i64 0) (.int .i64 0) (.int .i64 0)).trans HO.out) (.slice none 0 0) (.bool false) (.slice none 0 0)))) rfl ⟨rfl, st3b (st9b HB.out (by omega) (.int .i64 0) (.string ⟨#[]⟩) (.string ⟨#[]⟩) (.int .i64 0) (.int .i64 0) (.int .i64 0) (.int .i64 0) (.int .i64 0) (.int .i64 0)) (by omega) (.slice none 0 0) (.bool false) (.slice none 0 0)⟩
set_option maxRecDepth 100000 in
set_option maxHeartbeats 8000000 in
theorem rstart_7 (n d : ByteArray) (s t c : Int) (w : World) (hn : n.size ≤ 1048576) (hd : d.size ≤ 1048576) (h0 : isN n = true) (h1 : ¬ d.size = 0) (h2 : isT d = true) (h3 : ¬ 16 < d.size) (h4 : ¬ s < (0 : Int)) (h5 : ¬ (65535 : Int) < s) (h6 : ¬ c < (0 : Int)) (h7 : (65535 : Int) < c) : Calls Tryz.prog 8 #[.string n, .string d, .int .i64 s, .int .i64 t, .int .i64 c] w (fun e w' => e = .returned (.tuple #[.agg #[.int .i64 0, .string ⟨#[]⟩, .string ⟨#[]⟩, .int .i64 0, .int .i64 0, .int .i64 0, .int .i64 0, .int .i64 0, .int .i64 0], .agg #[.slice none 0 0, .bool false, .slice none 0 0], .int .i64 2]) ∧ Below w.heap.size w w') := by
  have CI : Hid (∀ W, Calls Tryz.prog 20 #[.string n] W (Gives (.bool true) W)) := fun W => by
    have q := is_b n W hn
    rw [h0] at q
    exact q
  have CG : Hid (∀ W, Calls Tryz.prog 19 #[.string d] W (SgB true W)) := fun W => by
    have q := signs_b d W hd
    rw [h2] at q
    exact q
  have q1 : d.toList.isEmpty = false := By.nonempty h1
  have q3 : decide ((16 : Int) < (d.size : Int)) = false := by rw [decide_eq_false_iff_not]; omega
  have r3 : ¬ (16 : Int) < (d.size : Int) := by omega
  have q4 : decide (s < (0 : Int)) = false := decide_eq_false h4
  have q5 : decide ((65535 : Int) < s) = false := decide_eq_false h5
  have q6 : decide (c < (0 : Int)) = false := decide_eq_false h6
  have q7 : decide ((65535 : Int) < c) = true := decide_eq_true h7
  clear h0 hn hd
  obtain ⟨HB, HZ, HO⟩ := bxTwo w #[.int .i64 0, .string ⟨#[]⟩, .string ⟨#[]⟩, .int .i64 0, .int .i64 0, .int .i64 0, .int .i64 0, .int .i64 0, .int .i64 0] 28 #[.slice none 0 0, .bool false, .slice none 0 0] 31
  go_enter Tryz.func8, Tryz.ntmps8
  go_wp2_with fail
  refine (CG.out _).mono ?_
  rintro e w1 ⟨v, rfl, hb⟩
  replace HZ := kpB hb HZ
  replace HO := kpB hb HO
  replace HB := Lib.hid (HB.out.trans (hb.mono HB.out.size))
  clear hb CG
  go_wp2_with fail
  refine (CI.out _).mono ?_
  rintro e w2 ⟨rfl, hb⟩
  replace HZ := kpB hb HZ
  replace HO := kpB hb HO
  replace HB := Lib.hid (HB.out.trans (hb.mono HB.out.size))
  clear hb CI
  obtain ⟨z0, z1, z2, z3, z4, z5, z6, z7, z8⟩ := bx9 HZ.out
  obtain ⟨zf0, zf1, zf2, zf3, zf4, zf5, zf6, zf7, zf8⟩ := bx9f HZ.out
  obtain ⟨y0, y1, y2⟩ := bx3 HO.out
  obtain ⟨yf0, yf1, yf2⟩ := bx3f HO.out
  have hP : w.heap.size + 1 < w2.heap.size := heap_lt HO.out
  have hPa : w.heap.size < w2.heap.size := heap_lt HZ.out
  go_wp2_with fail
  exact bodyPost_ret (results_three Tryz.results8 _ _ w.heap.size (w.heap.size + 1) _ _ _ rfl rfl rfl (load_s ((st3k (by omega) (.slice none 0 0) (.bool false) (.slice none 0 0)).trans (st9 HZ.out (.int .i64 0) (.string ⟨#[]⟩) (.string ⟨#[]⟩) (.int .i64 0) (.int .i64 0) (.int .i64 0) (.int .i64 0) (.int .i64 0) (.int .i64 0)))) (load_o (st3 ((st9k (by omega) (.int .i64 0) (.string ⟨#[]⟩) (.string ⟨#[]⟩) (.int .i64 0) (.int .i64 0) (.int .i64 0) (.int .i64 0) (.int .i64 0) (.int .i64 0)).trans HO.out) (.slice none 0 0) (.bool false) (.slice none 0 0)))) rfl ⟨rfl, st3b (st9b HB.out (by omega) (.int .i64 0) (.string ⟨#[]⟩) (.string ⟨#[]⟩) (.int .i64 0) (.int .i64 0) (.int .i64 0) (.int .i64 0) (.int .i64 0) (.int .i64 0)) (by omega) (.slice none 0 0) (.bool false) (.slice none 0 0)⟩
set_option maxRecDepth 100000 in
set_option maxHeartbeats 8000000 in
theorem rstart_8 (n d : ByteArray) (s t c : Int) (w : World) (hn : n.size ≤ 1048576) (hd : d.size ≤ 1048576) (h0 : isN n = true) (h1 : ¬ d.size = 0) (h2 : isT d = true) (h3 : ¬ 16 < d.size) (h4 : ¬ s < (0 : Int)) (h5 : ¬ (65535 : Int) < s) (h6 : ¬ c < (0 : Int)) (h7 : ¬ (65535 : Int) < c) (h8 : t < (0 : Int)) : Calls Tryz.prog 8 #[.string n, .string d, .int .i64 s, .int .i64 t, .int .i64 c] w (fun e w' => e = .returned (.tuple #[.agg #[.int .i64 0, .string ⟨#[]⟩, .string ⟨#[]⟩, .int .i64 0, .int .i64 0, .int .i64 0, .int .i64 0, .int .i64 0, .int .i64 0], .agg #[.slice none 0 0, .bool false, .slice none 0 0], .int .i64 2]) ∧ Below w.heap.size w w') := by
  have CI : Hid (∀ W, Calls Tryz.prog 20 #[.string n] W (Gives (.bool true) W)) := fun W => by
    have q := is_b n W hn
    rw [h0] at q
    exact q
  have CG : Hid (∀ W, Calls Tryz.prog 19 #[.string d] W (SgB true W)) := fun W => by
    have q := signs_b d W hd
    rw [h2] at q
    exact q
  have q1 : d.toList.isEmpty = false := By.nonempty h1
  have q3 : decide ((16 : Int) < (d.size : Int)) = false := by rw [decide_eq_false_iff_not]; omega
  have r3 : ¬ (16 : Int) < (d.size : Int) := by omega
  have q4 : decide (s < (0 : Int)) = false := decide_eq_false h4
  have q5 : decide ((65535 : Int) < s) = false := decide_eq_false h5
  have q6 : decide (c < (0 : Int)) = false := decide_eq_false h6
  have q7 : decide ((65535 : Int) < c) = false := decide_eq_false h7
  have q8 : decide (t < (0 : Int)) = true := decide_eq_true h8
  clear h0 hn hd
  obtain ⟨HB, HZ, HO⟩ := bxTwo w #[.int .i64 0, .string ⟨#[]⟩, .string ⟨#[]⟩, .int .i64 0, .int .i64 0, .int .i64 0, .int .i64 0, .int .i64 0, .int .i64 0] 28 #[.slice none 0 0, .bool false, .slice none 0 0] 31
  go_enter Tryz.func8, Tryz.ntmps8
  go_wp2_with fail
  refine (CG.out _).mono ?_
  rintro e w1 ⟨v, rfl, hb⟩
  replace HZ := kpB hb HZ
  replace HO := kpB hb HO
  replace HB := Lib.hid (HB.out.trans (hb.mono HB.out.size))
  clear hb CG
  go_wp2_with fail
  refine (CI.out _).mono ?_
  rintro e w2 ⟨rfl, hb⟩
  replace HZ := kpB hb HZ
  replace HO := kpB hb HO
  replace HB := Lib.hid (HB.out.trans (hb.mono HB.out.size))
  clear hb CI
  obtain ⟨z0, z1, z2, z3, z4, z5, z6, z7, z8⟩ := bx9 HZ.out
  obtain ⟨zf0, zf1, zf2, zf3, zf4, zf5, zf6, zf7, zf8⟩ := bx9f HZ.out
  obtain ⟨y0, y1, y2⟩ := bx3 HO.out
  obtain ⟨yf0, yf1, yf2⟩ := bx3f HO.out
  have hP : w.heap.size + 1 < w2.heap.size := heap_lt HO.out
  have hPa : w.heap.size < w2.heap.size := heap_lt HZ.out
  go_wp2_with fail
  exact bodyPost_ret (results_three Tryz.results8 _ _ w.heap.size (w.heap.size + 1) _ _ _ rfl rfl rfl (load_s ((st3k (by omega) (.slice none 0 0) (.bool false) (.slice none 0 0)).trans (st9 HZ.out (.int .i64 0) (.string ⟨#[]⟩) (.string ⟨#[]⟩) (.int .i64 0) (.int .i64 0) (.int .i64 0) (.int .i64 0) (.int .i64 0) (.int .i64 0)))) (load_o (st3 ((st9k (by omega) (.int .i64 0) (.string ⟨#[]⟩) (.string ⟨#[]⟩) (.int .i64 0) (.int .i64 0) (.int .i64 0) (.int .i64 0) (.int .i64 0) (.int .i64 0)).trans HO.out) (.slice none 0 0) (.bool false) (.slice none 0 0)))) rfl ⟨rfl, st3b (st9b HB.out (by omega) (.int .i64 0) (.string ⟨#[]⟩) (.string ⟨#[]⟩) (.int .i64 0) (.int .i64 0) (.int .i64 0) (.int .i64 0) (.int .i64 0) (.int .i64 0)) (by omega) (.slice none 0 0) (.bool false) (.slice none 0 0)⟩
set_option maxRecDepth 100000 in
set_option maxHeartbeats 8000000 in
theorem rstart_9 (n d : ByteArray) (s t c : Int) (w : World) (hn : n.size ≤ 1048576) (hd : d.size ≤ 1048576) (h0 : isN n = true) (h1 : ¬ d.size = 0) (h2 : isT d = true) (h3 : ¬ 16 < d.size) (h4 : ¬ s < (0 : Int)) (h5 : ¬ (65535 : Int) < s) (h6 : ¬ c < (0 : Int)) (h7 : ¬ (65535 : Int) < c) (h8 : ¬ t < (0 : Int)) (h9 : (4294967295 : Int) < t) : Calls Tryz.prog 8 #[.string n, .string d, .int .i64 s, .int .i64 t, .int .i64 c] w (fun e w' => e = .returned (.tuple #[.agg #[.int .i64 0, .string ⟨#[]⟩, .string ⟨#[]⟩, .int .i64 0, .int .i64 0, .int .i64 0, .int .i64 0, .int .i64 0, .int .i64 0], .agg #[.slice none 0 0, .bool false, .slice none 0 0], .int .i64 2]) ∧ Below w.heap.size w w') := by
  have CI : Hid (∀ W, Calls Tryz.prog 20 #[.string n] W (Gives (.bool true) W)) := fun W => by
    have q := is_b n W hn
    rw [h0] at q
    exact q
  have CG : Hid (∀ W, Calls Tryz.prog 19 #[.string d] W (SgB true W)) := fun W => by
    have q := signs_b d W hd
    rw [h2] at q
    exact q
  have q1 : d.toList.isEmpty = false := By.nonempty h1
  have q3 : decide ((16 : Int) < (d.size : Int)) = false := by rw [decide_eq_false_iff_not]; omega
  have r3 : ¬ (16 : Int) < (d.size : Int) := by omega
  have q4 : decide (s < (0 : Int)) = false := decide_eq_false h4
  have q5 : decide ((65535 : Int) < s) = false := decide_eq_false h5
  have q6 : decide (c < (0 : Int)) = false := decide_eq_false h6
  have q7 : decide ((65535 : Int) < c) = false := decide_eq_false h7
  have q8 : decide (t < (0 : Int)) = false := decide_eq_false h8
  have q9 : decide ((4294967295 : Int) < t) = true := decide_eq_true h9
  clear h0 hn hd
  obtain ⟨HB, HZ, HO⟩ := bxTwo w #[.int .i64 0, .string ⟨#[]⟩, .string ⟨#[]⟩, .int .i64 0, .int .i64 0, .int .i64 0, .int .i64 0, .int .i64 0, .int .i64 0] 28 #[.slice none 0 0, .bool false, .slice none 0 0] 31
  go_enter Tryz.func8, Tryz.ntmps8
  go_wp2_with fail
  refine (CG.out _).mono ?_
  rintro e w1 ⟨v, rfl, hb⟩
  replace HZ := kpB hb HZ
  replace HO := kpB hb HO
  replace HB := Lib.hid (HB.out.trans (hb.mono HB.out.size))
  clear hb CG
  go_wp2_with fail
  refine (CI.out _).mono ?_
  rintro e w2 ⟨rfl, hb⟩
  replace HZ := kpB hb HZ
  replace HO := kpB hb HO
  replace HB := Lib.hid (HB.out.trans (hb.mono HB.out.size))
  clear hb CI
  obtain ⟨z0, z1, z2, z3, z4, z5, z6, z7, z8⟩ := bx9 HZ.out
  obtain ⟨zf0, zf1, zf2, zf3, zf4, zf5, zf6, zf7, zf8⟩ := bx9f HZ.out
  obtain ⟨y0, y1, y2⟩ := bx3 HO.out
  obtain ⟨yf0, yf1, yf2⟩ := bx3f HO.out
  have hP : w.heap.size + 1 < w2.heap.size := heap_lt HO.out
  have hPa : w.heap.size < w2.heap.size := heap_lt HZ.out
  go_wp2_with fail
  exact bodyPost_ret (results_three Tryz.results8 _ _ w.heap.size (w.heap.size + 1) _ _ _ rfl rfl rfl (load_s ((st3k (by omega) (.slice none 0 0) (.bool false) (.slice none 0 0)).trans (st9 HZ.out (.int .i64 0) (.string ⟨#[]⟩) (.string ⟨#[]⟩) (.int .i64 0) (.int .i64 0) (.int .i64 0) (.int .i64 0) (.int .i64 0) (.int .i64 0)))) (load_o (st3 ((st9k (by omega) (.int .i64 0) (.string ⟨#[]⟩) (.string ⟨#[]⟩) (.int .i64 0) (.int .i64 0) (.int .i64 0) (.int .i64 0) (.int .i64 0) (.int .i64 0)).trans HO.out) (.slice none 0 0) (.bool false) (.slice none 0 0)))) rfl ⟨rfl, st3b (st9b HB.out (by omega) (.int .i64 0) (.string ⟨#[]⟩) (.string ⟨#[]⟩) (.int .i64 0) (.int .i64 0) (.int .i64 0) (.int .i64 0) (.int .i64 0) (.int .i64 0)) (by omega) (.slice none 0 0) (.bool false) (.slice none 0 0)⟩
set_option maxRecDepth 100000 in
set_option maxHeartbeats 8000000 in
theorem rstart_y (n d : ByteArray) (s t c : Int) (w : World) (hn : n.size ≤ 1048576) (hd : d.size ≤ 1048576) (h0 : isN n = true) (h1 : ¬ d.size = 0) (h2 : isT d = true) (h3 : ¬ 16 < d.size) (h4 : ¬ s < (0 : Int)) (h5 : ¬ (65535 : Int) < s) (h6 : ¬ c < (0 : Int)) (h7 : ¬ (65535 : Int) < c) (h8 : ¬ t < (0 : Int)) (h9 : ¬ (4294967295 : Int) < t) : Calls Tryz.prog 8 #[.string n, .string d, .int .i64 s, .int .i64 t, .int .i64 c] w (fun e w' => ∃ g, e = .returned (.tuple #[.agg #[.int .i64 1, .string n, .string d, .int .i64 s, .int .i64 t, .int .i64 c, .int .i64 0, .int .i64 0, .int .i64 0], .agg #[.slice (some ⟨g, 0, none⟩) 2 2, .bool true, .slice none 0 0], .int .i64 0]) ∧ Below w.heap.size w w' ∧ w'.heap[g]? = some (.cells #[.int .i64 1, .string ⟨#[]⟩, .string ⟨#[]⟩, .string ⟨#[]⟩, .int .i64 0, .int .i64 0, .int .i64 0, .int .i64 0, .bool false, .slice none 0 0, .slice none 0 0, .int .i64 5, .string n, .string ⟨#[]⟩, .string ⟨#[]⟩, .int .i64 0, .int .i64 0, .int .i64 0, .int .i64 0, .bool false, .slice none 0 0, .slice none 0 0] 42 (0, 0)) ∧ w.heap.size ≤ g) := by
  have CI : Hid (∀ W, Calls Tryz.prog 20 #[.string n] W (Gives (.bool true) W)) := fun W => by
    have q := is_b n W hn
    rw [h0] at q
    exact q
  have CG : Hid (∀ W, Calls Tryz.prog 19 #[.string d] W (SgB true W)) := fun W => by
    have q := signs_b d W hd
    rw [h2] at q
    exact q
  have q1 : d.toList.isEmpty = false := By.nonempty h1
  have q3 : decide ((16 : Int) < (d.size : Int)) = false := by rw [decide_eq_false_iff_not]; omega
  have r3 : ¬ (16 : Int) < (d.size : Int) := by omega
  have q4 : decide (s < (0 : Int)) = false := decide_eq_false h4
  have q5 : decide ((65535 : Int) < s) = false := decide_eq_false h5
  have q6 : decide (c < (0 : Int)) = false := decide_eq_false h6
  have q7 : decide ((65535 : Int) < c) = false := decide_eq_false h7
  have q8 : decide (t < (0 : Int)) = false := decide_eq_false h8
  have q9 : decide ((4294967295 : Int) < t) = false := decide_eq_false h9
  clear h0 hn hd
  obtain ⟨HB, HZ, HO⟩ := bxTwo w #[.int .i64 0, .string ⟨#[]⟩, .string ⟨#[]⟩, .int .i64 0, .int .i64 0, .int .i64 0, .int .i64 0, .int .i64 0, .int .i64 0] 28 #[.slice none 0 0, .bool false, .slice none 0 0] 31
  go_enter Tryz.func8, Tryz.ntmps8
  go_wp2_with fail
  refine (CG.out _).mono ?_
  rintro e w1 ⟨v, rfl, hb⟩
  replace HZ := kpB hb HZ
  replace HO := kpB hb HO
  replace HB := Lib.hid (HB.out.trans (hb.mono HB.out.size))
  clear hb CG
  go_wp2_with fail
  refine (CI.out _).mono ?_
  rintro e w2 ⟨rfl, hb⟩
  replace HZ := kpB hb HZ
  replace HO := kpB hb HO
  replace HB := Lib.hid (HB.out.trans (hb.mono HB.out.size))
  clear hb CI
  go_upto_region 5 with fail
  obtain ⟨HS, HE⟩ := bxOne w2 #[.int .i64 1, .string n, .string d, .int .i64 s, .int .i64 t, .int .i64 c, .int .i64 0, .int .i64 0, .int .i64 0] 28
  replace HZ := kpB HE.out HZ
  replace HO := kpB HE.out HO
  replace HB := Lib.hid (HB.out.trans (HE.out.mono HB.out.size))
  clear HE
  generalize (w2.alloc (.cells #[.int .i64 1, .string n, .string d, .int .i64 s, .int .i64 t, .int .i64 c, .int .i64 0, .int .i64 0, .int .i64 0] 28)) = w3 at HS HZ HO HB ⊢
  generalize w2.heap.size = A5 at HS ⊢
  obtain ⟨m0, m1, m2, m3, m4, m5, m6, m7, m8⟩ := bx9 HS.out
  have hPs : A5 < w3.heap.size := heap_lt HS.out
  obtain ⟨z0, z1, z2, z3, z4, z5, z6, z7, z8⟩ := bx9 HZ.out
  obtain ⟨zf0, zf1, zf2, zf3, zf4, zf5, zf6, zf7, zf8⟩ := bx9f HZ.out
  obtain ⟨y0, y1, y2⟩ := bx3 HO.out
  obtain ⟨yf0, yf1, yf2⟩ := bx3f HO.out
  have hP : w.heap.size + 1 < w3.heap.size := heap_lt HO.out
  have hPa : w.heap.size < w3.heap.size := heap_lt HZ.out
  go_wp2_with fail
  have K0 := Lib.hid ((st3k (A := w.heap.size + 1) (b := w.heap.size) (by omega) (.slice (some ⟨w3.heap.size, 0, none⟩) 2 2) (.bool true) (.slice none 0 0)).trans (st9 HZ.out (.int .i64 1) (.string n) (.string d) (.int .i64 s) (.int .i64 t) (.int .i64 c) (.int .i64 0) (.int .i64 0) (.int .i64 0)))
  have K1 := Lib.hid (st3 ((st9k (A := w.heap.size) (b := w.heap.size + 1) (by omega) (.int .i64 1) (.string n) (.string d) (.int .i64 s) (.int .i64 t) (.int .i64 c) (.int .i64 0) (.int .i64 0) (.int .i64 0)).trans HO.out) (.slice (some ⟨w3.heap.size, 0, none⟩) 2 2) (.bool true) (.slice none 0 0))
  have KB := Lib.hid (st3b (st9b HB.out (Nat.le_refl _) (.int .i64 1) (.string n) (.string d) (.int .i64 s) (.int .i64 t) (.int .i64 c) (.int .i64 0) (.int .i64 0) (.int .i64 0)) (show w.heap.size ≤ w.heap.size + 1 by omega) (.slice (some ⟨w3.heap.size, 0, none⟩) 2 2) (.bool true) (.slice none 0 0))
  have hsz : ((((((((((((w3.setCell ⟨w.heap.size, 0, none⟩ (.int .i64 1)).setCell ⟨w.heap.size, 1, none⟩ (.string n)).setCell ⟨w.heap.size, 2, none⟩ (.string d)).setCell ⟨w.heap.size, 3, none⟩ (.int .i64 s)).setCell ⟨w.heap.size, 4, none⟩ (.int .i64 t)).setCell ⟨w.heap.size, 5, none⟩ (.int .i64 c)).setCell ⟨w.heap.size, 6, none⟩ (.int .i64 0)).setCell ⟨w.heap.size, 7, none⟩ (.int .i64 0)).setCell ⟨w.heap.size, 8, none⟩ (.int .i64 0)).setCell ⟨w.heap.size + 1, 0, none⟩ (.slice (some ⟨w3.heap.size, 0, none⟩) 2 2)).setCell ⟨w.heap.size + 1, 1, none⟩ (.bool true)).setCell ⟨w.heap.size + 1, 2, none⟩ (.slice none 0 0)).heap.size = w3.heap.size := by simp only [st_size]
  obtain ⟨R0, HE⟩ := bxOne ((((((((((((w3.setCell ⟨w.heap.size, 0, none⟩ (.int .i64 1)).setCell ⟨w.heap.size, 1, none⟩ (.string n)).setCell ⟨w.heap.size, 2, none⟩ (.string d)).setCell ⟨w.heap.size, 3, none⟩ (.int .i64 s)).setCell ⟨w.heap.size, 4, none⟩ (.int .i64 t)).setCell ⟨w.heap.size, 5, none⟩ (.int .i64 c)).setCell ⟨w.heap.size, 6, none⟩ (.int .i64 0)).setCell ⟨w.heap.size, 7, none⟩ (.int .i64 0)).setCell ⟨w.heap.size, 8, none⟩ (.int .i64 0)).setCell ⟨w.heap.size + 1, 0, none⟩ (.slice (some ⟨w3.heap.size, 0, none⟩) 2 2)).setCell ⟨w.heap.size + 1, 1, none⟩ (.bool true)).setCell ⟨w.heap.size + 1, 2, none⟩ (.slice none 0 0)) #[.int .i64 1, .string ⟨#[]⟩, .string ⟨#[]⟩, .string ⟨#[]⟩, .int .i64 0, .int .i64 0, .int .i64 0, .int .i64 0, .bool false, .slice none 0 0, .slice none 0 0, .int .i64 5, .string n, .string ⟨#[]⟩, .string ⟨#[]⟩, .int .i64 0, .int .i64 0, .int .i64 0, .int .i64 0, .bool false, .slice none 0 0, .slice none 0 0] 42
  replace K0 := kpB HE.out K0
  replace K1 := kpB HE.out K1
  replace KB := Lib.hid (KB.out.trans (HE.out.mono KB.out.size))
  rw [hsz] at R0
  clear HE
  exact bodyPost_ret (results_three Tryz.results8 _ _ w.heap.size (w.heap.size + 1) _ _ _ rfl rfl rfl (load_s K0.out) (load_o K1.out)) rfl ⟨w3.heap.size, rfl, KB.out, R0.out, by omega⟩
theorem rstart_any (n d : ByteArray) (s t c : Int) (w : World) (hn : n.size ≤ 1000000) (hd : d.size ≤ 1000000) : Calls Tryz.prog 8 #[.string n, .string d, .int .i64 s, .int .i64 t, .int .i64 c] w (BgP n d s t c w) := by
  have hn' : n.size ≤ 1048576 := Nat.le_trans hn (by decide)
  have hd' : d.size ≤ 1048576 := Nat.le_trans hd (by decide)
  have key : ¬ stOk n d s t c = true → Calls Tryz.prog 8 #[.string n, .string d, .int .i64 s, .int .i64 t, .int .i64 c] w (fun e w' => e = .returned (.tuple #[.agg #[.int .i64 0, .string ⟨#[]⟩, .string ⟨#[]⟩, .int .i64 0, .int .i64 0, .int .i64 0, .int .i64 0, .int .i64 0, .int .i64 0], .agg #[.slice none 0 0, .bool false, .slice none 0 0], .int .i64 2]) ∧ Below w.heap.size w w') → Calls Tryz.prog 8 #[.string n, .string d, .int .i64 s, .int .i64 t, .int .i64 c] w (BgP n d s t c w) := fun ho hC => by
    refine hC.mono fun e W ⟨he, hb⟩ => ?_
    unfold BgP stS stO stE
    rw [if_neg ho, if_neg ho, if_neg ho]
    exact ⟨none, none, 0, 0, he, hb, fr_nil _ _ _, fr_nil _ _ _⟩
  have hk : stOk n d s t c = true ↔ isN n = true ∧ (¬ d.size = 0 ∧ d.size ≤ 16 ∧ isT d = true) ∧ (0 ≤ s ∧ s ≤ 65535) ∧ (0 ≤ t ∧ t ≤ 4294967295) ∧ 0 ≤ c ∧ c ≤ 65535 := by
    simp only [stOk, pwB, inB, Bool.and_eq_true, decide_eq_true_eq, ne_eq]
  cases h0 : isN n
  · exact key (fun h => by rw [hk, h0] at h; exact Bool.noConfusion h.1) (rstart_0 n d s t c w hn' hd' h0)
  by_cases h1 : d.size = 0
  · exact key (fun h => by rw [hk] at h; omega) (rstart_1 n d s t c w hn' hd' h0 h1)
  cases h2 : isT d
  · exact key (fun h => by rw [hk, h2] at h; exact Bool.noConfusion h.2.1.2.2) (rstart_2 n d s t c w hn' hd' h0 h1 h2)
  by_cases h3 : 16 < d.size
  · exact key (fun h => by rw [hk] at h; omega) (rstart_3 n d s t c w hn' hd' h0 h1 h2 h3)
  by_cases h4 : s < (0 : Int)
  · exact key (fun h => by rw [hk] at h; omega) (rstart_4 n d s t c w hn' hd' h0 h1 h2 h3 h4)
  by_cases h5 : (65535 : Int) < s
  · exact key (fun h => by rw [hk] at h; omega) (rstart_5 n d s t c w hn' hd' h0 h1 h2 h3 h4 h5)
  by_cases h6 : c < (0 : Int)
  · exact key (fun h => by rw [hk] at h; omega) (rstart_6 n d s t c w hn' hd' h0 h1 h2 h3 h4 h5 h6)
  by_cases h7 : (65535 : Int) < c
  · exact key (fun h => by rw [hk] at h; omega) (rstart_7 n d s t c w hn' hd' h0 h1 h2 h3 h4 h5 h6 h7)
  by_cases h8 : t < (0 : Int)
  · exact key (fun h => by rw [hk] at h; omega) (rstart_8 n d s t c w hn' hd' h0 h1 h2 h3 h4 h5 h6 h7 h8)
  by_cases h9 : (4294967295 : Int) < t
  · exact key (fun h => by rw [hk] at h; omega) (rstart_9 n d s t c w hn' hd' h0 h1 h2 h3 h4 h5 h6 h7 h8 h9)
  have ho : stOk n d s t c = true := hk.2 ⟨h0, ⟨h1, by omega, h2⟩, by omega, by omega, by omega⟩
  refine (rstart_y n d s t c w hn' hd' h0 h1 h2 h3 h4 h5 h6 h7 h8 h9).mono fun e W ⟨g, he, hb, hr, hg⟩ => ?_
  unfold BgP stS stO stE
  rw [if_pos ho, if_pos ho, if_pos ho]
  exact ⟨some ⟨g, 0, none⟩, none, 2, 0, he, hb, fr_two (nK 1) { nK 5 with n := n } hg hr (fun _ _ => ntl_plain _ rfl rfl (Nat.zero_le _) (Nat.zero_le _) (Nat.zero_le _)) (fun _ _ => ntl_plain _ rfl rfl hn (Nat.zero_le _) (Nat.zero_le _)), fr_nil _ _ _⟩
end Go.Proofs.YthbeempmdpfnmaaGreatDoor.T
