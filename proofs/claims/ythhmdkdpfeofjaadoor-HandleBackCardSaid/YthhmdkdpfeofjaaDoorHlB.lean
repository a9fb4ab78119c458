/- The walk of the law HandleBack: of a name's address the name comes back, in its plain form; whatever its case and blanks. Condition: a string takes at most what a machine can hold. -/
import Derived.Test.YthhmdkdpfeofjaaDoorHlv
import Derived.Test.YthhmdkdpfeofjaaDoorJq
namespace Go.Proofs.YthhmdkdpfeofjaaDoor
open Go.RowKit Go.Lib Go.Shelf Sg Jd Hd

theorem toJid_yesB (s d : ByteArray) (w : World) (hs : s.size ≤ 300000) (hd : d.size ≤ 1048576) {j : J} (h : toj s.data.toList d.data.toList = some j) :
    Calls Tryd.prog 14 #[.string s, .string d] w fun e w' => e = .returned (.tuple #[.agg #[.string (mk (Esc.E (nl s.data.toList))), .string d, .string ⟨#[]⟩], .int .i64 0]) ∧ Below w.heap.size w w' := by
  have c := toJid_any s d w hs hd
  rw [h] at c
  obtain ⟨_, _, rfl⟩ := toj_some h
  have e : tjj (some ⟨Esc.E (nl s.data.toList), d.data.toList, []⟩) = .tuple #[.agg #[.string (mk (Esc.E (nl s.data.toList))), .string d, .string ⟨#[]⟩], .int .i64 0] := by
    unfold tjj
    simp only [mk_of]
    rfl
  rw [e] at c
  exact c
theorem toJid_noB (s d : ByteArray) (w : World) (hs : s.size ≤ 300000) (hd : d.size ≤ 1048576) (h : toj s.data.toList d.data.toList = none) :
    Calls Tryd.prog 14 #[.string s, .string d] w fun e w' => e = .returned (.tuple #[.agg #[.string ⟨#[]⟩, .string ⟨#[]⟩, .string ⟨#[]⟩], .int .i64 40]) ∧ Below w.heap.size w w' := by
  have c := toJid_any s d w hs hd
  rw [h] at c
  exact c
set_option maxRecDepth 100000 in
set_option maxHeartbeats 8000000 in
theorem back4_no (s d : ByteArray) (a : Int) (w : World) (f : decide ((3000 : Int) < (s.size : Int) + (d.size : Int)) = false) (g1 : s.size ≤ 3000) (g2 : d.size ≤ 3000)
    (L : Hid (∀ W, Calls Tryd.prog 7 #[] W fun e w' => e = .returned (.bool true) ∧ Below W.heap.size W w'))
    (T1 : Hid (∀ W, Calls Tryd.prog 14 #[.string s, .string d] W fun e w' => e = .returned (.tuple #[.agg #[.string ⟨#[]⟩, .string ⟨#[]⟩, .string ⟨#[]⟩], .int .i64 40]) ∧ Below W.heap.size W w')) :
    Calls Tryd.prog 4 #[.string s, .string d, .int .i64 a] w fun e w' => e = .returned (.bool true) ∧ Below w.heap.size w w' := by
  have HB0 : Hid (Below w.heap.size w w) := Below.refl _ _
  go_enter Tryd.func4, Tryd.ntmps4
  go_wp2_with fail
  refine (T1.out _).mono ?_
  rintro e w1 ⟨rfl, hb1⟩
  have HB1 := Lib.hid (more4 HB0.out (Nat.le_refl _) hb1)
  clear hb1
  have Z2 := Lib.hid (Bx.new w1 (.string ⟨#[]⟩) (.string ⟨#[]⟩) (.string ⟨#[]⟩) 30)
  have HB2 := Lib.hid (HB1.out.alloc HB1.out.size (.cells #[.string ⟨#[]⟩, .string ⟨#[]⟩, .string ⟨#[]⟩] 30))
  obtain ⟨_, k0_0, k0_1, k0_2, kf0⟩ := Z2.out
  go_wp2_with fail
  refine (num_any _ _).mono ?_
  rintro e w9 ⟨rfl, hw⟩
  subst hw
  go_wp2_with fail
  refine (L.out _).mono ?_
  rintro e w3 ⟨rfl, hb3⟩
  clear k0_0 k0_1 k0_2 kf0
  have X0_3 := Lib.hid (Z2.out.below hb3)
  have HB3 := Lib.hid (more4 HB2.out (Nat.le_refl _) hb3)
  clear hb3
  obtain ⟨_, k0_0, k0_1, k0_2, kf0⟩ := X0_3.out
  go_wp2_with fail
  go_ret
  exact ⟨rfl, HB3.out⟩
set_option maxRecDepth 100000 in
set_option maxHeartbeats 8000000 in
theorem back4_a (s d N1 M : ByteArray) (a : Int) (w : World) (f : decide ((3000 : Int) < (s.size : Int) + (d.size : Int)) = false) (g1 : s.size ≤ 3000) (g2 : d.size ≤ 3000) (h : a < 1)
    (L : Hid (∀ W, Calls Tryd.prog 7 #[] W fun e w' => e = .returned (.bool true) ∧ Below W.heap.size W w'))
    (T1 : Hid (∀ W, Calls Tryd.prog 14 #[.string s, .string d] W fun e w' => e = .returned (.tuple #[.agg #[.string N1, .string d, .string ⟨#[]⟩], .int .i64 0]) ∧ Below W.heap.size W w'))
    (FJ : Hid (∀ W, Calls Tryd.prog 15 #[.agg #[.string N1, .string d, .string ⟨#[]⟩], .string d] W fun e w' => e = .returned (.tuple #[.string M, .int .i64 0]) ∧ Below W.heap.size W w'))
    (NO : Hid (∀ W, Calls Tryd.prog 11 #[.string s] W fun e w' => e = .returned (.string M) ∧ Below W.heap.size W w')) :
    Calls Tryd.prog 4 #[.string s, .string d, .int .i64 a] w fun e w' => e = .returned (.bool true) ∧ Below w.heap.size w w' := by
  have HB0 : Hid (Below w.heap.size w w) := Below.refl _ _
  have f1 : decide (a < 1) = true := by simp; omega
  clear h
  have hMM : (M.toList == M.toList) = true := by simp
  have hdd : (d.toList == d.toList) = true := by simp
  go_enter Tryd.func4, Tryd.ntmps4
  go_wp2_with fail
  refine (T1.out _).mono ?_
  rintro e w1 ⟨rfl, hb1⟩
  have HB1 := Lib.hid (more4 HB0.out (Nat.le_refl _) hb1)
  clear hb1
  have Z2 := Lib.hid (Bx.new w1 (.string N1) (.string d) (.string ⟨#[]⟩) 30)
  have HB2 := Lib.hid (HB1.out.alloc HB1.out.size (.cells #[.string N1, .string d, .string ⟨#[]⟩] 30))
  obtain ⟨_, k0_0, k0_1, k0_2, kf0⟩ := Z2.out
  go_wp2_with fail
  refine (num_any _ _).mono ?_
  rintro e w9 ⟨rfl, hw⟩
  subst hw
  go_wp2_with fail
  refine (FJ.out _).mono ?_
  rintro e w3 ⟨rfl, hb3⟩
  clear k0_0 k0_1 k0_2 kf0
  have X0_3 := Lib.hid (Z2.out.below hb3)
  have HB3 := Lib.hid (more4 HB2.out (Nat.le_refl _) hb3)
  clear hb3
  obtain ⟨_, k0_0, k0_1, k0_2, kf0⟩ := X0_3.out
  go_wp2_with fail
  refine (num_any _ _).mono ?_
  rintro e w9 ⟨rfl, hw⟩
  subst hw
  go_wp2_with fail
  refine (NO.out _).mono ?_
  rintro e w4 ⟨rfl, hb4⟩
  clear k0_0 k0_1 k0_2 kf0
  have X0_4 := Lib.hid (X0_3.out.below hb4)
  have HB4 := Lib.hid (more4 HB3.out (Nat.le_refl _) hb4)
  clear hb4
  obtain ⟨_, k0_0, k0_1, k0_2, kf0⟩ := X0_4.out
  go_wp2_with fail
  refine (L.out _).mono ?_
  rintro e w5 ⟨rfl, hb5⟩
  clear k0_0 k0_1 k0_2 kf0
  have X0_5 := Lib.hid (X0_4.out.below hb5)
  have HB5 := Lib.hid (more4 HB4.out (Nat.le_refl _) hb5)
  clear hb5
  obtain ⟨_, k0_0, k0_1, k0_2, kf0⟩ := X0_5.out
  go_wp2_with fail
  go_ret
  exact ⟨rfl, HB5.out⟩
set_option maxRecDepth 100000 in
set_option maxHeartbeats 8000000 in
theorem back4_b (s d N1 M : ByteArray) (a : Int) (w : World) (f : decide ((3000 : Int) < (s.size : Int) + (d.size : Int)) = false) (g1 : s.size ≤ 3000) (g2 : d.size ≤ 3000) (h : ¬ a < 1) (h2 : (s.size : Int) ≤ a)
    (L : Hid (∀ W, Calls Tryd.prog 7 #[] W fun e w' => e = .returned (.bool true) ∧ Below W.heap.size W w'))
    (T1 : Hid (∀ W, Calls Tryd.prog 14 #[.string s, .string d] W fun e w' => e = .returned (.tuple #[.agg #[.string N1, .string d, .string ⟨#[]⟩], .int .i64 0]) ∧ Below W.heap.size W w'))
    (FJ : Hid (∀ W, Calls Tryd.prog 15 #[.agg #[.string N1, .string d, .string ⟨#[]⟩], .string d] W fun e w' => e = .returned (.tuple #[.string M, .int .i64 0]) ∧ Below W.heap.size W w'))
    (NO : Hid (∀ W, Calls Tryd.prog 11 #[.string s] W fun e w' => e = .returned (.string M) ∧ Below W.heap.size W w')) :
    Calls Tryd.prog 4 #[.string s, .string d, .int .i64 a] w fun e w' => e = .returned (.bool true) ∧ Below w.heap.size w w' := by
  have HB0 : Hid (Below w.heap.size w w) := Below.refl _ _
  have f1 : decide (a < 1) = false := by simp; omega
  have f2 : decide ((s.size : Int) ≤ a) = true := by simp; omega
  clear h h2
  have hMM : (M.toList == M.toList) = true := by simp
  have hdd : (d.toList == d.toList) = true := by simp
  go_enter Tryd.func4, Tryd.ntmps4
  go_wp2_with fail
  refine (T1.out _).mono ?_
  rintro e w1 ⟨rfl, hb1⟩
  have HB1 := Lib.hid (more4 HB0.out (Nat.le_refl _) hb1)
  clear hb1
  have Z2 := Lib.hid (Bx.new w1 (.string N1) (.string d) (.string ⟨#[]⟩) 30)
  have HB2 := Lib.hid (HB1.out.alloc HB1.out.size (.cells #[.string N1, .string d, .string ⟨#[]⟩] 30))
  obtain ⟨_, k0_0, k0_1, k0_2, kf0⟩ := Z2.out
  go_wp2_with fail
  refine (num_any _ _).mono ?_
  rintro e w9 ⟨rfl, hw⟩
  subst hw
  go_wp2_with fail
  refine (FJ.out _).mono ?_
  rintro e w3 ⟨rfl, hb3⟩
  clear k0_0 k0_1 k0_2 kf0
  have X0_3 := Lib.hid (Z2.out.below hb3)
  have HB3 := Lib.hid (more4 HB2.out (Nat.le_refl _) hb3)
  clear hb3
  obtain ⟨_, k0_0, k0_1, k0_2, kf0⟩ := X0_3.out
  go_wp2_with fail
  refine (num_any _ _).mono ?_
  rintro e w9 ⟨rfl, hw⟩
  subst hw
  go_wp2_with fail
  refine (NO.out _).mono ?_
  rintro e w4 ⟨rfl, hb4⟩
  clear k0_0 k0_1 k0_2 kf0
  have X0_4 := Lib.hid (X0_3.out.below hb4)
  have HB4 := Lib.hid (more4 HB3.out (Nat.le_refl _) hb4)
  clear hb4
  obtain ⟨_, k0_0, k0_1, k0_2, kf0⟩ := X0_4.out
  go_wp2_with fail
  refine (L.out _).mono ?_
  rintro e w5 ⟨rfl, hb5⟩
  clear k0_0 k0_1 k0_2 kf0
  have X0_5 := Lib.hid (X0_4.out.below hb5)
  have HB5 := Lib.hid (more4 HB4.out (Nat.le_refl _) hb5)
  clear hb5
  obtain ⟨_, k0_0, k0_1, k0_2, kf0⟩ := X0_5.out
  go_wp2_with fail
  go_ret
  exact ⟨rfl, HB5.out⟩
set_option maxRecDepth 100000 in
set_option maxHeartbeats 8000000 in
theorem back4_c (s d N1 M : ByteArray) (a : Int) (w : World) (f : decide ((3000 : Int) < (s.size : Int) + (d.size : Int)) = false) (g1 : s.size ≤ 3000) (g2 : d.size ≤ 3000) (h : ¬ a < 1) (h2 : ¬ (s.size : Int) ≤ a) (h3 : 16 ≤ s.size)
    (L : Hid (∀ W, Calls Tryd.prog 7 #[] W fun e w' => e = .returned (.bool true) ∧ Below W.heap.size W w'))
    (T1 : Hid (∀ W, Calls Tryd.prog 14 #[.string s, .string d] W fun e w' => e = .returned (.tuple #[.agg #[.string N1, .string d, .string ⟨#[]⟩], .int .i64 0]) ∧ Below W.heap.size W w'))
    (FJ : Hid (∀ W, Calls Tryd.prog 15 #[.agg #[.string N1, .string d, .string ⟨#[]⟩], .string d] W fun e w' => e = .returned (.tuple #[.string M, .int .i64 0]) ∧ Below W.heap.size W w'))
    (NO : Hid (∀ W, Calls Tryd.prog 11 #[.string s] W fun e w' => e = .returned (.string M) ∧ Below W.heap.size W w')) :
    Calls Tryd.prog 4 #[.string s, .string d, .int .i64 a] w fun e w' => e = .returned (.bool true) ∧ Below w.heap.size w w' := by
  have HB0 : Hid (Below w.heap.size w w) := Below.refl _ _
  have f1 : decide (a < 1) = false := by simp; omega
  have f2 : decide ((s.size : Int) ≤ a) = false := by simp; omega
  have f3 : decide ((16 : Int) ≤ (s.size : Int)) = true := by simp; omega
  clear h h2 h3
  have hMM : (M.toList == M.toList) = true := by simp
  have hdd : (d.toList == d.toList) = true := by simp
  go_enter Tryd.func4, Tryd.ntmps4
  go_wp2_with fail
  refine (T1.out _).mono ?_
  rintro e w1 ⟨rfl, hb1⟩
  have HB1 := Lib.hid (more4 HB0.out (Nat.le_refl _) hb1)
  clear hb1
  have Z2 := Lib.hid (Bx.new w1 (.string N1) (.string d) (.string ⟨#[]⟩) 30)
  have HB2 := Lib.hid (HB1.out.alloc HB1.out.size (.cells #[.string N1, .string d, .string ⟨#[]⟩] 30))
  obtain ⟨_, k0_0, k0_1, k0_2, kf0⟩ := Z2.out
  go_wp2_with fail
  refine (num_any _ _).mono ?_
  rintro e w9 ⟨rfl, hw⟩
  subst hw
  go_wp2_with fail
  refine (FJ.out _).mono ?_
  rintro e w3 ⟨rfl, hb3⟩
  clear k0_0 k0_1 k0_2 kf0
  have X0_3 := Lib.hid (Z2.out.below hb3)
  have HB3 := Lib.hid (more4 HB2.out (Nat.le_refl _) hb3)
  clear hb3
  obtain ⟨_, k0_0, k0_1, k0_2, kf0⟩ := X0_3.out
  go_wp2_with fail
  refine (num_any _ _).mono ?_
  rintro e w9 ⟨rfl, hw⟩
  subst hw
  go_wp2_with fail
  refine (NO.out _).mono ?_
  rintro e w4 ⟨rfl, hb4⟩
  clear k0_0 k0_1 k0_2 kf0
  have X0_4 := Lib.hid (X0_3.out.below hb4)
  have HB4 := Lib.hid (more4 HB3.out (Nat.le_refl _) hb4)
  clear hb4
  obtain ⟨_, k0_0, k0_1, k0_2, kf0⟩ := X0_4.out
  go_wp2_with fail
  refine (L.out _).mono ?_
  rintro e w5 ⟨rfl, hb5⟩
  clear k0_0 k0_1 k0_2 kf0
  have X0_5 := Lib.hid (X0_4.out.below hb5)
  have HB5 := Lib.hid (more4 HB4.out (Nat.le_refl _) hb5)
  clear hb5
  obtain ⟨_, k0_0, k0_1, k0_2, kf0⟩ := X0_5.out
  go_wp2_with fail
  go_ret
  exact ⟨rfl, HB5.out⟩
set_option maxRecDepth 100000 in
set_option maxHeartbeats 8000000 in
theorem back4_d (s d t N1 M : ByteArray) (a : Nat) (w : World) (f : decide ((3000 : Int) < (s.size : Int) + (d.size : Int)) = false) (g1 : s.size ≤ 3000) (g2 : d.size ≤ 3000) (h : 1 ≤ a) (h2 : a < s.size) (h3 : s.size < 16) (ht : s.extract 0 a ++ ⟨#[32]⟩ ++ s.extract a s.size = t)
    (L : Hid (∀ W, Calls Tryd.prog 7 #[] W fun e w' => e = .returned (.bool true) ∧ Below W.heap.size W w'))
    (T1 : Hid (∀ W, Calls Tryd.prog 14 #[.string s, .string d] W fun e w' => e = .returned (.tuple #[.agg #[.string N1, .string d, .string ⟨#[]⟩], .int .i64 0]) ∧ Below W.heap.size W w'))
    (FJ : Hid (∀ W, Calls Tryd.prog 15 #[.agg #[.string N1, .string d, .string ⟨#[]⟩], .string d] W fun e w' => e = .returned (.tuple #[.string M, .int .i64 0]) ∧ Below W.heap.size W w'))
    (NO : Hid (∀ W, Calls Tryd.prog 11 #[.string s] W fun e w' => e = .returned (.string M) ∧ Below W.heap.size W w'))
    (CK : Hid (∀ W, Calls Tryd.prog 9 #[.string t] W fun e w' => e = .returned (.int .i64 40) ∧ Below W.heap.size W w')) :
    Calls Tryd.prog 4 #[.string s, .string d, .int .i64 (a : Int)] w fun e w' => e = .returned (.bool true) ∧ Below w.heap.size w w' := by
  have HB0 : Hid (Below w.heap.size w w) := Below.refl _ _
  have f1 : decide ((a : Int) < 1) = false := by simp; omega
  have f2 : decide ((s.size : Int) ≤ (a : Int)) = false := by simp; omega
  have f3 : decide ((16 : Int) ≤ (s.size : Int)) = false := by simp; omega
  have e1 : ((a : Int)).toNat = a := by omega
  have c1 : (0 : Int) ≤ (a : Int) := by omega
  have c2 : (a : Int) ≤ (s.size : Int) := by omega
  have HT := Lib.hid ht
  have z1 : (s.extract 0 a).size = a := by rw [ByteArray.size_extract]; omega
  have z2 : (s.extract a s.size).size = s.size - a := by rw [ByteArray.size_extract]; omega
  have z3 : (s.extract 0 a ++ ⟨#[32]⟩).size = a + 1 := by rw [ByteArray.size_append, z1]; rfl
  clear ht h h3
  have hMM : (M.toList == M.toList) = true := by simp
  have hdd : (d.toList == d.toList) = true := by simp
  go_enter Tryd.func4, Tryd.ntmps4
  go_wp2_with fail
  refine (T1.out _).mono ?_
  rintro e w1 ⟨rfl, hb1⟩
  have HB1 := Lib.hid (more4 HB0.out (Nat.le_refl _) hb1)
  clear hb1
  have Z2 := Lib.hid (Bx.new w1 (.string N1) (.string d) (.string ⟨#[]⟩) 30)
  have HB2 := Lib.hid (HB1.out.alloc HB1.out.size (.cells #[.string N1, .string d, .string ⟨#[]⟩] 30))
  obtain ⟨_, k0_0, k0_1, k0_2, kf0⟩ := Z2.out
  go_wp2_with fail
  refine (num_any _ _).mono ?_
  rintro e w9 ⟨rfl, hw⟩
  subst hw
  go_wp2_with fail
  refine (FJ.out _).mono ?_
  rintro e w3 ⟨rfl, hb3⟩
  clear k0_0 k0_1 k0_2 kf0
  have X0_3 := Lib.hid (Z2.out.below hb3)
  have HB3 := Lib.hid (more4 HB2.out (Nat.le_refl _) hb3)
  clear hb3
  obtain ⟨_, k0_0, k0_1, k0_2, kf0⟩ := X0_3.out
  go_wp2_with fail
  refine (num_any _ _).mono ?_
  rintro e w9 ⟨rfl, hw⟩
  subst hw
  go_wp2_with fail
  refine (NO.out _).mono ?_
  rintro e w4 ⟨rfl, hb4⟩
  clear k0_0 k0_1 k0_2 kf0
  have X0_4 := Lib.hid (X0_3.out.below hb4)
  have HB4 := Lib.hid (more4 HB3.out (Nat.le_refl _) hb4)
  clear hb4
  obtain ⟨_, k0_0, k0_1, k0_2, kf0⟩ := X0_4.out
  go_wp2_with fail
  go_quiet (fail)
  go_wp2_with fail
  rw [HT.out]
  refine (CK.out _).mono ?_
  rintro e w5 ⟨rfl, hb5⟩
  clear k0_0 k0_1 k0_2 kf0
  have hc5 := more4 (bel_drew w4 _) (Nat.le_refl _) hb5
  have X0_5 := Lib.hid (X0_4.out.below hc5)
  have HB5 := Lib.hid (more4 HB4.out (Nat.le_refl _) hc5)
  clear hb5 hc5
  obtain ⟨_, k0_0, k0_1, k0_2, kf0⟩ := X0_5.out
  go_wp2_with fail
  refine (num_any _ _).mono ?_
  rintro e w9 ⟨rfl, hw⟩
  subst hw
  go_wp2_with fail
  refine (L.out _).mono ?_
  rintro e w6 ⟨rfl, hb6⟩
  clear k0_0 k0_1 k0_2 kf0
  have X0_6 := Lib.hid (X0_5.out.below hb6)
  have HB6 := Lib.hid (more4 HB5.out (Nat.le_refl _) hb6)
  clear hb6
  obtain ⟨_, k0_0, k0_1, k0_2, kf0⟩ := X0_6.out
  go_wp2_with fail
  go_ret
  exact ⟨rfl, HB6.out⟩
set_option maxRecDepth 100000 in
set_option maxHeartbeats 8000000 in
theorem back4_e (s d t N1 M : ByteArray) (a : Nat) (w : World) (f : decide ((3000 : Int) < (s.size : Int) + (d.size : Int)) = false) (g1 : s.size ≤ 3000) (g2 : d.size ≤ 3000) (h : 1 ≤ a) (h2 : a < s.size) (h3 : s.size < 16) (ht : s.extract 0 a ++ ⟨#[32]⟩ ++ s.extract a s.size = t)
    (L : Hid (∀ W, Calls Tryd.prog 7 #[] W fun e w' => e = .returned (.bool true) ∧ Below W.heap.size W w'))
    (T1 : Hid (∀ W, Calls Tryd.prog 14 #[.string s, .string d] W fun e w' => e = .returned (.tuple #[.agg #[.string N1, .string d, .string ⟨#[]⟩], .int .i64 0]) ∧ Below W.heap.size W w'))
    (FJ : Hid (∀ W, Calls Tryd.prog 15 #[.agg #[.string N1, .string d, .string ⟨#[]⟩], .string d] W fun e w' => e = .returned (.tuple #[.string M, .int .i64 0]) ∧ Below W.heap.size W w'))
    (NO : Hid (∀ W, Calls Tryd.prog 11 #[.string s] W fun e w' => e = .returned (.string M) ∧ Below W.heap.size W w'))
    (CK : Hid (∀ W, Calls Tryd.prog 9 #[.string t] W fun e w' => e = .returned (.int .i64 0) ∧ Below W.heap.size W w'))
    (T2 : Hid (∀ W, Calls Tryd.prog 14 #[.string t, .string d] W fun e w' => e = .returned (.tuple #[.agg #[.string N1, .string d, .string ⟨#[]⟩], .int .i64 0]) ∧ Below W.heap.size W w'))
    (SA : Hid (∀ W, Calls Tryd.prog 13 #[.string s, .string t] W fun e w' => e = .returned (.bool true) ∧ Below W.heap.size W w')) :
    Calls Tryd.prog 4 #[.string s, .string d, .int .i64 (a : Int)] w fun e w' => e = .returned (.bool true) ∧ Below w.heap.size w w' := by
  have HB0 : Hid (Below w.heap.size w w) := Below.refl _ _
  have f1 : decide ((a : Int) < 1) = false := by simp; omega
  have f2 : decide ((s.size : Int) ≤ (a : Int)) = false := by simp; omega
  have f3 : decide ((16 : Int) ≤ (s.size : Int)) = false := by simp; omega
  have e1 : ((a : Int)).toNat = a := by omega
  have c1 : (0 : Int) ≤ (a : Int) := by omega
  have c2 : (a : Int) ≤ (s.size : Int) := by omega
  have HT := Lib.hid ht
  have z1 : (s.extract 0 a).size = a := by rw [ByteArray.size_extract]; omega
  have z2 : (s.extract a s.size).size = s.size - a := by rw [ByteArray.size_extract]; omega
  have z3 : (s.extract 0 a ++ ⟨#[32]⟩).size = a + 1 := by rw [ByteArray.size_append, z1]; rfl
  clear ht h h3
  have hMM : (M.toList == M.toList) = true := by simp
  have hdd : (d.toList == d.toList) = true := by simp
  go_enter Tryd.func4, Tryd.ntmps4
  go_wp2_with fail
  refine (T1.out _).mono ?_
  rintro e w1 ⟨rfl, hb1⟩
  have HB1 := Lib.hid (more4 HB0.out (Nat.le_refl _) hb1)
  clear hb1
  have Z2 := Lib.hid (Bx.new w1 (.string N1) (.string d) (.string ⟨#[]⟩) 30)
  have HB2 := Lib.hid (HB1.out.alloc HB1.out.size (.cells #[.string N1, .string d, .string ⟨#[]⟩] 30))
  obtain ⟨_, k0_0, k0_1, k0_2, kf0⟩ := Z2.out
  go_wp2_with fail
  refine (num_any _ _).mono ?_
  rintro e w9 ⟨rfl, hw⟩
  subst hw
  go_wp2_with fail
  refine (FJ.out _).mono ?_
  rintro e w3 ⟨rfl, hb3⟩
  clear k0_0 k0_1 k0_2 kf0
  have X0_3 := Lib.hid (Z2.out.below hb3)
  have HB3 := Lib.hid (more4 HB2.out (Nat.le_refl _) hb3)
  clear hb3
  obtain ⟨_, k0_0, k0_1, k0_2, kf0⟩ := X0_3.out
  go_wp2_with fail
  refine (num_any _ _).mono ?_
  rintro e w9 ⟨rfl, hw⟩
  subst hw
  go_wp2_with fail
  refine (NO.out _).mono ?_
  rintro e w4 ⟨rfl, hb4⟩
  clear k0_0 k0_1 k0_2 kf0
  have X0_4 := Lib.hid (X0_3.out.below hb4)
  have HB4 := Lib.hid (more4 HB3.out (Nat.le_refl _) hb4)
  clear hb4
  obtain ⟨_, k0_0, k0_1, k0_2, kf0⟩ := X0_4.out
  go_wp2_with fail
  go_quiet (fail)
  go_wp2_with fail
  rw [HT.out]
  refine (CK.out _).mono ?_
  rintro e w5 ⟨rfl, hb5⟩
  clear k0_0 k0_1 k0_2 kf0
  have hc5 := more4 (bel_drew w4 _) (Nat.le_refl _) hb5
  have X0_5 := Lib.hid (X0_4.out.below hc5)
  have HB5 := Lib.hid (more4 HB4.out (Nat.le_refl _) hc5)
  clear hb5 hc5
  obtain ⟨_, k0_0, k0_1, k0_2, kf0⟩ := X0_5.out
  go_wp2_with fail
  refine (num_any _ _).mono ?_
  rintro e w9 ⟨rfl, hw⟩
  subst hw
  go_wp2_with fail
  refine (T2.out _).mono ?_
  rintro e w6 ⟨rfl, hb6⟩
  clear k0_0 k0_1 k0_2 kf0
  have X0_6 := Lib.hid (X0_5.out.below hb6)
  have HB6 := Lib.hid (more4 HB5.out (Nat.le_refl _) hb6)
  clear hb6
  have Y0_7 := Lib.hid (X0_6.out.alloc (.cells #[.string N1, .string d, .string ⟨#[]⟩] 30))
  have Z7 := Lib.hid (Bx.new w6 (.string N1) (.string d) (.string ⟨#[]⟩) 30)
  have HB7 := Lib.hid (HB6.out.alloc HB6.out.size (.cells #[.string N1, .string d, .string ⟨#[]⟩] 30))
  obtain ⟨_, k0_0, k0_1, k0_2, kf0⟩ := Y0_7.out
  obtain ⟨_, k1_0, k1_1, k1_2, kf1⟩ := Z7.out
  go_wp2_with fail
  refine (num_any _ _).mono ?_
  rintro e w9 ⟨rfl, hw⟩
  subst hw
  go_wp2_with fail
  refine (SA.out _).mono ?_
  rintro e w8 ⟨rfl, hb8⟩
  clear k0_0 k0_1 k0_2 kf0 k1_0 k1_1 k1_2 kf1
  have X0_8 := Lib.hid (Y0_7.out.below hb8)
  have X1_8 := Lib.hid (Z7.out.below hb8)
  have HB8 := Lib.hid (more4 HB7.out (Nat.le_refl _) hb8)
  clear hb8
  obtain ⟨_, k0_0, k0_1, k0_2, kf0⟩ := X0_8.out
  obtain ⟨_, k1_0, k1_1, k1_2, kf1⟩ := X1_8.out
  go_wp2_with fail
  refine (L.out _).mono ?_
  rintro e w9 ⟨rfl, hb9⟩
  clear k0_0 k0_1 k0_2 kf0 k1_0 k1_1 k1_2 kf1
  have X0_9 := Lib.hid (X0_8.out.below hb9)
  have X1_9 := Lib.hid (X1_8.out.below hb9)
  have HB9 := Lib.hid (more4 HB8.out (Nat.le_refl _) hb9)
  clear hb9
  obtain ⟨_, k0_0, k0_1, k0_2, kf0⟩ := X0_9.out
  obtain ⟨_, k1_0, k1_1, k1_2, kf1⟩ := X1_9.out
  go_wp2_with fail
  go_ret
  exact ⟨rfl, HB9.out⟩
set_option maxHeartbeats 1000000 in
theorem hback_walk (s d : ByteArray) (a : Int) (w : World) (ws : s.size ≤ 140737488351232) (wd : d.size ≤ 140737488351232) (_wa : (Lit.int .i64 a).wf = true) :
    Calls Tryd.prog 4 #[.string s, .string d, .int .i64 a] w fun e w' => e = .returned (.bool true) ∧ Below w.heap.size w w' := by
  have L := Lib.hid (fun W => hlive_any W)
  by_cases hbig : 3000 < s.size + d.size
  · have HB0 : Hid (Below w.heap.size w w) := Below.refl _ _
    have f : decide ((3000 : Int) < (s.size : Int) + (d.size : Int)) = true := by simp; omega
    clear hbig
    go_enter Tryd.func4, Tryd.ntmps4
    go_wp2_with fail
    refine (L.out _).mono ?_
    rintro e w1 ⟨rfl, hb1⟩
    have HB1 := Lib.hid (more4 HB0.out (Nat.le_refl _) hb1)
    clear hb1
    go_wp2_with fail
    go_ret
    exact ⟨rfl, HB1.out⟩
  have f : decide ((3000 : Int) < (s.size : Int) + (d.size : Int)) = false := by simp; omega
  cases h1 : toj s.data.toList d.data.toList with
  | none => exact back4_no s d a w f (by omega) (by omega) L (Lib.hid (fun W => toJid_noB s d W (by omega) (by omega) h1))
  | some j =>
    have T1 := Lib.hid (fun W => toJid_yesB s d W (by omega) (by omega) h1)
    have NO := Lib.hid (fun W => hnorm_any s W (by omega))
    have hE : (mk (Esc.E (nl s.data.toList))).size ≤ 1048576 := by rw [mk_size]; have := E_small (s := s.data.toList); rw [← Lib.size_eq] at this; omega
    have FJ : Hid (∀ W, Calls Tryd.prog 15 #[.agg #[.string (mk (Esc.E (nl s.data.toList))), .string d, .string ⟨#[]⟩], .string d] W fun e w' => e = .returned (.tuple #[.string (mk (nl s.data.toList)), .int .i64 0]) ∧ Below W.heap.size W w') := fun W => by
      have c := fromJid_any (mk (Esc.E (nl s.data.toList))) d ⟨#[]⟩ d W hE
      have e := frj_back h1
      obtain ⟨_, _, rfl⟩ := toj_some h1
      rw [show jd (mk (Esc.E (nl s.data.toList))) d ⟨#[]⟩ = ⟨Esc.E (nl s.data.toList), d.data.toList, []⟩ by unfold jd; rw [mk_list], e] at c
      exact c
    by_cases h : a < 1
    · exact back4_a s d _ _ a w f (by omega) (by omega) h L T1 FJ NO
    by_cases h2 : (s.size : Int) ≤ a
    · exact back4_b s d _ _ a w f (by omega) (by omega) h h2 L T1 FJ NO
    by_cases h3 : 16 ≤ s.size
    · exact back4_c s d _ _ a w f (by omega) (by omega) h h2 h3 L T1 FJ NO
    obtain ⟨n, rfl⟩ : ∃ n : Nat, a = n := ⟨a.toNat, by omega⟩
    obtain ⟨t, ht⟩ : ∃ t, s.extract 0 n ++ ⟨#[32]⟩ ++ s.extract n s.size = t := ⟨_, rfl⟩
    have hts : t.size ≤ 3000 := by rw [← ht, ByteArray.size_append, ByteArray.size_append, ByteArray.size_extract, ByteArray.size_extract, show (⟨#[32]⟩ : ByteArray).size = 1 from rfl]; omega
    have hnl : nl t.data.toList = nl s.data.toList := by
      rw [← ht, By.append_list, By.append_list, By.extract_drop, By.extract_cut, List.drop_zero]
      exact nl_more s.data.toList n
    have CK := Lib.hid (fun W => hcheck_any t W (by omega))
    cases hn : nm t.data.toList with
    | false =>
      rw [hn] at CK
      exact back4_d s d t _ _ n w f (by omega) (by omega) (by omega) (by omega) (by omega) ht L T1 FJ NO CK
    | true =>
      rw [hn] at CK
      have T2 := Lib.hid (fun W => toJid_yesB t d W (by omega) (by omega) (toj_same h1 hn hnl))
      have SA := Lib.hid (fun W => same_any s t W (by omega) (by omega))
      rw [hnl] at T2
      rw [decide_eq_true hnl.symm] at SA
      exact back4_e s d t _ _ n w f (by omega) (by omega) (by omega) (by omega) (by omega) ht L T1 FJ NO CK T2 SA
end Go.Proofs.YthhmdkdpfeofjaaDoor
