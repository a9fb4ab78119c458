/- The walk of the law HandleJids: every name's address; every address's name. Condition: a string takes at most what a machine can hold. -/
import Derived.Test.YthhmdkdpfeofjaaGreatDoorHlv
import Derived.Test.YthhmdkdpfeofjaaGreatDoorHrj
import Derived.Test.YthhmdkdpfeofjaaGreatDoorJq
namespace Go.Proofs.YthhmdkdpfeofjaaGreatDoor
open Go.RowKit Go.Lib Go.Shelf Sg Jd Hd

set_option maxRecDepth 100000 in
set_option maxHeartbeats 8000000 in
theorem jids_nn (s d a b c : ByteArray) (w : World) (f : decide ((3000 : Int) < (s.size : Int) + (d.size : Int) + (a.size : Int) + (b.size : Int) + (c.size : Int)) = false) (g1 : s.size ≤ 3000) (g2 : d.size ≤ 3000) (g3 : a.size ≤ 3000) (g4 : b.size ≤ 3000) (g5 : c.size ≤ 3000)
    (L : Hid (∀ W, Calls Tryz.prog 4 #[] W fun e w' => e = .returned (.bool true) ∧ Below W.heap.size W w'))
    (TJ : Hid (∀ W, Calls Tryz.prog 5 #[.string s, .string d] W fun e w' => e = .returned (.tuple #[.agg #[.string ⟨#[]⟩, .string ⟨#[]⟩, .string ⟨#[]⟩], .int .i64 40]) ∧ Below W.heap.size W w'))
    (RT : Hid (∀ W, Calls Tryz.prog 6 #[.string s, .string d] W fun e w' => e = .returned (.tuple #[.agg #[.string ⟨#[]⟩, .string ⟨#[]⟩, .string ⟨#[]⟩], .int .i64 40]) ∧ Below W.heap.size W w'))
    (FJ : Hid (∀ W, Calls Tryz.prog 7 #[.agg #[.string a, .string b, .string c], .string d] W fun e w' => e = .returned (.tuple #[.string ⟨#[]⟩, .int .i64 40]) ∧ Below W.heap.size W w'))
    (RF : Hid (∀ W, Calls Tryz.prog 8 #[.agg #[.string a, .string b, .string c], .string d] W fun e w' => e = .returned (.tuple #[.string ⟨#[]⟩, .int .i64 40]) ∧ Below W.heap.size W w')) :
    Calls Tryz.prog 3 #[.string s, .string d, .agg #[.string a, .string b, .string c]] w fun e w' => e = .returned (.bool true) ∧ Below w.heap.size w w' := by
  have X0 : Hid (Bx w.heap.size (.string a) (.string b) (.string c) (w.alloc (.cells #[.string a, .string b, .string c] 23))) := Bx.new w _ _ _ _
  have HB0 : Hid (Below w.heap.size w (w.alloc (.cells #[.string a, .string b, .string c] 23))) := (Below.refl _ _).alloc (Nat.le_refl _) _
  go_enter Tryz.func3, Tryz.ntmps3
  obtain ⟨_, k0_0, k0_1, k0_2, kf0⟩ := X0.out
  go_wp2_with fail
  refine (TJ.out _).mono ?_
  rintro e w1 ⟨rfl, hb1⟩
  clear k0_0 k0_1 k0_2 kf0
  have X0_1 := Lib.hid (X0.out.below hb1)
  have HB1 := Lib.hid (more4 HB0.out (Nat.le_refl _) hb1)
  clear hb1
  have Y0_2 := Lib.hid (X0_1.out.alloc (.cells #[.string ⟨#[]⟩, .string ⟨#[]⟩, .string ⟨#[]⟩] 23))
  have Z2 := Lib.hid (Bx.new w1 (.string ⟨#[]⟩) (.string ⟨#[]⟩) (.string ⟨#[]⟩) 23)
  have HB2 := Lib.hid (HB1.out.alloc HB1.out.size (.cells #[.string ⟨#[]⟩, .string ⟨#[]⟩, .string ⟨#[]⟩] 23))
  obtain ⟨_, k0_0, k0_1, k0_2, kf0⟩ := Y0_2.out
  obtain ⟨_, k1_0, k1_1, k1_2, kf1⟩ := Z2.out
  go_wp2_with fail
  refine (RT.out _).mono ?_
  rintro e w3 ⟨rfl, hb3⟩
  clear k0_0 k0_1 k0_2 kf0 k1_0 k1_1 k1_2 kf1
  have X0_3 := Lib.hid (Y0_2.out.below hb3)
  have X1_3 := Lib.hid (Z2.out.below hb3)
  have HB3 := Lib.hid (more4 HB2.out (Nat.le_refl _) hb3)
  clear hb3
  have Y0_4 := Lib.hid (X0_3.out.alloc (.cells #[.string ⟨#[]⟩, .string ⟨#[]⟩, .string ⟨#[]⟩] 23))
  have Y1_4 := Lib.hid (X1_3.out.alloc (.cells #[.string ⟨#[]⟩, .string ⟨#[]⟩, .string ⟨#[]⟩] 23))
  have Z4 := Lib.hid (Bx.new w3 (.string ⟨#[]⟩) (.string ⟨#[]⟩) (.string ⟨#[]⟩) 23)
  have HB4 := Lib.hid (HB3.out.alloc HB3.out.size (.cells #[.string ⟨#[]⟩, .string ⟨#[]⟩, .string ⟨#[]⟩] 23))
  obtain ⟨_, k0_0, k0_1, k0_2, kf0⟩ := Y0_4.out
  obtain ⟨_, k1_0, k1_1, k1_2, kf1⟩ := Y1_4.out
  obtain ⟨_, k2_0, k2_1, k2_2, kf2⟩ := Z4.out
  go_wp2_with fail
  refine (FJ.out _).mono ?_
  rintro e w5 ⟨rfl, hb5⟩
  clear k0_0 k0_1 k0_2 kf0 k1_0 k1_1 k1_2 kf1 k2_0 k2_1 k2_2 kf2
  have X0_5 := Lib.hid (Y0_4.out.below hb5)
  have X1_5 := Lib.hid (Y1_4.out.below hb5)
  have X2_5 := Lib.hid (Z4.out.below hb5)
  have HB5 := Lib.hid (more4 HB4.out (Nat.le_refl _) hb5)
  clear hb5
  obtain ⟨_, k0_0, k0_1, k0_2, kf0⟩ := X0_5.out
  obtain ⟨_, k1_0, k1_1, k1_2, kf1⟩ := X1_5.out
  obtain ⟨_, k2_0, k2_1, k2_2, kf2⟩ := X2_5.out
  go_wp2_with fail
  refine (RF.out _).mono ?_
  rintro e w6 ⟨rfl, hb6⟩
  clear k0_0 k0_1 k0_2 kf0 k1_0 k1_1 k1_2 kf1 k2_0 k2_1 k2_2 kf2
  have X0_6 := Lib.hid (X0_5.out.below hb6)
  have X1_6 := Lib.hid (X1_5.out.below hb6)
  have X2_6 := Lib.hid (X2_5.out.below hb6)
  have HB6 := Lib.hid (more4 HB5.out (Nat.le_refl _) hb6)
  clear hb6
  obtain ⟨_, k0_0, k0_1, k0_2, kf0⟩ := X0_6.out
  obtain ⟨_, k1_0, k1_1, k1_2, kf1⟩ := X1_6.out
  obtain ⟨_, k2_0, k2_1, k2_2, kf2⟩ := X2_6.out
  go_wp2_with fail
  refine (num_any _ _).mono ?_
  rintro e w9 ⟨rfl, hw⟩
  subst hw
  go_wp2_with fail
  refine (num_any _ _).mono ?_
  rintro e w9 ⟨rfl, hw⟩
  subst hw
  go_wp2_with fail
  refine (L.out _).mono ?_
  rintro e w7 ⟨rfl, hb7⟩
  clear k0_0 k0_1 k0_2 kf0 k1_0 k1_1 k1_2 kf1 k2_0 k2_1 k2_2 kf2
  have X0_7 := Lib.hid (X0_6.out.below hb7)
  have X1_7 := Lib.hid (X1_6.out.below hb7)
  have X2_7 := Lib.hid (X2_6.out.below hb7)
  have HB7 := Lib.hid (more4 HB6.out (Nat.le_refl _) hb7)
  clear hb7
  obtain ⟨_, k0_0, k0_1, k0_2, kf0⟩ := X0_7.out
  obtain ⟨_, k1_0, k1_1, k1_2, kf1⟩ := X1_7.out
  obtain ⟨_, k2_0, k2_1, k2_2, kf2⟩ := X2_7.out
  go_wp2_with fail
  go_ret
  exact ⟨rfl, HB7.out⟩
set_option maxRecDepth 100000 in
set_option maxHeartbeats 8000000 in
theorem jids_ny (s d a b c x : ByteArray) (w : World) (f : decide ((3000 : Int) < (s.size : Int) + (d.size : Int) + (a.size : Int) + (b.size : Int) + (c.size : Int)) = false) (g1 : s.size ≤ 3000) (g2 : d.size ≤ 3000) (g3 : a.size ≤ 3000) (g4 : b.size ≤ 3000) (g5 : c.size ≤ 3000)
    (L : Hid (∀ W, Calls Tryz.prog 4 #[] W fun e w' => e = .returned (.bool true) ∧ Below W.heap.size W w'))
    (TJ : Hid (∀ W, Calls Tryz.prog 5 #[.string s, .string d] W fun e w' => e = .returned (.tuple #[.agg #[.string ⟨#[]⟩, .string ⟨#[]⟩, .string ⟨#[]⟩], .int .i64 40]) ∧ Below W.heap.size W w'))
    (RT : Hid (∀ W, Calls Tryz.prog 6 #[.string s, .string d] W fun e w' => e = .returned (.tuple #[.agg #[.string ⟨#[]⟩, .string ⟨#[]⟩, .string ⟨#[]⟩], .int .i64 40]) ∧ Below W.heap.size W w'))
    (FJ : Hid (∀ W, Calls Tryz.prog 7 #[.agg #[.string a, .string b, .string c], .string d] W fun e w' => e = .returned (.tuple #[.string x, .int .i64 0]) ∧ Below W.heap.size W w'))
    (RF : Hid (∀ W, Calls Tryz.prog 8 #[.agg #[.string a, .string b, .string c], .string d] W fun e w' => e = .returned (.tuple #[.string x, .int .i64 0]) ∧ Below W.heap.size W w')) :
    Calls Tryz.prog 3 #[.string s, .string d, .agg #[.string a, .string b, .string c]] w fun e w' => e = .returned (.bool true) ∧ Below w.heap.size w w' := by
  have X0 : Hid (Bx w.heap.size (.string a) (.string b) (.string c) (w.alloc (.cells #[.string a, .string b, .string c] 23))) := Bx.new w _ _ _ _
  have HB0 : Hid (Below w.heap.size w (w.alloc (.cells #[.string a, .string b, .string c] 23))) := (Below.refl _ _).alloc (Nat.le_refl _) _
  have hxx : (x.toList == x.toList) = true := by simp
  go_enter Tryz.func3, Tryz.ntmps3
  obtain ⟨_, k0_0, k0_1, k0_2, kf0⟩ := X0.out
  go_wp2_with fail
  refine (TJ.out _).mono ?_
  rintro e w1 ⟨rfl, hb1⟩
  clear k0_0 k0_1 k0_2 kf0
  have X0_1 := Lib.hid (X0.out.below hb1)
  have HB1 := Lib.hid (more4 HB0.out (Nat.le_refl _) hb1)
  clear hb1
  have Y0_2 := Lib.hid (X0_1.out.alloc (.cells #[.string ⟨#[]⟩, .string ⟨#[]⟩, .string ⟨#[]⟩] 23))
  have Z2 := Lib.hid (Bx.new w1 (.string ⟨#[]⟩) (.string ⟨#[]⟩) (.string ⟨#[]⟩) 23)
  have HB2 := Lib.hid (HB1.out.alloc HB1.out.size (.cells #[.string ⟨#[]⟩, .string ⟨#[]⟩, .string ⟨#[]⟩] 23))
  obtain ⟨_, k0_0, k0_1, k0_2, kf0⟩ := Y0_2.out
  obtain ⟨_, k1_0, k1_1, k1_2, kf1⟩ := Z2.out
  go_wp2_with fail
  refine (RT.out _).mono ?_
  rintro e w3 ⟨rfl, hb3⟩
  clear k0_0 k0_1 k0_2 kf0 k1_0 k1_1 k1_2 kf1
  have X0_3 := Lib.hid (Y0_2.out.below hb3)
  have X1_3 := Lib.hid (Z2.out.below hb3)
  have HB3 := Lib.hid (more4 HB2.out (Nat.le_refl _) hb3)
  clear hb3
  have Y0_4 := Lib.hid (X0_3.out.alloc (.cells #[.string ⟨#[]⟩, .string ⟨#[]⟩, .string ⟨#[]⟩] 23))
  have Y1_4 := Lib.hid (X1_3.out.alloc (.cells #[.string ⟨#[]⟩, .string ⟨#[]⟩, .string ⟨#[]⟩] 23))
  have Z4 := Lib.hid (Bx.new w3 (.string ⟨#[]⟩) (.string ⟨#[]⟩) (.string ⟨#[]⟩) 23)
  have HB4 := Lib.hid (HB3.out.alloc HB3.out.size (.cells #[.string ⟨#[]⟩, .string ⟨#[]⟩, .string ⟨#[]⟩] 23))
  obtain ⟨_, k0_0, k0_1, k0_2, kf0⟩ := Y0_4.out
  obtain ⟨_, k1_0, k1_1, k1_2, kf1⟩ := Y1_4.out
  obtain ⟨_, k2_0, k2_1, k2_2, kf2⟩ := Z4.out
  go_wp2_with fail
  refine (FJ.out _).mono ?_
  rintro e w5 ⟨rfl, hb5⟩
  clear k0_0 k0_1 k0_2 kf0 k1_0 k1_1 k1_2 kf1 k2_0 k2_1 k2_2 kf2
  have X0_5 := Lib.hid (Y0_4.out.below hb5)
  have X1_5 := Lib.hid (Y1_4.out.below hb5)
  have X2_5 := Lib.hid (Z4.out.below hb5)
  have HB5 := Lib.hid (more4 HB4.out (Nat.le_refl _) hb5)
  clear hb5
  obtain ⟨_, k0_0, k0_1, k0_2, kf0⟩ := X0_5.out
  obtain ⟨_, k1_0, k1_1, k1_2, kf1⟩ := X1_5.out
  obtain ⟨_, k2_0, k2_1, k2_2, kf2⟩ := X2_5.out
  go_wp2_with fail
  refine (RF.out _).mono ?_
  rintro e w6 ⟨rfl, hb6⟩
  clear k0_0 k0_1 k0_2 kf0 k1_0 k1_1 k1_2 kf1 k2_0 k2_1 k2_2 kf2
  have X0_6 := Lib.hid (X0_5.out.below hb6)
  have X1_6 := Lib.hid (X1_5.out.below hb6)
  have X2_6 := Lib.hid (X2_5.out.below hb6)
  have HB6 := Lib.hid (more4 HB5.out (Nat.le_refl _) hb6)
  clear hb6
  obtain ⟨_, k0_0, k0_1, k0_2, kf0⟩ := X0_6.out
  obtain ⟨_, k1_0, k1_1, k1_2, kf1⟩ := X1_6.out
  obtain ⟨_, k2_0, k2_1, k2_2, kf2⟩ := X2_6.out
  go_wp2_with fail
  refine (num_any _ _).mono ?_
  rintro e w9 ⟨rfl, hw⟩
  subst hw
  go_wp2_with fail
  refine (num_any _ _).mono ?_
  rintro e w9 ⟨rfl, hw⟩
  subst hw
  go_wp2_with fail
  refine (L.out _).mono ?_
  rintro e w7 ⟨rfl, hb7⟩
  clear k0_0 k0_1 k0_2 kf0 k1_0 k1_1 k1_2 kf1 k2_0 k2_1 k2_2 kf2
  have X0_7 := Lib.hid (X0_6.out.below hb7)
  have X1_7 := Lib.hid (X1_6.out.below hb7)
  have X2_7 := Lib.hid (X2_6.out.below hb7)
  have HB7 := Lib.hid (more4 HB6.out (Nat.le_refl _) hb7)
  clear hb7
  obtain ⟨_, k0_0, k0_1, k0_2, kf0⟩ := X0_7.out
  obtain ⟨_, k1_0, k1_1, k1_2, kf1⟩ := X1_7.out
  obtain ⟨_, k2_0, k2_1, k2_2, kf2⟩ := X2_7.out
  go_wp2_with fail
  go_ret
  exact ⟨rfl, HB7.out⟩
set_option maxRecDepth 100000 in
set_option maxHeartbeats 8000000 in
theorem jids_yn (s d a b c N : ByteArray) (w : World) (f : decide ((3000 : Int) < (s.size : Int) + (d.size : Int) + (a.size : Int) + (b.size : Int) + (c.size : Int)) = false) (g1 : s.size ≤ 3000) (g2 : d.size ≤ 3000) (g3 : a.size ≤ 3000) (g4 : b.size ≤ 3000) (g5 : c.size ≤ 3000)
    (L : Hid (∀ W, Calls Tryz.prog 4 #[] W fun e w' => e = .returned (.bool true) ∧ Below W.heap.size W w'))
    (TJ : Hid (∀ W, Calls Tryz.prog 5 #[.string s, .string d] W fun e w' => e = .returned (.tuple #[.agg #[.string N, .string d, .string ⟨#[]⟩], .int .i64 0]) ∧ Below W.heap.size W w'))
    (RT : Hid (∀ W, Calls Tryz.prog 6 #[.string s, .string d] W fun e w' => e = .returned (.tuple #[.agg #[.string N, .string d, .string ⟨#[]⟩], .int .i64 0]) ∧ Below W.heap.size W w'))
    (FJ : Hid (∀ W, Calls Tryz.prog 7 #[.agg #[.string a, .string b, .string c], .string d] W fun e w' => e = .returned (.tuple #[.string ⟨#[]⟩, .int .i64 40]) ∧ Below W.heap.size W w'))
    (RF : Hid (∀ W, Calls Tryz.prog 8 #[.agg #[.string a, .string b, .string c], .string d] W fun e w' => e = .returned (.tuple #[.string ⟨#[]⟩, .int .i64 40]) ∧ Below W.heap.size W w')) :
    Calls Tryz.prog 3 #[.string s, .string d, .agg #[.string a, .string b, .string c]] w fun e w' => e = .returned (.bool true) ∧ Below w.heap.size w w' := by
  have X0 : Hid (Bx w.heap.size (.string a) (.string b) (.string c) (w.alloc (.cells #[.string a, .string b, .string c] 23))) := Bx.new w _ _ _ _
  have HB0 : Hid (Below w.heap.size w (w.alloc (.cells #[.string a, .string b, .string c] 23))) := (Below.refl _ _).alloc (Nat.le_refl _) _
  go_enter Tryz.func3, Tryz.ntmps3
  obtain ⟨_, k0_0, k0_1, k0_2, kf0⟩ := X0.out
  go_wp2_with fail
  refine (TJ.out _).mono ?_
  rintro e w1 ⟨rfl, hb1⟩
  clear k0_0 k0_1 k0_2 kf0
  have X0_1 := Lib.hid (X0.out.below hb1)
  have HB1 := Lib.hid (more4 HB0.out (Nat.le_refl _) hb1)
  clear hb1
  have Y0_2 := Lib.hid (X0_1.out.alloc (.cells #[.string N, .string d, .string ⟨#[]⟩] 23))
  have Z2 := Lib.hid (Bx.new w1 (.string N) (.string d) (.string ⟨#[]⟩) 23)
  have HB2 := Lib.hid (HB1.out.alloc HB1.out.size (.cells #[.string N, .string d, .string ⟨#[]⟩] 23))
  obtain ⟨_, k0_0, k0_1, k0_2, kf0⟩ := Y0_2.out
  obtain ⟨_, k1_0, k1_1, k1_2, kf1⟩ := Z2.out
  go_wp2_with fail
  refine (RT.out _).mono ?_
  rintro e w3 ⟨rfl, hb3⟩
  clear k0_0 k0_1 k0_2 kf0 k1_0 k1_1 k1_2 kf1
  have X0_3 := Lib.hid (Y0_2.out.below hb3)
  have X1_3 := Lib.hid (Z2.out.below hb3)
  have HB3 := Lib.hid (more4 HB2.out (Nat.le_refl _) hb3)
  clear hb3
  have Y0_4 := Lib.hid (X0_3.out.alloc (.cells #[.string N, .string d, .string ⟨#[]⟩] 23))
  have Y1_4 := Lib.hid (X1_3.out.alloc (.cells #[.string N, .string d, .string ⟨#[]⟩] 23))
  have Z4 := Lib.hid (Bx.new w3 (.string N) (.string d) (.string ⟨#[]⟩) 23)
  have HB4 := Lib.hid (HB3.out.alloc HB3.out.size (.cells #[.string N, .string d, .string ⟨#[]⟩] 23))
  obtain ⟨_, k0_0, k0_1, k0_2, kf0⟩ := Y0_4.out
  obtain ⟨_, k1_0, k1_1, k1_2, kf1⟩ := Y1_4.out
  obtain ⟨_, k2_0, k2_1, k2_2, kf2⟩ := Z4.out
  go_wp2_with fail
  refine (FJ.out _).mono ?_
  rintro e w5 ⟨rfl, hb5⟩
  clear k0_0 k0_1 k0_2 kf0 k1_0 k1_1 k1_2 kf1 k2_0 k2_1 k2_2 kf2
  have X0_5 := Lib.hid (Y0_4.out.below hb5)
  have X1_5 := Lib.hid (Y1_4.out.below hb5)
  have X2_5 := Lib.hid (Z4.out.below hb5)
  have HB5 := Lib.hid (more4 HB4.out (Nat.le_refl _) hb5)
  clear hb5
  obtain ⟨_, k0_0, k0_1, k0_2, kf0⟩ := X0_5.out
  obtain ⟨_, k1_0, k1_1, k1_2, kf1⟩ := X1_5.out
  obtain ⟨_, k2_0, k2_1, k2_2, kf2⟩ := X2_5.out
  go_wp2_with fail
  refine (RF.out _).mono ?_
  rintro e w6 ⟨rfl, hb6⟩
  clear k0_0 k0_1 k0_2 kf0 k1_0 k1_1 k1_2 kf1 k2_0 k2_1 k2_2 kf2
  have X0_6 := Lib.hid (X0_5.out.below hb6)
  have X1_6 := Lib.hid (X1_5.out.below hb6)
  have X2_6 := Lib.hid (X2_5.out.below hb6)
  have HB6 := Lib.hid (more4 HB5.out (Nat.le_refl _) hb6)
  clear hb6
  obtain ⟨_, k0_0, k0_1, k0_2, kf0⟩ := X0_6.out
  obtain ⟨_, k1_0, k1_1, k1_2, kf1⟩ := X1_6.out
  obtain ⟨_, k2_0, k2_1, k2_2, kf2⟩ := X2_6.out
  go_wp2_with fail
  refine (num_any _ _).mono ?_
  rintro e w9 ⟨rfl, hw⟩
  subst hw
  go_wp2_with fail
  refine (num_any _ _).mono ?_
  rintro e w9 ⟨rfl, hw⟩
  subst hw
  go_wp2_with fail
  refine (L.out _).mono ?_
  rintro e w7 ⟨rfl, hb7⟩
  clear k0_0 k0_1 k0_2 kf0 k1_0 k1_1 k1_2 kf1 k2_0 k2_1 k2_2 kf2
  have X0_7 := Lib.hid (X0_6.out.below hb7)
  have X1_7 := Lib.hid (X1_6.out.below hb7)
  have X2_7 := Lib.hid (X2_6.out.below hb7)
  have HB7 := Lib.hid (more4 HB6.out (Nat.le_refl _) hb7)
  clear hb7
  obtain ⟨_, k0_0, k0_1, k0_2, kf0⟩ := X0_7.out
  obtain ⟨_, k1_0, k1_1, k1_2, kf1⟩ := X1_7.out
  obtain ⟨_, k2_0, k2_1, k2_2, kf2⟩ := X2_7.out
  go_wp2_with fail
  go_ret
  exact ⟨rfl, HB7.out⟩
set_option maxRecDepth 100000 in
set_option maxHeartbeats 8000000 in
theorem jids_yy (s d a b c N x : ByteArray) (w : World) (f : decide ((3000 : Int) < (s.size : Int) + (d.size : Int) + (a.size : Int) + (b.size : Int) + (c.size : Int)) = false) (g1 : s.size ≤ 3000) (g2 : d.size ≤ 3000) (g3 : a.size ≤ 3000) (g4 : b.size ≤ 3000) (g5 : c.size ≤ 3000)
    (L : Hid (∀ W, Calls Tryz.prog 4 #[] W fun e w' => e = .returned (.bool true) ∧ Below W.heap.size W w'))
    (TJ : Hid (∀ W, Calls Tryz.prog 5 #[.string s, .string d] W fun e w' => e = .returned (.tuple #[.agg #[.string N, .string d, .string ⟨#[]⟩], .int .i64 0]) ∧ Below W.heap.size W w'))
    (RT : Hid (∀ W, Calls Tryz.prog 6 #[.string s, .string d] W fun e w' => e = .returned (.tuple #[.agg #[.string N, .string d, .string ⟨#[]⟩], .int .i64 0]) ∧ Below W.heap.size W w'))
    (FJ : Hid (∀ W, Calls Tryz.prog 7 #[.agg #[.string a, .string b, .string c], .string d] W fun e w' => e = .returned (.tuple #[.string x, .int .i64 0]) ∧ Below W.heap.size W w'))
    (RF : Hid (∀ W, Calls Tryz.prog 8 #[.agg #[.string a, .string b, .string c], .string d] W fun e w' => e = .returned (.tuple #[.string x, .int .i64 0]) ∧ Below W.heap.size W w')) :
    Calls Tryz.prog 3 #[.string s, .string d, .agg #[.string a, .string b, .string c]] w fun e w' => e = .returned (.bool true) ∧ Below w.heap.size w w' := by
  have X0 : Hid (Bx w.heap.size (.string a) (.string b) (.string c) (w.alloc (.cells #[.string a, .string b, .string c] 23))) := Bx.new w _ _ _ _
  have HB0 : Hid (Below w.heap.size w (w.alloc (.cells #[.string a, .string b, .string c] 23))) := (Below.refl _ _).alloc (Nat.le_refl _) _
  have hxx : (x.toList == x.toList) = true := by simp
  go_enter Tryz.func3, Tryz.ntmps3
  obtain ⟨_, k0_0, k0_1, k0_2, kf0⟩ := X0.out
  go_wp2_with fail
  refine (TJ.out _).mono ?_
  rintro e w1 ⟨rfl, hb1⟩
  clear k0_0 k0_1 k0_2 kf0
  have X0_1 := Lib.hid (X0.out.below hb1)
  have HB1 := Lib.hid (more4 HB0.out (Nat.le_refl _) hb1)
  clear hb1
  have Y0_2 := Lib.hid (X0_1.out.alloc (.cells #[.string N, .string d, .string ⟨#[]⟩] 23))
  have Z2 := Lib.hid (Bx.new w1 (.string N) (.string d) (.string ⟨#[]⟩) 23)
  have HB2 := Lib.hid (HB1.out.alloc HB1.out.size (.cells #[.string N, .string d, .string ⟨#[]⟩] 23))
  obtain ⟨_, k0_0, k0_1, k0_2, kf0⟩ := Y0_2.out
  obtain ⟨_, k1_0, k1_1, k1_2, kf1⟩ := Z2.out
  go_wp2_with fail
  refine (RT.out _).mono ?_
  rintro e w3 ⟨rfl, hb3⟩
  clear k0_0 k0_1 k0_2 kf0 k1_0 k1_1 k1_2 kf1
  have X0_3 := Lib.hid (Y0_2.out.below hb3)
  have X1_3 := Lib.hid (Z2.out.below hb3)
  have HB3 := Lib.hid (more4 HB2.out (Nat.le_refl _) hb3)
  clear hb3
  have Y0_4 := Lib.hid (X0_3.out.alloc (.cells #[.string N, .string d, .string ⟨#[]⟩] 23))
  have Y1_4 := Lib.hid (X1_3.out.alloc (.cells #[.string N, .string d, .string ⟨#[]⟩] 23))
  have Z4 := Lib.hid (Bx.new w3 (.string N) (.string d) (.string ⟨#[]⟩) 23)
  have HB4 := Lib.hid (HB3.out.alloc HB3.out.size (.cells #[.string N, .string d, .string ⟨#[]⟩] 23))
  obtain ⟨_, k0_0, k0_1, k0_2, kf0⟩ := Y0_4.out
  obtain ⟨_, k1_0, k1_1, k1_2, kf1⟩ := Y1_4.out
  obtain ⟨_, k2_0, k2_1, k2_2, kf2⟩ := Z4.out
  go_wp2_with fail
  refine (FJ.out _).mono ?_
  rintro e w5 ⟨rfl, hb5⟩
  clear k0_0 k0_1 k0_2 kf0 k1_0 k1_1 k1_2 kf1 k2_0 k2_1 k2_2 kf2
  have X0_5 := Lib.hid (Y0_4.out.below hb5)
  have X1_5 := Lib.hid (Y1_4.out.below hb5)
  have X2_5 := Lib.hid (Z4.out.below hb5)
  have HB5 := Lib.hid (more4 HB4.out (Nat.le_refl _) hb5)
  clear hb5
  obtain ⟨_, k0_0, k0_1, k0_2, kf0⟩ := X0_5.out
  obtain ⟨_, k1_0, k1_1, k1_2, kf1⟩ := X1_5.out
  obtain ⟨_, k2_0, k2_1, k2_2, kf2⟩ := X2_5.out
  go_wp2_with fail
  refine (RF.out _).mono ?_
  rintro e w6 ⟨rfl, hb6⟩
  clear k0_0 k0_1 k0_2 kf0 k1_0 k1_1 k1_2 kf1 k2_0 k2_1 k2_2 kf2
  have X0_6 := Lib.hid (X0_5.out.below hb6)
  have X1_6 := Lib.hid (X1_5.out.below hb6)
  have X2_6 := Lib.hid (X2_5.out.below hb6)
  have HB6 := Lib.hid (more4 HB5.out (Nat.le_refl _) hb6)
  clear hb6
  obtain ⟨_, k0_0, k0_1, k0_2, kf0⟩ := X0_6.out
  obtain ⟨_, k1_0, k1_1, k1_2, kf1⟩ := X1_6.out
  obtain ⟨_, k2_0, k2_1, k2_2, kf2⟩ := X2_6.out
  go_wp2_with fail
  refine (num_any _ _).mono ?_
  rintro e w9 ⟨rfl, hw⟩
  subst hw
  go_wp2_with fail
  refine (num_any _ _).mono ?_
  rintro e w9 ⟨rfl, hw⟩
  subst hw
  go_wp2_with fail
  refine (L.out _).mono ?_
  rintro e w7 ⟨rfl, hb7⟩
  clear k0_0 k0_1 k0_2 kf0 k1_0 k1_1 k1_2 kf1 k2_0 k2_1 k2_2 kf2
  have X0_7 := Lib.hid (X0_6.out.below hb7)
  have X1_7 := Lib.hid (X1_6.out.below hb7)
  have X2_7 := Lib.hid (X2_6.out.below hb7)
  have HB7 := Lib.hid (more4 HB6.out (Nat.le_refl _) hb7)
  clear hb7
  obtain ⟨_, k0_0, k0_1, k0_2, kf0⟩ := X0_7.out
  obtain ⟨_, k1_0, k1_1, k1_2, kf1⟩ := X1_7.out
  obtain ⟨_, k2_0, k2_1, k2_2, kf2⟩ := X2_7.out
  go_wp2_with fail
  go_ret
  exact ⟨rfl, HB7.out⟩
set_option maxRecDepth 100000 in
set_option maxHeartbeats 8000000 in
theorem hjids_walk (s d a b c : ByteArray) (w : World) (ws : s.size ≤ 140737488351232) (wd : d.size ≤ 140737488351232) (wa : a.size ≤ 140737488351232) (wb : b.size ≤ 140737488351232) (wc : c.size ≤ 140737488351232) :
    Calls Tryz.prog 3 #[.string s, .string d, .agg #[.string a, .string b, .string c]] w fun e w' => e = .returned (.bool true) ∧ Below w.heap.size w w' := by
  have L := Lib.hid (fun W => hlive_any W)
  by_cases hbig : 3000 < s.size + d.size + a.size + b.size + c.size
  · have f : decide ((3000 : Int) < (s.size : Int) + (d.size : Int) + (a.size : Int) + (b.size : Int) + (c.size : Int)) = true := by simp; omega
    clear hbig
    have X0 : Hid (Bx w.heap.size (.string a) (.string b) (.string c) (w.alloc (.cells #[.string a, .string b, .string c] 23))) := Bx.new w _ _ _ _
    have HB0 : Hid (Below w.heap.size w (w.alloc (.cells #[.string a, .string b, .string c] 23))) := (Below.refl _ _).alloc (Nat.le_refl _) _
    go_enter Tryz.func3, Tryz.ntmps3
    obtain ⟨_, k0_0, k0_1, k0_2, kf0⟩ := X0.out
    go_wp2_with fail
    refine (L.out _).mono ?_
    rintro e w1 ⟨rfl, hb1⟩
    clear k0_0 k0_1 k0_2 kf0
    have X0_1 := Lib.hid (X0.out.below hb1)
    have HB1 := Lib.hid (more4 HB0.out (Nat.le_refl _) hb1)
    clear hb1
    obtain ⟨_, k0_0, k0_1, k0_2, kf0⟩ := X0_1.out
    go_wp2_with fail
    go_ret
    exact ⟨rfl, HB1.out⟩
  have f : decide ((3000 : Int) < (s.size : Int) + (d.size : Int) + (a.size : Int) + (b.size : Int) + (c.size : Int)) = false := by simp; omega
  have TJ := Lib.hid (fun W => toJid_any s d W (by omega) (by omega))
  have RT := Lib.hid (fun W => rToJid_any s d W (by omega) (by omega))
  have FJ := Lib.hid (fun W => fromJid_any a b c d W (by omega))
  have RF := Lib.hid (fun W => rFromJid_any a b c d W (by omega))
  have e : ∀ j, toj s.data.toList d.data.toList = some j → tjj (some j) = .tuple #[.agg #[.string (mk (Esc.E (nl s.data.toList))), .string d, .string ⟨#[]⟩], .int .i64 0] := fun j h => by
    obtain ⟨_, _, rfl⟩ := toj_some h
    unfold tjj
    simp only [mk_of]
    rfl
  cases h1 : toj s.data.toList d.data.toList with
  | none =>
    rw [h1] at TJ RT
    cases h2 : frj (jd a b c) d.data.toList with
    | none => rw [h2] at FJ RF; exact jids_nn s d a b c w f (by omega) (by omega) (by omega) (by omega) (by omega) L TJ RT FJ RF
    | some x => rw [h2] at FJ RF; exact jids_ny s d a b c _ w f (by omega) (by omega) (by omega) (by omega) (by omega) L TJ RT FJ RF
  | some j =>
    rw [h1, e j h1] at TJ RT
    cases h2 : frj (jd a b c) d.data.toList with
    | none => rw [h2] at FJ RF; exact jids_yn s d a b c _ w f (by omega) (by omega) (by omega) (by omega) (by omega) L TJ RT FJ RF
    | some x => rw [h2] at FJ RF; exact jids_yy s d a b c _ _ w f (by omega) (by omega) (by omega) (by omega) (by omega) L TJ RT FJ RF
end Go.Proofs.YthhmdkdpfeofjaaGreatDoor
