/- The walk of the law HandleApart: two names have one address just if they are the same. Condition: a string takes at most what a machine can hold. -/
import Derived.Test.YthhmdkdpfeofjaaDoorHlv
import Derived.Test.YthhmdkdpfeofjaaDoorJq
namespace Go.Proofs.YthhmdkdpfeofjaaDoor
open Go.RowKit Go.Lib Go.Shelf Sg Jd Hd

theorem toJid_yes (s d : ByteArray) (w : World) (hs : s.size ≤ 300000) (hd : d.size ≤ 1048576) {j : J} (h : toj s.data.toList d.data.toList = some j) :
    Calls Tryd.prog 14 #[.string s, .string d] w fun e w' => e = .returned (.tuple #[.agg #[.string (mk (Esc.E (nl s.data.toList))), .string d, .string ⟨#[]⟩], .int .i64 0]) ∧ Below w.heap.size w w' := by
  have c := toJid_any s d w hs hd
  rw [h] at c
  obtain ⟨_, _, rfl⟩ := toj_some h
  have e : tjj (some ⟨Esc.E (nl s.data.toList), d.data.toList, []⟩) = .tuple #[.agg #[.string (mk (Esc.E (nl s.data.toList))), .string d, .string ⟨#[]⟩], .int .i64 0] := by
    unfold tjj
    simp only [mk_of]
    rfl
  rw [e] at c
  exact c
theorem toJid_no (s d : ByteArray) (w : World) (hs : s.size ≤ 300000) (hd : d.size ≤ 1048576) (h : toj s.data.toList d.data.toList = none) :
    Calls Tryd.prog 14 #[.string s, .string d] w fun e w' => e = .returned (.tuple #[.agg #[.string ⟨#[]⟩, .string ⟨#[]⟩, .string ⟨#[]⟩], .int .i64 40]) ∧ Below w.heap.size w w' := by
  have c := toJid_any s d w hs hd
  rw [h] at c
  exact c
set_option maxRecDepth 100000 in
set_option maxHeartbeats 8000000 in
theorem apart_nn (s t d : ByteArray) (w : World) (f : decide ((3000 : Int) < (s.size : Int) + (t.size : Int) + (d.size : Int)) = false) (g1 : s.size ≤ 3000) (g2 : t.size ≤ 3000) (g3 : d.size ≤ 3000)
    (L : Hid (∀ W, Calls Tryd.prog 7 #[] W fun e w' => e = .returned (.bool true) ∧ Below W.heap.size W w'))
    (T1 : Hid (∀ W, Calls Tryd.prog 14 #[.string s, .string d] W fun e w' => e = .returned (.tuple #[.agg #[.string ⟨#[]⟩, .string ⟨#[]⟩, .string ⟨#[]⟩], .int .i64 40]) ∧ Below W.heap.size W w'))
    (T2 : Hid (∀ W, Calls Tryd.prog 14 #[.string t, .string d] W fun e w' => e = .returned (.tuple #[.agg #[.string ⟨#[]⟩, .string ⟨#[]⟩, .string ⟨#[]⟩], .int .i64 40]) ∧ Below W.heap.size W w')) :
    Calls Tryd.prog 5 #[.string s, .string t, .string d] w fun e w' => e = .returned (.bool true) ∧ Below w.heap.size w w' := by
  have HB0 : Hid (Below w.heap.size w w) := Below.refl _ _
  go_enter Tryd.func5, Tryd.ntmps5
  go_wp2_with fail
  refine (T1.out _).mono ?_
  rintro e w1 ⟨rfl, hb1⟩
  have HB1 := Lib.hid (more4 HB0.out (Nat.le_refl _) hb1)
  clear hb1
  have Z2 := Lib.hid (Bx.new w1 (.string ⟨#[]⟩) (.string ⟨#[]⟩) (.string ⟨#[]⟩) 30)
  have HB2 := Lib.hid (HB1.out.alloc HB1.out.size (.cells #[.string ⟨#[]⟩, .string ⟨#[]⟩, .string ⟨#[]⟩] 30))
  obtain ⟨_, k0_0, k0_1, k0_2, kf0⟩ := Z2.out
  go_wp2_with fail
  refine (T2.out _).mono ?_
  rintro e w3 ⟨rfl, hb3⟩
  clear k0_0 k0_1 k0_2 kf0
  have X0_3 := Lib.hid (Z2.out.below hb3)
  have HB3 := Lib.hid (more4 HB2.out (Nat.le_refl _) hb3)
  clear hb3
  have Y0_4 := Lib.hid (X0_3.out.alloc (.cells #[.string ⟨#[]⟩, .string ⟨#[]⟩, .string ⟨#[]⟩] 30))
  have Z4 := Lib.hid (Bx.new w3 (.string ⟨#[]⟩) (.string ⟨#[]⟩) (.string ⟨#[]⟩) 30)
  have HB4 := Lib.hid (HB3.out.alloc HB3.out.size (.cells #[.string ⟨#[]⟩, .string ⟨#[]⟩, .string ⟨#[]⟩] 30))
  obtain ⟨_, k0_0, k0_1, k0_2, kf0⟩ := Y0_4.out
  obtain ⟨_, k1_0, k1_1, k1_2, kf1⟩ := Z4.out
  go_wp2_with fail
  refine (num_any _ _).mono ?_
  rintro e w9 ⟨rfl, hw⟩
  subst hw
  go_wp2_with fail
  refine (num_any _ _).mono ?_
  rintro e w9 ⟨rfl, hw⟩
  subst hw
  go_wp2_with fail
  refine (L.out _).mono ?_
  rintro e w5 ⟨rfl, hb5⟩
  clear k0_0 k0_1 k0_2 kf0 k1_0 k1_1 k1_2 kf1
  have X0_5 := Lib.hid (Y0_4.out.below hb5)
  have X1_5 := Lib.hid (Z4.out.below hb5)
  have HB5 := Lib.hid (more4 HB4.out (Nat.le_refl _) hb5)
  clear hb5
  obtain ⟨_, k0_0, k0_1, k0_2, kf0⟩ := X0_5.out
  obtain ⟨_, k1_0, k1_1, k1_2, kf1⟩ := X1_5.out
  go_wp2_with fail
  go_ret
  exact ⟨rfl, HB5.out⟩
set_option maxRecDepth 100000 in
set_option maxHeartbeats 8000000 in
theorem apart_ny (s t d N2 : ByteArray) (w : World) (f : decide ((3000 : Int) < (s.size : Int) + (t.size : Int) + (d.size : Int)) = false) (g1 : s.size ≤ 3000) (g2 : t.size ≤ 3000) (g3 : d.size ≤ 3000)
    (L : Hid (∀ W, Calls Tryd.prog 7 #[] W fun e w' => e = .returned (.bool true) ∧ Below W.heap.size W w'))
    (T1 : Hid (∀ W, Calls Tryd.prog 14 #[.string s, .string d] W fun e w' => e = .returned (.tuple #[.agg #[.string ⟨#[]⟩, .string ⟨#[]⟩, .string ⟨#[]⟩], .int .i64 40]) ∧ Below W.heap.size W w'))
    (T2 : Hid (∀ W, Calls Tryd.prog 14 #[.string t, .string d] W fun e w' => e = .returned (.tuple #[.agg #[.string N2, .string d, .string ⟨#[]⟩], .int .i64 0]) ∧ Below W.heap.size W w')) :
    Calls Tryd.prog 5 #[.string s, .string t, .string d] w fun e w' => e = .returned (.bool true) ∧ Below w.heap.size w w' := by
  have HB0 : Hid (Below w.heap.size w w) := Below.refl _ _
  go_enter Tryd.func5, Tryd.ntmps5
  go_wp2_with fail
  refine (T1.out _).mono ?_
  rintro e w1 ⟨rfl, hb1⟩
  have HB1 := Lib.hid (more4 HB0.out (Nat.le_refl _) hb1)
  clear hb1
  have Z2 := Lib.hid (Bx.new w1 (.string ⟨#[]⟩) (.string ⟨#[]⟩) (.string ⟨#[]⟩) 30)
  have HB2 := Lib.hid (HB1.out.alloc HB1.out.size (.cells #[.string ⟨#[]⟩, .string ⟨#[]⟩, .string ⟨#[]⟩] 30))
  obtain ⟨_, k0_0, k0_1, k0_2, kf0⟩ := Z2.out
  go_wp2_with fail
  refine (T2.out _).mono ?_
  rintro e w3 ⟨rfl, hb3⟩
  clear k0_0 k0_1 k0_2 kf0
  have X0_3 := Lib.hid (Z2.out.below hb3)
  have HB3 := Lib.hid (more4 HB2.out (Nat.le_refl _) hb3)
  clear hb3
  have Y0_4 := Lib.hid (X0_3.out.alloc (.cells #[.string N2, .string d, .string ⟨#[]⟩] 30))
  have Z4 := Lib.hid (Bx.new w3 (.string N2) (.string d) (.string ⟨#[]⟩) 30)
  have HB4 := Lib.hid (HB3.out.alloc HB3.out.size (.cells #[.string N2, .string d, .string ⟨#[]⟩] 30))
  obtain ⟨_, k0_0, k0_1, k0_2, kf0⟩ := Y0_4.out
  obtain ⟨_, k1_0, k1_1, k1_2, kf1⟩ := Z4.out
  go_wp2_with fail
  refine (num_any _ _).mono ?_
  rintro e w9 ⟨rfl, hw⟩
  subst hw
  go_wp2_with fail
  refine (num_any _ _).mono ?_
  rintro e w9 ⟨rfl, hw⟩
  subst hw
  go_wp2_with fail
  refine (L.out _).mono ?_
  rintro e w5 ⟨rfl, hb5⟩
  clear k0_0 k0_1 k0_2 kf0 k1_0 k1_1 k1_2 kf1
  have X0_5 := Lib.hid (Y0_4.out.below hb5)
  have X1_5 := Lib.hid (Z4.out.below hb5)
  have HB5 := Lib.hid (more4 HB4.out (Nat.le_refl _) hb5)
  clear hb5
  obtain ⟨_, k0_0, k0_1, k0_2, kf0⟩ := X0_5.out
  obtain ⟨_, k1_0, k1_1, k1_2, kf1⟩ := X1_5.out
  go_wp2_with fail
  go_ret
  exact ⟨rfl, HB5.out⟩
set_option maxRecDepth 100000 in
set_option maxHeartbeats 8000000 in
theorem apart_yn (s t d N1 : ByteArray) (w : World) (f : decide ((3000 : Int) < (s.size : Int) + (t.size : Int) + (d.size : Int)) = false) (g1 : s.size ≤ 3000) (g2 : t.size ≤ 3000) (g3 : d.size ≤ 3000)
    (L : Hid (∀ W, Calls Tryd.prog 7 #[] W fun e w' => e = .returned (.bool true) ∧ Below W.heap.size W w'))
    (T1 : Hid (∀ W, Calls Tryd.prog 14 #[.string s, .string d] W fun e w' => e = .returned (.tuple #[.agg #[.string N1, .string d, .string ⟨#[]⟩], .int .i64 0]) ∧ Below W.heap.size W w'))
    (T2 : Hid (∀ W, Calls Tryd.prog 14 #[.string t, .string d] W fun e w' => e = .returned (.tuple #[.agg #[.string ⟨#[]⟩, .string ⟨#[]⟩, .string ⟨#[]⟩], .int .i64 40]) ∧ Below W.heap.size W w')) :
    Calls Tryd.prog 5 #[.string s, .string t, .string d] w fun e w' => e = .returned (.bool true) ∧ Below w.heap.size w w' := by
  have HB0 : Hid (Below w.heap.size w w) := Below.refl _ _
  go_enter Tryd.func5, Tryd.ntmps5
  go_wp2_with fail
  refine (T1.out _).mono ?_
  rintro e w1 ⟨rfl, hb1⟩
  have HB1 := Lib.hid (more4 HB0.out (Nat.le_refl _) hb1)
  clear hb1
  have Z2 := Lib.hid (Bx.new w1 (.string N1) (.string d) (.string ⟨#[]⟩) 30)
  have HB2 := Lib.hid (HB1.out.alloc HB1.out.size (.cells #[.string N1, .string d, .string ⟨#[]⟩] 30))
  obtain ⟨_, k0_0, k0_1, k0_2, kf0⟩ := Z2.out
  go_wp2_with fail
  refine (T2.out _).mono ?_
  rintro e w3 ⟨rfl, hb3⟩
  clear k0_0 k0_1 k0_2 kf0
  have X0_3 := Lib.hid (Z2.out.below hb3)
  have HB3 := Lib.hid (more4 HB2.out (Nat.le_refl _) hb3)
  clear hb3
  have Y0_4 := Lib.hid (X0_3.out.alloc (.cells #[.string ⟨#[]⟩, .string ⟨#[]⟩, .string ⟨#[]⟩] 30))
  have Z4 := Lib.hid (Bx.new w3 (.string ⟨#[]⟩) (.string ⟨#[]⟩) (.string ⟨#[]⟩) 30)
  have HB4 := Lib.hid (HB3.out.alloc HB3.out.size (.cells #[.string ⟨#[]⟩, .string ⟨#[]⟩, .string ⟨#[]⟩] 30))
  obtain ⟨_, k0_0, k0_1, k0_2, kf0⟩ := Y0_4.out
  obtain ⟨_, k1_0, k1_1, k1_2, kf1⟩ := Z4.out
  go_wp2_with fail
  refine (num_any _ _).mono ?_
  rintro e w9 ⟨rfl, hw⟩
  subst hw
  go_wp2_with fail
  refine (num_any _ _).mono ?_
  rintro e w9 ⟨rfl, hw⟩
  subst hw
  go_wp2_with fail
  refine (L.out _).mono ?_
  rintro e w5 ⟨rfl, hb5⟩
  clear k0_0 k0_1 k0_2 kf0 k1_0 k1_1 k1_2 kf1
  have X0_5 := Lib.hid (Y0_4.out.below hb5)
  have X1_5 := Lib.hid (Z4.out.below hb5)
  have HB5 := Lib.hid (more4 HB4.out (Nat.le_refl _) hb5)
  clear hb5
  obtain ⟨_, k0_0, k0_1, k0_2, kf0⟩ := X0_5.out
  obtain ⟨_, k1_0, k1_1, k1_2, kf1⟩ := X1_5.out
  go_wp2_with fail
  go_ret
  exact ⟨rfl, HB5.out⟩
set_option maxRecDepth 100000 in
set_option maxHeartbeats 8000000 in
theorem apart_same (s t d N1 : ByteArray) (w : World) (f : decide ((3000 : Int) < (s.size : Int) + (t.size : Int) + (d.size : Int)) = false) (g1 : s.size ≤ 3000) (g2 : t.size ≤ 3000) (g3 : d.size ≤ 3000)
    (L : Hid (∀ W, Calls Tryd.prog 7 #[] W fun e w' => e = .returned (.bool true) ∧ Below W.heap.size W w'))
    (T1 : Hid (∀ W, Calls Tryd.prog 14 #[.string s, .string d] W fun e w' => e = .returned (.tuple #[.agg #[.string N1, .string d, .string ⟨#[]⟩], .int .i64 0]) ∧ Below W.heap.size W w'))
    (T2 : Hid (∀ W, Calls Tryd.prog 14 #[.string t, .string d] W fun e w' => e = .returned (.tuple #[.agg #[.string N1, .string d, .string ⟨#[]⟩], .int .i64 0]) ∧ Below W.heap.size W w'))
    (SA : Hid (∀ W, Calls Tryd.prog 13 #[.string s, .string t] W fun e w' => e = .returned (.bool true) ∧ Below W.heap.size W w')) :
    Calls Tryd.prog 5 #[.string s, .string t, .string d] w fun e w' => e = .returned (.bool true) ∧ Below w.heap.size w w' := by
  have HB0 : Hid (Below w.heap.size w w) := Below.refl _ _
  go_enter Tryd.func5, Tryd.ntmps5
  go_wp2_with fail
  refine (T1.out _).mono ?_
  rintro e w1 ⟨rfl, hb1⟩
  have HB1 := Lib.hid (more4 HB0.out (Nat.le_refl _) hb1)
  clear hb1
  have Z2 := Lib.hid (Bx.new w1 (.string N1) (.string d) (.string ⟨#[]⟩) 30)
  have HB2 := Lib.hid (HB1.out.alloc HB1.out.size (.cells #[.string N1, .string d, .string ⟨#[]⟩] 30))
  obtain ⟨_, k0_0, k0_1, k0_2, kf0⟩ := Z2.out
  go_wp2_with fail
  refine (T2.out _).mono ?_
  rintro e w3 ⟨rfl, hb3⟩
  clear k0_0 k0_1 k0_2 kf0
  have X0_3 := Lib.hid (Z2.out.below hb3)
  have HB3 := Lib.hid (more4 HB2.out (Nat.le_refl _) hb3)
  clear hb3
  have Y0_4 := Lib.hid (X0_3.out.alloc (.cells #[.string N1, .string d, .string ⟨#[]⟩] 30))
  have Z4 := Lib.hid (Bx.new w3 (.string N1) (.string d) (.string ⟨#[]⟩) 30)
  have HB4 := Lib.hid (HB3.out.alloc HB3.out.size (.cells #[.string N1, .string d, .string ⟨#[]⟩] 30))
  obtain ⟨_, k0_0, k0_1, k0_2, kf0⟩ := Y0_4.out
  obtain ⟨_, k1_0, k1_1, k1_2, kf1⟩ := Z4.out
  go_wp2_with fail
  refine (num_any _ _).mono ?_
  rintro e w9 ⟨rfl, hw⟩
  subst hw
  go_wp2_with fail
  refine (num_any _ _).mono ?_
  rintro e w9 ⟨rfl, hw⟩
  subst hw
  go_wp2_with fail
  have yk0_0 := fun (x : Ext _) => ext_cell x k0_0
  have yk0_1 := fun (x : Ext _) => ext_cell x k0_1
  have yk0_2 := fun (x : Ext _) => ext_cell x k0_2
  have yk1_0 := fun (x : Ext _) => ext_cell x k1_0
  have yk1_1 := fun (x : Ext _) => ext_cell x k1_1
  have yk1_2 := fun (x : Ext _) => ext_cell x k1_2
  clear k0_0 k0_1 k0_2 kf0 k1_0 k1_1 k1_2 kf1
  refine ext_region (by kernel_rfl) (by kernel_rfl) ?_
  repeat (go_big_quiet_step ((first | (go_at_call 13; with_reducible exact ext_call _ (SA.out _)) | (go_at_call 7; with_reducible exact ext_call _ (L.out _)))))
  refine wpQuiet_nil ?_
  rintro _ ⟨x4, hx⟩
  subst hx
  clear yk0_0 yk0_1 yk0_2 yk1_0 yk1_1 yk1_2
  have HB9 := Lib.hid (more4 HB4.out (Nat.le_refl _) x4.below)
  go_wp2_with fail
  go_ret
  exact ⟨rfl, HB9.out⟩
set_option maxRecDepth 100000 in
set_option maxHeartbeats 8000000 in
theorem apart_unlike (s t d N1 N2 : ByteArray) (w : World) (f : decide ((3000 : Int) < (s.size : Int) + (t.size : Int) + (d.size : Int)) = false) (g1 : s.size ≤ 3000) (g2 : t.size ≤ 3000) (g3 : d.size ≤ 3000)
    (L : Hid (∀ W, Calls Tryd.prog 7 #[] W fun e w' => e = .returned (.bool true) ∧ Below W.heap.size W w'))
    (T1 : Hid (∀ W, Calls Tryd.prog 14 #[.string s, .string d] W fun e w' => e = .returned (.tuple #[.agg #[.string N1, .string d, .string ⟨#[]⟩], .int .i64 0]) ∧ Below W.heap.size W w'))
    (T2 : Hid (∀ W, Calls Tryd.prog 14 #[.string t, .string d] W fun e w' => e = .returned (.tuple #[.agg #[.string N2, .string d, .string ⟨#[]⟩], .int .i64 0]) ∧ Below W.heap.size W w'))
    (SA : Hid (∀ W, Calls Tryd.prog 13 #[.string s, .string t] W fun e w' => e = .returned (.bool false) ∧ Below W.heap.size W w')) (hne : ¬ N1.toList = N2.toList) :
    Calls Tryd.prog 5 #[.string s, .string t, .string d] w fun e w' => e = .returned (.bool true) ∧ Below w.heap.size w w' := by
  have HB0 : Hid (Below w.heap.size w w) := Below.refl _ _
  go_enter Tryd.func5, Tryd.ntmps5
  go_wp2_with fail
  refine (T1.out _).mono ?_
  rintro e w1 ⟨rfl, hb1⟩
  have HB1 := Lib.hid (more4 HB0.out (Nat.le_refl _) hb1)
  clear hb1
  have Z2 := Lib.hid (Bx.new w1 (.string N1) (.string d) (.string ⟨#[]⟩) 30)
  have HB2 := Lib.hid (HB1.out.alloc HB1.out.size (.cells #[.string N1, .string d, .string ⟨#[]⟩] 30))
  obtain ⟨_, k0_0, k0_1, k0_2, kf0⟩ := Z2.out
  go_wp2_with fail
  refine (T2.out _).mono ?_
  rintro e w3 ⟨rfl, hb3⟩
  clear k0_0 k0_1 k0_2 kf0
  have X0_3 := Lib.hid (Z2.out.below hb3)
  have HB3 := Lib.hid (more4 HB2.out (Nat.le_refl _) hb3)
  clear hb3
  have Y0_4 := Lib.hid (X0_3.out.alloc (.cells #[.string N2, .string d, .string ⟨#[]⟩] 30))
  have Z4 := Lib.hid (Bx.new w3 (.string N2) (.string d) (.string ⟨#[]⟩) 30)
  have HB4 := Lib.hid (HB3.out.alloc HB3.out.size (.cells #[.string N2, .string d, .string ⟨#[]⟩] 30))
  obtain ⟨_, k0_0, k0_1, k0_2, kf0⟩ := Y0_4.out
  obtain ⟨_, k1_0, k1_1, k1_2, kf1⟩ := Z4.out
  go_wp2_with fail
  refine (num_any _ _).mono ?_
  rintro e w9 ⟨rfl, hw⟩
  subst hw
  go_wp2_with fail
  refine (num_any _ _).mono ?_
  rintro e w9 ⟨rfl, hw⟩
  subst hw
  go_wp2_with fail
  have yk0_0 := fun (x : Ext _) => ext_cell x k0_0
  have yk0_1 := fun (x : Ext _) => ext_cell x k0_1
  have yk0_2 := fun (x : Ext _) => ext_cell x k0_2
  have yk1_0 := fun (x : Ext _) => ext_cell x k1_0
  have yk1_1 := fun (x : Ext _) => ext_cell x k1_1
  have yk1_2 := fun (x : Ext _) => ext_cell x k1_2
  clear k0_0 k0_1 k0_2 kf0 k1_0 k1_1 k1_2 kf1
  refine ext_region (by kernel_rfl) (by kernel_rfl) ?_
  repeat (go_big_quiet_step ((first | (go_at_call 13; with_reducible exact ext_call _ (SA.out _)) | (go_at_call 7; with_reducible exact ext_call _ (L.out _)))))
  refine wpQuiet_nil ?_
  rintro _ ⟨x4, hx⟩
  subst hx
  clear yk0_0 yk0_1 yk0_2 yk1_0 yk1_1 yk1_2
  have HB9 := Lib.hid (more4 HB4.out (Nat.le_refl _) x4.below)
  go_wp2_with fail
  go_ret
  exact ⟨rfl, HB9.out⟩
set_option maxHeartbeats 1000000 in
theorem hapart_walk (s t d : ByteArray) (w : World) (ws : s.size ≤ 140737488351232) (wt : t.size ≤ 140737488351232) (wd : d.size ≤ 140737488351232) :
    Calls Tryd.prog 5 #[.string s, .string t, .string d] w fun e w' => e = .returned (.bool true) ∧ Below w.heap.size w w' := by
  have L := Lib.hid (fun W => hlive_any W)
  by_cases hbig : 3000 < s.size + t.size + d.size
  · have HB0 : Hid (Below w.heap.size w w) := Below.refl _ _
    have f : decide ((3000 : Int) < (s.size : Int) + (t.size : Int) + (d.size : Int)) = true := by simp; omega
    clear hbig
    go_enter Tryd.func5, Tryd.ntmps5
    go_wp2_with fail
    refine (L.out _).mono ?_
    rintro e w1 ⟨rfl, hb1⟩
    have HB1 := Lib.hid (more4 HB0.out (Nat.le_refl _) hb1)
    clear hb1
    go_wp2_with fail
    go_ret
    exact ⟨rfl, HB1.out⟩
  have f : decide ((3000 : Int) < (s.size : Int) + (t.size : Int) + (d.size : Int)) = false := by simp; omega
  cases h1 : toj s.data.toList d.data.toList with
  | none =>
    have T1 := Lib.hid (fun W => toJid_no s d W (by omega) (by omega) h1)
    cases h2 : toj t.data.toList d.data.toList with
    | none => exact apart_nn s t d w f (by omega) (by omega) (by omega) L T1 (Lib.hid (fun W => toJid_no t d W (by omega) (by omega) h2))
    | some k => exact apart_ny s t d _ w f (by omega) (by omega) (by omega) L T1 (Lib.hid (fun W => toJid_yes t d W (by omega) (by omega) h2))
  | some j =>
    have T1 := Lib.hid (fun W => toJid_yes s d W (by omega) (by omega) h1)
    cases h2 : toj t.data.toList d.data.toList with
    | none => exact apart_yn s t d _ w f (by omega) (by omega) (by omega) L T1 (Lib.hid (fun W => toJid_no t d W (by omega) (by omega) h2))
    | some k =>
      have T2 := Lib.hid (fun W => toJid_yes t d W (by omega) (by omega) h2)
      have SA := Lib.hid (fun W => same_any s t W (by omega) (by omega))
      by_cases he : nl s.data.toList = nl t.data.toList
      · rw [decide_eq_true he] at SA
        rw [← he] at T2
        exact apart_same s t d _ w f (by omega) (by omega) (by omega) L T1 T2 SA
      · rw [decide_eq_false he] at SA
        refine apart_unlike s t d _ _ w f (by omega) (by omega) (by omega) L T1 T2 SA fun e => he ?_
        have e2 := mk_inj.1 (toList_inj e)
        obtain ⟨n1, _, _⟩ := toj_some h1
        obtain ⟨n2, _, _⟩ := toj_some h2
        rw [← Hd.back n1, e2, Hd.back n2]
end Go.Proofs.YthhmdkdpfeofjaaDoor
