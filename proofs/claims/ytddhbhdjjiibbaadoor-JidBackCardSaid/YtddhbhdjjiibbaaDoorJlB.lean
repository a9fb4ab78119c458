/- The walk of the law JidBack: what may be is parsed from its text; what was parsed may be, and its text is parsed to the same. Condition: a string takes at most what a machine can hold. -/
import Derived.Test.YtddhbhdjjiibbaaDoorJlc
namespace Go.Proofs.YtddhbhdjjiibbaaDoor
open Go.RowKit Go.Lib Go.Shelf Sg Jd

set_option maxRecDepth 100000 in
set_option maxHeartbeats 8000000 in
theorem back_early (n d r s : ByteArray) (w : World) (hv : (sm n d r && decide (s.size ≤ 4000)) = false)
    (SM : Hid (∀ W, Calls Tryd.prog 13 #[.agg #[.string n, .string d, .string r]] W fun e w' => e = .returned (.bool (sm n d r)) ∧ Below W.heap.size W w')) :
    Calls Tryd.prog 5 #[.agg #[.string n, .string d, .string r], .string s] w fun e w' => e = .returned (.bool true) ∧ Below w.heap.size w w' := by
  have HB0 : Hid (Below w.heap.size w w) := Below.refl _ _
  have L := Lib.hid (fun W => live_any W)
  by_cases hsm : sm n d r = true
  · rw [hsm] at SM
    have hb : ¬ s.size ≤ 4000 := by rw [hsm, Bool.true_and] at hv; exact of_decide_eq_false hv
    have f : decide ((4000 : Int) < s.size) = true := by simp; omega
    clear hsm hv hb
    have X1 := Lib.hid (Bx.new w (.string n) (.string d) (.string r) 24)
    have HB1 := Lib.hid (HB0.out.alloc HB0.out.size (.cells #[.string n, .string d, .string r] 24))
    obtain ⟨_, k10, k11, k12, k1f⟩ := X1.out
    go_enter Tryd.func5, Tryd.ntmps5
    go_wp2_with fail
    refine (SM.out _).mono ?_
    rintro e w2 ⟨rfl, hb2⟩
    clear k10 k11 k12 k1f
    have X1_2 := Lib.hid (X1.out.below hb2)
    have HB2 := Lib.hid (more HB1.out (Nat.le_refl _) hb2)
    clear hb2
    obtain ⟨_, k10, k11, k12, k1f⟩ := X1_2.out
    go_wp2_with fail
    refine (L.out _).mono ?_
    rintro e w3 ⟨rfl, hb3⟩
    clear k10 k11 k12 k1f
    have X1_2_3 := Lib.hid (X1_2.out.below hb3)
    have HB3 := Lib.hid (more HB2.out (Nat.le_refl _) hb3)
    clear hb3
    obtain ⟨_, k10, k11, k12, k1f⟩ := X1_2_3.out
    go_wp2_with fail
    go_ret
    exact ⟨rfl, HB3.out⟩
  · have hsm2 : sm n d r = false := by simpa using hsm
    rw [hsm2] at SM
    clear hsm hsm2 hv
    have X1 := Lib.hid (Bx.new w (.string n) (.string d) (.string r) 24)
    have HB1 := Lib.hid (HB0.out.alloc HB0.out.size (.cells #[.string n, .string d, .string r] 24))
    obtain ⟨_, k10, k11, k12, k1f⟩ := X1.out
    go_enter Tryd.func5, Tryd.ntmps5
    go_wp2_with fail
    refine (SM.out _).mono ?_
    rintro e w2 ⟨rfl, hb2⟩
    clear k10 k11 k12 k1f
    have X1_2 := Lib.hid (X1.out.below hb2)
    have HB2 := Lib.hid (more HB1.out (Nat.le_refl _) hb2)
    clear hb2
    obtain ⟨_, k10, k11, k12, k1f⟩ := X1_2.out
    go_wp2_with fail
    refine (L.out _).mono ?_
    rintro e w3 ⟨rfl, hb3⟩
    clear k10 k11 k12 k1f
    have X1_2_3 := Lib.hid (X1_2.out.below hb3)
    have HB3 := Lib.hid (more HB2.out (Nat.le_refl _) hb3)
    clear hb3
    obtain ⟨_, k10, k11, k12, k1f⟩ := X1_2_3.out
    go_wp2_with fail
    go_ret
    exact ⟨rfl, HB3.out⟩
set_option maxRecDepth 100000 in
set_option maxHeartbeats 8000000 in
theorem back_yn (n d r s p : ByteArray) (w : World) (f : decide ((4000 : Int) < s.size) = false)
    (SM : Hid (∀ W, Calls Tryd.prog 13 #[.agg #[.string n, .string d, .string r]] W fun e w' => e = .returned (.bool true) ∧ Below W.heap.size W w'))
    (CK : Hid (∀ W, Calls Tryd.prog 14 #[.agg #[.string n, .string d, .string r]] W fun e w' => e = .returned (.int .i64 0) ∧ Below W.heap.size W w'))
    (PU : Hid (∀ W, Calls Tryd.prog 16 #[.agg #[.string n, .string d, .string r]] W fun e w' => e = .returned (.string p) ∧ Below W.heap.size W w'))
    (PA : Hid (∀ W, Calls Tryd.prog 10 #[.string p] W fun e w' => e = .returned (.tuple #[.agg #[.string n, .string d, .string r], .int .i64 0]) ∧ Below W.heap.size W w'))
    (NB : Hid (∀ W, Calls Tryd.prog 18 #[.agg #[.string n, .string d, .string r]] W fun e w' => e = .returned (.agg #[.string n, .string d, .string r]) ∧ Below W.heap.size W w'))
    (PS : Hid (∀ W, Calls Tryd.prog 10 #[.string s] W fun e w' => e = .returned (.tuple #[.agg #[.string ⟨#[]⟩, .string ⟨#[]⟩, .string ⟨#[]⟩], .int .i64 30]) ∧ Below W.heap.size W w')) :
    Calls Tryd.prog 5 #[.agg #[.string n, .string d, .string r], .string s] w fun e w' => e = .returned (.bool true) ∧ Below w.heap.size w w' := by
  have HB0 : Hid (Below w.heap.size w w) := Below.refl _ _
  have L := Lib.hid (fun W => live_any W)
  have X1 := Lib.hid (Bx.new w (.string n) (.string d) (.string r) 24)
  have HB1 := Lib.hid (HB0.out.alloc HB0.out.size (.cells #[.string n, .string d, .string r] 24))
  obtain ⟨_, k10, k11, k12, k1f⟩ := X1.out
  go_enter Tryd.func5, Tryd.ntmps5
  go_wp2_with fail
  refine (SM.out _).mono ?_
  rintro e w2 ⟨rfl, hb2⟩
  clear k10 k11 k12 k1f
  have X1_2 := Lib.hid (X1.out.below hb2)
  have HB2 := Lib.hid (more HB1.out (Nat.le_refl _) hb2)
  clear hb2
  obtain ⟨_, k10, k11, k12, k1f⟩ := X1_2.out
  go_wp2_with fail
  refine (CK.out _).mono ?_
  rintro e w3 ⟨rfl, hb3⟩
  clear k10 k11 k12 k1f
  have X1_2_3 := Lib.hid (X1_2.out.below hb3)
  have HB3 := Lib.hid (more HB2.out (Nat.le_refl _) hb3)
  clear hb3
  obtain ⟨_, k10, k11, k12, k1f⟩ := X1_2_3.out
  go_wp2_with fail
  refine (num_any _ _).mono ?_
  rintro e w9 ⟨rfl, hw⟩
  subst hw
  go_wp2_with fail
  refine (PU.out _).mono ?_
  rintro e w4 ⟨rfl, hb4⟩
  clear k10 k11 k12 k1f
  have X1_2_3_4 := Lib.hid (X1_2_3.out.below hb4)
  have HB4 := Lib.hid (more HB3.out (Nat.le_refl _) hb4)
  clear hb4
  obtain ⟨_, k10, k11, k12, k1f⟩ := X1_2_3_4.out
  go_wp2_with fail
  refine (PA.out _).mono ?_
  rintro e w5 ⟨rfl, hb5⟩
  clear k10 k11 k12 k1f
  have X1_2_3_4_5 := Lib.hid (X1_2_3_4.out.below hb5)
  have HB5 := Lib.hid (more HB4.out (Nat.le_refl _) hb5)
  clear hb5
  have X1_2_3_4_5_6 := Lib.hid (X1_2_3_4_5.out.alloc (.cells #[.string n, .string d, .string r] 24))
  have X6 := Lib.hid (Bx.new w5 (.string n) (.string d) (.string r) 24)
  have HB6 := Lib.hid (HB5.out.alloc HB5.out.size (.cells #[.string n, .string d, .string r] 24))
  obtain ⟨_, k10, k11, k12, k1f⟩ := X1_2_3_4_5_6.out
  obtain ⟨_, k60, k61, k62, k6f⟩ := X6.out
  go_wp2_with fail
  have yk10 := fun (x : Ext _) => ext_cell x k10
  have yk11 := fun (x : Ext _) => ext_cell x k11
  have yk12 := fun (x : Ext _) => ext_cell x k12
  have yk60 := fun (x : Ext _) => ext_cell x k60
  have yk61 := fun (x : Ext _) => ext_cell x k61
  have yk62 := fun (x : Ext _) => ext_cell x k62
  clear k10 k11 k12 k1f k60 k61 k62 k6f
  refine ext_region (by kernel_rfl) (by kernel_rfl) ?_
  repeat (go_big_quiet_step ((first | (go_at_call 18; exact ext_call _ (NB.out _)) | (go_at_call 12; exact ext_same _ (num_any _ _)))))
  refine wpQuiet_nil ?_
  rintro _ ⟨x7, hx⟩
  subst hx
  clear yk10 yk11 yk12 yk60 yk61 yk62
  have X1_2_3_4_5_6_7 := Lib.hid (X1_2_3_4_5_6.out.below x7.below)
  have X6_7 := Lib.hid (X6.out.below x7.below)
  have HB7 := Lib.hid (more HB6.out (Nat.le_refl _) x7.below)
  obtain ⟨_, k10, k11, k12, k1f⟩ := X1_2_3_4_5_6_7.out
  obtain ⟨_, k60, k61, k62, k6f⟩ := X6_7.out
  go_wp2_with fail
  refine (PS.out _).mono ?_
  rintro e w8 ⟨rfl, hb8⟩
  clear k10 k11 k12 k1f k60 k61 k62 k6f
  have X1_2_3_4_5_6_7_8 := Lib.hid (X1_2_3_4_5_6_7.out.below hb8)
  have X6_7_8 := Lib.hid (X6_7.out.below hb8)
  have HB8 := Lib.hid (more HB7.out (Nat.le_refl _) hb8)
  clear hb8
  have X1_2_3_4_5_6_7_8_9 := Lib.hid (X1_2_3_4_5_6_7_8.out.alloc (.cells #[.string ⟨#[]⟩, .string ⟨#[]⟩, .string ⟨#[]⟩] 24))
  have X6_7_8_9 := Lib.hid (X6_7_8.out.alloc (.cells #[.string ⟨#[]⟩, .string ⟨#[]⟩, .string ⟨#[]⟩] 24))
  have X9 := Lib.hid (Bx.new w8 (.string ⟨#[]⟩) (.string ⟨#[]⟩) (.string ⟨#[]⟩) 24)
  have HB9 := Lib.hid (HB8.out.alloc HB8.out.size (.cells #[.string ⟨#[]⟩, .string ⟨#[]⟩, .string ⟨#[]⟩] 24))
  obtain ⟨_, k10, k11, k12, k1f⟩ := X1_2_3_4_5_6_7_8_9.out
  obtain ⟨_, k60, k61, k62, k6f⟩ := X6_7_8_9.out
  obtain ⟨_, k90, k91, k92, k9f⟩ := X9.out
  go_wp2_with fail
  refine (num_any _ _).mono ?_
  rintro e w9 ⟨rfl, hw⟩
  subst hw
  go_wp2_with fail
  refine (L.out _).mono ?_
  rintro e w10 ⟨rfl, hb10⟩
  clear k10 k11 k12 k1f k60 k61 k62 k6f k90 k91 k92 k9f
  have X1_2_3_4_5_6_7_8_9_10 := Lib.hid (X1_2_3_4_5_6_7_8_9.out.below hb10)
  have X6_7_8_9_10 := Lib.hid (X6_7_8_9.out.below hb10)
  have X9_10 := Lib.hid (X9.out.below hb10)
  have HB10 := Lib.hid (more HB9.out (Nat.le_refl _) hb10)
  clear hb10
  obtain ⟨_, k10, k11, k12, k1f⟩ := X1_2_3_4_5_6_7_8_9_10.out
  obtain ⟨_, k60, k61, k62, k6f⟩ := X6_7_8_9_10.out
  obtain ⟨_, k90, k91, k92, k9f⟩ := X9_10.out
  go_wp2_with fail
  go_ret
  exact ⟨rfl, HB10.out⟩
set_option maxRecDepth 100000 in
set_option maxHeartbeats 8000000 in
theorem back_ys (n d r s p a b c q : ByteArray) (w : World) (f : decide ((4000 : Int) < s.size) = false)
    (SM : Hid (∀ W, Calls Tryd.prog 13 #[.agg #[.string n, .string d, .string r]] W fun e w' => e = .returned (.bool true) ∧ Below W.heap.size W w'))
    (CK : Hid (∀ W, Calls Tryd.prog 14 #[.agg #[.string n, .string d, .string r]] W fun e w' => e = .returned (.int .i64 0) ∧ Below W.heap.size W w'))
    (PU : Hid (∀ W, Calls Tryd.prog 16 #[.agg #[.string n, .string d, .string r]] W fun e w' => e = .returned (.string p) ∧ Below W.heap.size W w'))
    (PA : Hid (∀ W, Calls Tryd.prog 10 #[.string p] W fun e w' => e = .returned (.tuple #[.agg #[.string n, .string d, .string r], .int .i64 0]) ∧ Below W.heap.size W w'))
    (NB : Hid (∀ W, Calls Tryd.prog 18 #[.agg #[.string n, .string d, .string r]] W fun e w' => e = .returned (.agg #[.string n, .string d, .string r]) ∧ Below W.heap.size W w'))
    (PS : Hid (∀ W, Calls Tryd.prog 10 #[.string s] W fun e w' => e = .returned (.tuple #[.agg #[.string a, .string b, .string c], .int .i64 0]) ∧ Below W.heap.size W w'))
    (PU2 : Hid (∀ W, Calls Tryd.prog 16 #[.agg #[.string a, .string b, .string c]] W fun e w' => e = .returned (.string q) ∧ Below W.heap.size W w'))
    (PA2 : Hid (∀ W, Calls Tryd.prog 10 #[.string q] W fun e w' => e = .returned (.tuple #[.agg #[.string a, .string b, .string c], .int .i64 0]) ∧ Below W.heap.size W w'))
    (CK2 : Hid (∀ W, Calls Tryd.prog 14 #[.agg #[.string a, .string b, .string c]] W fun e w' => e = .returned (.int .i64 0) ∧ Below W.heap.size W w')) :
    Calls Tryd.prog 5 #[.agg #[.string n, .string d, .string r], .string s] w fun e w' => e = .returned (.bool true) ∧ Below w.heap.size w w' := by
  have HB0 : Hid (Below w.heap.size w w) := Below.refl _ _
  have L := Lib.hid (fun W => live_any W)
  have X1 := Lib.hid (Bx.new w (.string n) (.string d) (.string r) 24)
  have HB1 := Lib.hid (HB0.out.alloc HB0.out.size (.cells #[.string n, .string d, .string r] 24))
  obtain ⟨_, k10, k11, k12, k1f⟩ := X1.out
  go_enter Tryd.func5, Tryd.ntmps5
  go_wp2_with fail
  refine (SM.out _).mono ?_
  rintro e w2 ⟨rfl, hb2⟩
  clear k10 k11 k12 k1f
  have X1_2 := Lib.hid (X1.out.below hb2)
  have HB2 := Lib.hid (more HB1.out (Nat.le_refl _) hb2)
  clear hb2
  obtain ⟨_, k10, k11, k12, k1f⟩ := X1_2.out
  go_wp2_with fail
  refine (CK.out _).mono ?_
  rintro e w3 ⟨rfl, hb3⟩
  clear k10 k11 k12 k1f
  have X1_2_3 := Lib.hid (X1_2.out.below hb3)
  have HB3 := Lib.hid (more HB2.out (Nat.le_refl _) hb3)
  clear hb3
  obtain ⟨_, k10, k11, k12, k1f⟩ := X1_2_3.out
  go_wp2_with fail
  refine (num_any _ _).mono ?_
  rintro e w9 ⟨rfl, hw⟩
  subst hw
  go_wp2_with fail
  refine (PU.out _).mono ?_
  rintro e w4 ⟨rfl, hb4⟩
  clear k10 k11 k12 k1f
  have X1_2_3_4 := Lib.hid (X1_2_3.out.below hb4)
  have HB4 := Lib.hid (more HB3.out (Nat.le_refl _) hb4)
  clear hb4
  obtain ⟨_, k10, k11, k12, k1f⟩ := X1_2_3_4.out
  go_wp2_with fail
  refine (PA.out _).mono ?_
  rintro e w5 ⟨rfl, hb5⟩
  clear k10 k11 k12 k1f
  have X1_2_3_4_5 := Lib.hid (X1_2_3_4.out.below hb5)
  have HB5 := Lib.hid (more HB4.out (Nat.le_refl _) hb5)
  clear hb5
  have X1_2_3_4_5_6 := Lib.hid (X1_2_3_4_5.out.alloc (.cells #[.string n, .string d, .string r] 24))
  have X6 := Lib.hid (Bx.new w5 (.string n) (.string d) (.string r) 24)
  have HB6 := Lib.hid (HB5.out.alloc HB5.out.size (.cells #[.string n, .string d, .string r] 24))
  obtain ⟨_, k10, k11, k12, k1f⟩ := X1_2_3_4_5_6.out
  obtain ⟨_, k60, k61, k62, k6f⟩ := X6.out
  go_wp2_with fail
  have yk10 := fun (x : Ext _) => ext_cell x k10
  have yk11 := fun (x : Ext _) => ext_cell x k11
  have yk12 := fun (x : Ext _) => ext_cell x k12
  have yk60 := fun (x : Ext _) => ext_cell x k60
  have yk61 := fun (x : Ext _) => ext_cell x k61
  have yk62 := fun (x : Ext _) => ext_cell x k62
  clear k10 k11 k12 k1f k60 k61 k62 k6f
  refine ext_region (by kernel_rfl) (by kernel_rfl) ?_
  repeat (go_big_quiet_step ((first | (go_at_call 18; exact ext_call _ (NB.out _)) | (go_at_call 12; exact ext_same _ (num_any _ _)))))
  refine wpQuiet_nil ?_
  rintro _ ⟨x7, hx⟩
  subst hx
  clear yk10 yk11 yk12 yk60 yk61 yk62
  have X1_2_3_4_5_6_7 := Lib.hid (X1_2_3_4_5_6.out.below x7.below)
  have X6_7 := Lib.hid (X6.out.below x7.below)
  have HB7 := Lib.hid (more HB6.out (Nat.le_refl _) x7.below)
  obtain ⟨_, k10, k11, k12, k1f⟩ := X1_2_3_4_5_6_7.out
  obtain ⟨_, k60, k61, k62, k6f⟩ := X6_7.out
  go_wp2_with fail
  refine (PS.out _).mono ?_
  rintro e w8 ⟨rfl, hb8⟩
  clear k10 k11 k12 k1f k60 k61 k62 k6f
  have X1_2_3_4_5_6_7_8 := Lib.hid (X1_2_3_4_5_6_7.out.below hb8)
  have X6_7_8 := Lib.hid (X6_7.out.below hb8)
  have HB8 := Lib.hid (more HB7.out (Nat.le_refl _) hb8)
  clear hb8
  have X1_2_3_4_5_6_7_8_9 := Lib.hid (X1_2_3_4_5_6_7_8.out.alloc (.cells #[.string a, .string b, .string c] 24))
  have X6_7_8_9 := Lib.hid (X6_7_8.out.alloc (.cells #[.string a, .string b, .string c] 24))
  have X9 := Lib.hid (Bx.new w8 (.string a) (.string b) (.string c) 24)
  have HB9 := Lib.hid (HB8.out.alloc HB8.out.size (.cells #[.string a, .string b, .string c] 24))
  obtain ⟨_, k10, k11, k12, k1f⟩ := X1_2_3_4_5_6_7_8_9.out
  obtain ⟨_, k60, k61, k62, k6f⟩ := X6_7_8_9.out
  obtain ⟨_, k90, k91, k92, k9f⟩ := X9.out
  go_wp2_with fail
  refine (num_any _ _).mono ?_
  rintro e w9 ⟨rfl, hw⟩
  subst hw
  go_wp2_with fail
  refine (PU2.out _).mono ?_
  rintro e w10 ⟨rfl, hb10⟩
  clear k10 k11 k12 k1f k60 k61 k62 k6f k90 k91 k92 k9f
  have X1_2_3_4_5_6_7_8_9_10 := Lib.hid (X1_2_3_4_5_6_7_8_9.out.below hb10)
  have X6_7_8_9_10 := Lib.hid (X6_7_8_9.out.below hb10)
  have X9_10 := Lib.hid (X9.out.below hb10)
  have HB10 := Lib.hid (more HB9.out (Nat.le_refl _) hb10)
  clear hb10
  obtain ⟨_, k10, k11, k12, k1f⟩ := X1_2_3_4_5_6_7_8_9_10.out
  obtain ⟨_, k60, k61, k62, k6f⟩ := X6_7_8_9_10.out
  obtain ⟨_, k90, k91, k92, k9f⟩ := X9_10.out
  go_wp2_with fail
  refine (PA2.out _).mono ?_
  rintro e w11 ⟨rfl, hb11⟩
  clear k10 k11 k12 k1f k60 k61 k62 k6f k90 k91 k92 k9f
  have X1_2_3_4_5_6_7_8_9_10_11 := Lib.hid (X1_2_3_4_5_6_7_8_9_10.out.below hb11)
  have X6_7_8_9_10_11 := Lib.hid (X6_7_8_9_10.out.below hb11)
  have X9_10_11 := Lib.hid (X9_10.out.below hb11)
  have HB11 := Lib.hid (more HB10.out (Nat.le_refl _) hb11)
  clear hb11
  have X1_2_3_4_5_6_7_8_9_10_11_12 := Lib.hid (X1_2_3_4_5_6_7_8_9_10_11.out.alloc (.cells #[.string a, .string b, .string c] 24))
  have X6_7_8_9_10_11_12 := Lib.hid (X6_7_8_9_10_11.out.alloc (.cells #[.string a, .string b, .string c] 24))
  have X9_10_11_12 := Lib.hid (X9_10_11.out.alloc (.cells #[.string a, .string b, .string c] 24))
  have X12 := Lib.hid (Bx.new w11 (.string a) (.string b) (.string c) 24)
  have HB12 := Lib.hid (HB11.out.alloc HB11.out.size (.cells #[.string a, .string b, .string c] 24))
  obtain ⟨_, k10, k11, k12, k1f⟩ := X1_2_3_4_5_6_7_8_9_10_11_12.out
  obtain ⟨_, k60, k61, k62, k6f⟩ := X6_7_8_9_10_11_12.out
  obtain ⟨_, k90, k91, k92, k9f⟩ := X9_10_11_12.out
  obtain ⟨_, k120, k121, k122, k12f⟩ := X12.out
  go_wp2_with fail
  refine (CK2.out _).mono ?_
  rintro e w13 ⟨rfl, hb13⟩
  clear k10 k11 k12 k1f k60 k61 k62 k6f k90 k91 k92 k9f k120 k121 k122 k12f
  have X1_2_3_4_5_6_7_8_9_10_11_12_13 := Lib.hid (X1_2_3_4_5_6_7_8_9_10_11_12.out.below hb13)
  have X6_7_8_9_10_11_12_13 := Lib.hid (X6_7_8_9_10_11_12.out.below hb13)
  have X9_10_11_12_13 := Lib.hid (X9_10_11_12.out.below hb13)
  have X12_13 := Lib.hid (X12.out.below hb13)
  have HB13 := Lib.hid (more HB12.out (Nat.le_refl _) hb13)
  clear hb13
  obtain ⟨_, k10, k11, k12, k1f⟩ := X1_2_3_4_5_6_7_8_9_10_11_12_13.out
  obtain ⟨_, k60, k61, k62, k6f⟩ := X6_7_8_9_10_11_12_13.out
  obtain ⟨_, k90, k91, k92, k9f⟩ := X9_10_11_12_13.out
  obtain ⟨_, k120, k121, k122, k12f⟩ := X12_13.out
  go_wp2_with fail
  refine (num_any _ _).mono ?_
  rintro e w9 ⟨rfl, hw⟩
  subst hw
  go_wp2_with fail
  refine (num_any _ _).mono ?_
  rintro e w9 ⟨rfl, hw⟩
  subst hw
  go_wp2_with fail
  refine (L.out _).mono ?_
  rintro e w14 ⟨rfl, hb14⟩
  clear k10 k11 k12 k1f k60 k61 k62 k6f k90 k91 k92 k9f k120 k121 k122 k12f
  have X1_2_3_4_5_6_7_8_9_10_11_12_13_14 := Lib.hid (X1_2_3_4_5_6_7_8_9_10_11_12_13.out.below hb14)
  have X6_7_8_9_10_11_12_13_14 := Lib.hid (X6_7_8_9_10_11_12_13.out.below hb14)
  have X9_10_11_12_13_14 := Lib.hid (X9_10_11_12_13.out.below hb14)
  have X12_13_14 := Lib.hid (X12_13.out.below hb14)
  have HB14 := Lib.hid (more HB13.out (Nat.le_refl _) hb14)
  clear hb14
  obtain ⟨_, k10, k11, k12, k1f⟩ := X1_2_3_4_5_6_7_8_9_10_11_12_13_14.out
  obtain ⟨_, k60, k61, k62, k6f⟩ := X6_7_8_9_10_11_12_13_14.out
  obtain ⟨_, k90, k91, k92, k9f⟩ := X9_10_11_12_13_14.out
  obtain ⟨_, k120, k121, k122, k12f⟩ := X12_13_14.out
  go_wp2_with fail
  go_ret
  exact ⟨rfl, HB14.out⟩
set_option maxRecDepth 100000 in
set_option maxHeartbeats 8000000 in
theorem back_nn (n d r s : ByteArray) (w : World) (f : decide ((4000 : Int) < s.size) = false)
    (SM : Hid (∀ W, Calls Tryd.prog 13 #[.agg #[.string n, .string d, .string r]] W fun e w' => e = .returned (.bool true) ∧ Below W.heap.size W w'))
    (CK : Hid (∀ W, Calls Tryd.prog 14 #[.agg #[.string n, .string d, .string r]] W fun e w' => e = .returned (.int .i64 30) ∧ Below W.heap.size W w'))
    (PS : Hid (∀ W, Calls Tryd.prog 10 #[.string s] W fun e w' => e = .returned (.tuple #[.agg #[.string ⟨#[]⟩, .string ⟨#[]⟩, .string ⟨#[]⟩], .int .i64 30]) ∧ Below W.heap.size W w')) :
    Calls Tryd.prog 5 #[.agg #[.string n, .string d, .string r], .string s] w fun e w' => e = .returned (.bool true) ∧ Below w.heap.size w w' := by
  have HB0 : Hid (Below w.heap.size w w) := Below.refl _ _
  have L := Lib.hid (fun W => live_any W)
  have X1 := Lib.hid (Bx.new w (.string n) (.string d) (.string r) 24)
  have HB1 := Lib.hid (HB0.out.alloc HB0.out.size (.cells #[.string n, .string d, .string r] 24))
  obtain ⟨_, k10, k11, k12, k1f⟩ := X1.out
  go_enter Tryd.func5, Tryd.ntmps5
  go_wp2_with fail
  refine (SM.out _).mono ?_
  rintro e w2 ⟨rfl, hb2⟩
  clear k10 k11 k12 k1f
  have X1_2 := Lib.hid (X1.out.below hb2)
  have HB2 := Lib.hid (more HB1.out (Nat.le_refl _) hb2)
  clear hb2
  obtain ⟨_, k10, k11, k12, k1f⟩ := X1_2.out
  go_wp2_with fail
  refine (CK.out _).mono ?_
  rintro e w3 ⟨rfl, hb3⟩
  clear k10 k11 k12 k1f
  have X1_2_3 := Lib.hid (X1_2.out.below hb3)
  have HB3 := Lib.hid (more HB2.out (Nat.le_refl _) hb3)
  clear hb3
  obtain ⟨_, k10, k11, k12, k1f⟩ := X1_2_3.out
  go_wp2_with fail
  refine (num_any _ _).mono ?_
  rintro e w9 ⟨rfl, hw⟩
  subst hw
  go_wp2_with fail
  refine (PS.out _).mono ?_
  rintro e w4 ⟨rfl, hb4⟩
  clear k10 k11 k12 k1f
  have X1_2_3_4 := Lib.hid (X1_2_3.out.below hb4)
  have HB4 := Lib.hid (more HB3.out (Nat.le_refl _) hb4)
  clear hb4
  have X1_2_3_4_5 := Lib.hid (X1_2_3_4.out.alloc (.cells #[.string ⟨#[]⟩, .string ⟨#[]⟩, .string ⟨#[]⟩] 24))
  have X5 := Lib.hid (Bx.new w4 (.string ⟨#[]⟩) (.string ⟨#[]⟩) (.string ⟨#[]⟩) 24)
  have HB5 := Lib.hid (HB4.out.alloc HB4.out.size (.cells #[.string ⟨#[]⟩, .string ⟨#[]⟩, .string ⟨#[]⟩] 24))
  obtain ⟨_, k10, k11, k12, k1f⟩ := X1_2_3_4_5.out
  obtain ⟨_, k50, k51, k52, k5f⟩ := X5.out
  go_wp2_with fail
  refine (num_any _ _).mono ?_
  rintro e w9 ⟨rfl, hw⟩
  subst hw
  go_wp2_with fail
  refine (L.out _).mono ?_
  rintro e w6 ⟨rfl, hb6⟩
  clear k10 k11 k12 k1f k50 k51 k52 k5f
  have X1_2_3_4_5_6 := Lib.hid (X1_2_3_4_5.out.below hb6)
  have X5_6 := Lib.hid (X5.out.below hb6)
  have HB6 := Lib.hid (more HB5.out (Nat.le_refl _) hb6)
  clear hb6
  obtain ⟨_, k10, k11, k12, k1f⟩ := X1_2_3_4_5_6.out
  obtain ⟨_, k50, k51, k52, k5f⟩ := X5_6.out
  go_wp2_with fail
  go_ret
  exact ⟨rfl, HB6.out⟩
set_option maxRecDepth 100000 in
set_option maxHeartbeats 8000000 in
theorem back_ns (n d r s a b c q : ByteArray) (w : World) (f : decide ((4000 : Int) < s.size) = false)
    (SM : Hid (∀ W, Calls Tryd.prog 13 #[.agg #[.string n, .string d, .string r]] W fun e w' => e = .returned (.bool true) ∧ Below W.heap.size W w'))
    (CK : Hid (∀ W, Calls Tryd.prog 14 #[.agg #[.string n, .string d, .string r]] W fun e w' => e = .returned (.int .i64 30) ∧ Below W.heap.size W w'))
    (PS : Hid (∀ W, Calls Tryd.prog 10 #[.string s] W fun e w' => e = .returned (.tuple #[.agg #[.string a, .string b, .string c], .int .i64 0]) ∧ Below W.heap.size W w'))
    (PU2 : Hid (∀ W, Calls Tryd.prog 16 #[.agg #[.string a, .string b, .string c]] W fun e w' => e = .returned (.string q) ∧ Below W.heap.size W w'))
    (PA2 : Hid (∀ W, Calls Tryd.prog 10 #[.string q] W fun e w' => e = .returned (.tuple #[.agg #[.string a, .string b, .string c], .int .i64 0]) ∧ Below W.heap.size W w'))
    (CK2 : Hid (∀ W, Calls Tryd.prog 14 #[.agg #[.string a, .string b, .string c]] W fun e w' => e = .returned (.int .i64 0) ∧ Below W.heap.size W w')) :
    Calls Tryd.prog 5 #[.agg #[.string n, .string d, .string r], .string s] w fun e w' => e = .returned (.bool true) ∧ Below w.heap.size w w' := by
  have HB0 : Hid (Below w.heap.size w w) := Below.refl _ _
  have L := Lib.hid (fun W => live_any W)
  have X1 := Lib.hid (Bx.new w (.string n) (.string d) (.string r) 24)
  have HB1 := Lib.hid (HB0.out.alloc HB0.out.size (.cells #[.string n, .string d, .string r] 24))
  obtain ⟨_, k10, k11, k12, k1f⟩ := X1.out
  go_enter Tryd.func5, Tryd.ntmps5
  go_wp2_with fail
  refine (SM.out _).mono ?_
  rintro e w2 ⟨rfl, hb2⟩
  clear k10 k11 k12 k1f
  have X1_2 := Lib.hid (X1.out.below hb2)
  have HB2 := Lib.hid (more HB1.out (Nat.le_refl _) hb2)
  clear hb2
  obtain ⟨_, k10, k11, k12, k1f⟩ := X1_2.out
  go_wp2_with fail
  refine (CK.out _).mono ?_
  rintro e w3 ⟨rfl, hb3⟩
  clear k10 k11 k12 k1f
  have X1_2_3 := Lib.hid (X1_2.out.below hb3)
  have HB3 := Lib.hid (more HB2.out (Nat.le_refl _) hb3)
  clear hb3
  obtain ⟨_, k10, k11, k12, k1f⟩ := X1_2_3.out
  go_wp2_with fail
  refine (num_any _ _).mono ?_
  rintro e w9 ⟨rfl, hw⟩
  subst hw
  go_wp2_with fail
  refine (PS.out _).mono ?_
  rintro e w4 ⟨rfl, hb4⟩
  clear k10 k11 k12 k1f
  have X1_2_3_4 := Lib.hid (X1_2_3.out.below hb4)
  have HB4 := Lib.hid (more HB3.out (Nat.le_refl _) hb4)
  clear hb4
  have X1_2_3_4_5 := Lib.hid (X1_2_3_4.out.alloc (.cells #[.string a, .string b, .string c] 24))
  have X5 := Lib.hid (Bx.new w4 (.string a) (.string b) (.string c) 24)
  have HB5 := Lib.hid (HB4.out.alloc HB4.out.size (.cells #[.string a, .string b, .string c] 24))
  obtain ⟨_, k10, k11, k12, k1f⟩ := X1_2_3_4_5.out
  obtain ⟨_, k50, k51, k52, k5f⟩ := X5.out
  go_wp2_with fail
  refine (num_any _ _).mono ?_
  rintro e w9 ⟨rfl, hw⟩
  subst hw
  go_wp2_with fail
  refine (PU2.out _).mono ?_
  rintro e w6 ⟨rfl, hb6⟩
  clear k10 k11 k12 k1f k50 k51 k52 k5f
  have X1_2_3_4_5_6 := Lib.hid (X1_2_3_4_5.out.below hb6)
  have X5_6 := Lib.hid (X5.out.below hb6)
  have HB6 := Lib.hid (more HB5.out (Nat.le_refl _) hb6)
  clear hb6
  obtain ⟨_, k10, k11, k12, k1f⟩ := X1_2_3_4_5_6.out
  obtain ⟨_, k50, k51, k52, k5f⟩ := X5_6.out
  go_wp2_with fail
  refine (PA2.out _).mono ?_
  rintro e w7 ⟨rfl, hb7⟩
  clear k10 k11 k12 k1f k50 k51 k52 k5f
  have X1_2_3_4_5_6_7 := Lib.hid (X1_2_3_4_5_6.out.below hb7)
  have X5_6_7 := Lib.hid (X5_6.out.below hb7)
  have HB7 := Lib.hid (more HB6.out (Nat.le_refl _) hb7)
  clear hb7
  have X1_2_3_4_5_6_7_8 := Lib.hid (X1_2_3_4_5_6_7.out.alloc (.cells #[.string a, .string b, .string c] 24))
  have X5_6_7_8 := Lib.hid (X5_6_7.out.alloc (.cells #[.string a, .string b, .string c] 24))
  have X8 := Lib.hid (Bx.new w7 (.string a) (.string b) (.string c) 24)
  have HB8 := Lib.hid (HB7.out.alloc HB7.out.size (.cells #[.string a, .string b, .string c] 24))
  obtain ⟨_, k10, k11, k12, k1f⟩ := X1_2_3_4_5_6_7_8.out
  obtain ⟨_, k50, k51, k52, k5f⟩ := X5_6_7_8.out
  obtain ⟨_, k80, k81, k82, k8f⟩ := X8.out
  go_wp2_with fail
  refine (CK2.out _).mono ?_
  rintro e w9 ⟨rfl, hb9⟩
  clear k10 k11 k12 k1f k50 k51 k52 k5f k80 k81 k82 k8f
  have X1_2_3_4_5_6_7_8_9 := Lib.hid (X1_2_3_4_5_6_7_8.out.below hb9)
  have X5_6_7_8_9 := Lib.hid (X5_6_7_8.out.below hb9)
  have X8_9 := Lib.hid (X8.out.below hb9)
  have HB9 := Lib.hid (more HB8.out (Nat.le_refl _) hb9)
  clear hb9
  obtain ⟨_, k10, k11, k12, k1f⟩ := X1_2_3_4_5_6_7_8_9.out
  obtain ⟨_, k50, k51, k52, k5f⟩ := X5_6_7_8_9.out
  obtain ⟨_, k80, k81, k82, k8f⟩ := X8_9.out
  go_wp2_with fail
  refine (num_any _ _).mono ?_
  rintro e w9 ⟨rfl, hw⟩
  subst hw
  go_wp2_with fail
  refine (num_any _ _).mono ?_
  rintro e w9 ⟨rfl, hw⟩
  subst hw
  go_wp2_with fail
  refine (L.out _).mono ?_
  rintro e w10 ⟨rfl, hb10⟩
  clear k10 k11 k12 k1f k50 k51 k52 k5f k80 k81 k82 k8f
  have X1_2_3_4_5_6_7_8_9_10 := Lib.hid (X1_2_3_4_5_6_7_8_9.out.below hb10)
  have X5_6_7_8_9_10 := Lib.hid (X5_6_7_8_9.out.below hb10)
  have X8_9_10 := Lib.hid (X8_9.out.below hb10)
  have HB10 := Lib.hid (more HB9.out (Nat.le_refl _) hb10)
  clear hb10
  obtain ⟨_, k10, k11, k12, k1f⟩ := X1_2_3_4_5_6_7_8_9_10.out
  obtain ⟨_, k50, k51, k52, k5f⟩ := X5_6_7_8_9_10.out
  obtain ⟨_, k80, k81, k82, k8f⟩ := X8_9_10.out
  go_wp2_with fail
  go_ret
  exact ⟨rfl, HB10.out⟩
theorem back_walk (n d r s : ByteArray) (w : World) (w1 : n.size ≤ 140737488351232) (w2 : d.size ≤ 140737488351232) (w3 : r.size ≤ 140737488351232) (_w4 : s.size ≤ maxLen) :
    Calls Tryd.prog 5 #[.agg #[.string n, .string d, .string r], .string s] w fun e w' => e = .returned (.bool true) ∧ Below w.heap.size w w' := by
  have SM := Lib.hid (fun W => small_any n d r W w1 w2 w3)
  by_cases hp : (sm n d r && decide (s.size ≤ 4000)) = true
  · rw [Bool.and_eq_true, decide_eq_true_eq] at hp
    obtain ⟨hsm, hs⟩ := hp
    rw [hsm] at SM
    obtain ⟨h1, h2, h3, h4⟩ := sm_le hsm
    have f : decide ((4000 : Int) < s.size) = false := by simp; omega
    cases hv : ok (jd n d r) with
    | true =>
      have CK := Lib.hid (fun W => check_yes3 n d r W (by omega) (by omega) (by omega) hv)
      have PU := Lib.hid (fun W => put_any n d r W (by omega) (by omega) (by omega))
      have PA := Lib.hid (fun W => put_back n d r W (by omega) ((ok_iff _).1 hv))
      have NB := Lib.hid (fun W => norm_back n d r W (by omega) (by omega) (by omega) ((ok_iff _).1 hv))
      cases hq : ps s.data.toList with
      | none => exact back_yn n d r s _ w f SM CK PU PA NB (Lib.hid (fun W => parse_none s W (by omega) hq))
      | some j =>
        have hj := ps_len hq
        have s1 := mk_size j.n
        have s2 := mk_size j.d
        have s3 := mk_size j.r
        have hok := ps_some hq
        rw [← jd_mk j] at hok
        exact back_ys n d r s _ _ _ _ _ w f SM CK PU PA NB (Lib.hid (fun W => parse_some s W (by omega) hq)) (Lib.hid (fun W => put_any (mk j.n) (mk j.d) (mk j.r) W (by omega) (by omega) (by omega)))
          (Lib.hid (fun W => put_back (mk j.n) (mk j.d) (mk j.r) W (by omega) hok)) (Lib.hid (fun W => check_yes3 (mk j.n) (mk j.d) (mk j.r) W (by omega) (by omega) (by omega) ((ok_iff _).2 hok)))
    | false =>
      have CK := Lib.hid (fun W => check_no3 n d r W (by omega) (by omega) (by omega) hv)
      cases hq : ps s.data.toList with
      | none => exact back_nn n d r s w f SM CK (Lib.hid (fun W => parse_none s W (by omega) hq))
      | some j =>
        have hj := ps_len hq
        have s1 := mk_size j.n
        have s2 := mk_size j.d
        have s3 := mk_size j.r
        have hok := ps_some hq
        rw [← jd_mk j] at hok
        exact back_ns n d r s _ _ _ _ w f SM CK (Lib.hid (fun W => parse_some s W (by omega) hq)) (Lib.hid (fun W => put_any (mk j.n) (mk j.d) (mk j.r) W (by omega) (by omega) (by omega)))
          (Lib.hid (fun W => put_back (mk j.n) (mk j.d) (mk j.r) W (by omega) hok)) (Lib.hid (fun W => check_yes3 (mk j.n) (mk j.d) (mk j.r) W (by omega) (by omega) (by omega) ((ok_iff _).2 hok)))
  · exact back_early n d r s w (Bool.eq_false_iff.2 hp) SM
end Go.Proofs.YtddhbhdjjiibbaaDoor
