/- The walk of the law JidParts: an address put together of its parts has just these. Condition: a string takes at most what a machine can hold. -/
import Derived.Test.YtddhbhdjjiibbaaDoorJlc
namespace Go.Proofs.YtddhbhdjjiibbaaDoor
open Go.RowKit Go.Lib Go.Shelf Sg Jd

set_option maxRecDepth 100000 in
set_option maxHeartbeats 8000000 in
theorem parts_s1 (n d r n2 d2 r2 : ByteArray) (w : World)
    (SM1 : Hid (∀ W, Calls Tryd.prog 13 #[.agg #[.string n, .string d, .string r]] W fun e w' => e = .returned (.bool false) ∧ Below W.heap.size W w')) :
    Calls Tryd.prog 7 #[.agg #[.string n, .string d, .string r], .agg #[.string n2, .string d2, .string r2]] w fun e w' => e = .returned (.bool true) ∧ Below w.heap.size w w' := by
  have HB0 : Hid (Below w.heap.size w w) := Below.refl _ _
  have L := Lib.hid (fun W => live_any W)
  have X1 := Lib.hid (Bx.new w (.string n) (.string d) (.string r) 24)
  have HB1 := Lib.hid (HB0.out.alloc HB0.out.size (.cells #[.string n, .string d, .string r] 24))
  have X1_2 := Lib.hid (X1.out.alloc (.cells #[.string n2, .string d2, .string r2] 24))
  have X2 : Hid (Bx (w.heap.size + 1) (.string n2) (.string d2) (.string r2) ((w.alloc (.cells #[.string n, .string d, .string r] 24)).alloc (.cells #[.string n2, .string d2, .string r2] 24))) := by
    have h := Bx.new (w.alloc (.cells #[.string n, .string d, .string r] 24)) (.string n2) (.string d2) (.string r2) 24
    rwa [World.size_alloc] at h
  have HB2 := Lib.hid (HB1.out.alloc HB1.out.size (.cells #[.string n2, .string d2, .string r2] 24))
  obtain ⟨_, k10, k11, k12, k1f⟩ := X1_2.out
  obtain ⟨_, k20, k21, k22, k2f⟩ := X2.out
  go_enter Tryd.func7, Tryd.ntmps7
  go_wp2_with fail
  refine (SM1.out _).mono ?_
  rintro e w3 ⟨rfl, hb3⟩
  clear k10 k11 k12 k1f k20 k21 k22 k2f
  have X1_2_3 := Lib.hid (X1_2.out.below hb3)
  have X2_3 := Lib.hid (X2.out.below hb3)
  have HB3 := Lib.hid (more HB2.out (Nat.le_refl _) hb3)
  clear hb3
  obtain ⟨_, k10, k11, k12, k1f⟩ := X1_2_3.out
  obtain ⟨_, k20, k21, k22, k2f⟩ := X2_3.out
  go_wp2_with fail
  refine (L.out _).mono ?_
  rintro e w4 ⟨rfl, hb4⟩
  clear k10 k11 k12 k1f k20 k21 k22 k2f
  have X1_2_3_4 := Lib.hid (X1_2_3.out.below hb4)
  have X2_3_4 := Lib.hid (X2_3.out.below hb4)
  have HB4 := Lib.hid (more HB3.out (Nat.le_refl _) hb4)
  clear hb4
  obtain ⟨_, k10, k11, k12, k1f⟩ := X1_2_3_4.out
  obtain ⟨_, k20, k21, k22, k2f⟩ := X2_3_4.out
  go_wp2_with fail
  go_ret
  exact ⟨rfl, HB4.out⟩
set_option maxRecDepth 100000 in
set_option maxHeartbeats 8000000 in
theorem parts_s2 (n d r n2 d2 r2 : ByteArray) (w : World)
    (SM1 : Hid (∀ W, Calls Tryd.prog 13 #[.agg #[.string n, .string d, .string r]] W fun e w' => e = .returned (.bool true) ∧ Below W.heap.size W w'))
    (SM2 : Hid (∀ W, Calls Tryd.prog 13 #[.agg #[.string n2, .string d2, .string r2]] W fun e w' => e = .returned (.bool false) ∧ Below W.heap.size W w')) :
    Calls Tryd.prog 7 #[.agg #[.string n, .string d, .string r], .agg #[.string n2, .string d2, .string r2]] w fun e w' => e = .returned (.bool true) ∧ Below w.heap.size w w' := by
  have HB0 : Hid (Below w.heap.size w w) := Below.refl _ _
  have L := Lib.hid (fun W => live_any W)
  have X1 := Lib.hid (Bx.new w (.string n) (.string d) (.string r) 24)
  have HB1 := Lib.hid (HB0.out.alloc HB0.out.size (.cells #[.string n, .string d, .string r] 24))
  have X1_2 := Lib.hid (X1.out.alloc (.cells #[.string n2, .string d2, .string r2] 24))
  have X2 : Hid (Bx (w.heap.size + 1) (.string n2) (.string d2) (.string r2) ((w.alloc (.cells #[.string n, .string d, .string r] 24)).alloc (.cells #[.string n2, .string d2, .string r2] 24))) := by
    have h := Bx.new (w.alloc (.cells #[.string n, .string d, .string r] 24)) (.string n2) (.string d2) (.string r2) 24
    rwa [World.size_alloc] at h
  have HB2 := Lib.hid (HB1.out.alloc HB1.out.size (.cells #[.string n2, .string d2, .string r2] 24))
  obtain ⟨_, k10, k11, k12, k1f⟩ := X1_2.out
  obtain ⟨_, k20, k21, k22, k2f⟩ := X2.out
  go_enter Tryd.func7, Tryd.ntmps7
  go_wp2_with fail
  refine (SM1.out _).mono ?_
  rintro e w3 ⟨rfl, hb3⟩
  clear k10 k11 k12 k1f k20 k21 k22 k2f
  have X1_2_3 := Lib.hid (X1_2.out.below hb3)
  have X2_3 := Lib.hid (X2.out.below hb3)
  have HB3 := Lib.hid (more HB2.out (Nat.le_refl _) hb3)
  clear hb3
  obtain ⟨_, k10, k11, k12, k1f⟩ := X1_2_3.out
  obtain ⟨_, k20, k21, k22, k2f⟩ := X2_3.out
  go_wp2_with fail
  refine (SM2.out _).mono ?_
  rintro e w4 ⟨rfl, hb4⟩
  clear k10 k11 k12 k1f k20 k21 k22 k2f
  have X1_2_3_4 := Lib.hid (X1_2_3.out.below hb4)
  have X2_3_4 := Lib.hid (X2_3.out.below hb4)
  have HB4 := Lib.hid (more HB3.out (Nat.le_refl _) hb4)
  clear hb4
  obtain ⟨_, k10, k11, k12, k1f⟩ := X1_2_3_4.out
  obtain ⟨_, k20, k21, k22, k2f⟩ := X2_3_4.out
  go_wp2_with fail
  refine (L.out _).mono ?_
  rintro e w5 ⟨rfl, hb5⟩
  clear k10 k11 k12 k1f k20 k21 k22 k2f
  have X1_2_3_4_5 := Lib.hid (X1_2_3_4.out.below hb5)
  have X2_3_4_5 := Lib.hid (X2_3_4.out.below hb5)
  have HB5 := Lib.hid (more HB4.out (Nat.le_refl _) hb5)
  clear hb5
  obtain ⟨_, k10, k11, k12, k1f⟩ := X1_2_3_4_5.out
  obtain ⟨_, k20, k21, k22, k2f⟩ := X2_3_4_5.out
  go_wp2_with fail
  go_ret
  exact ⟨rfl, HB5.out⟩
set_option maxRecDepth 100000 in
set_option maxHeartbeats 8000000 in
theorem parts_c1 (n d r n2 d2 r2 : ByteArray) (w : World)
    (SM1 : Hid (∀ W, Calls Tryd.prog 13 #[.agg #[.string n, .string d, .string r]] W fun e w' => e = .returned (.bool true) ∧ Below W.heap.size W w'))
    (SM2 : Hid (∀ W, Calls Tryd.prog 13 #[.agg #[.string n2, .string d2, .string r2]] W fun e w' => e = .returned (.bool true) ∧ Below W.heap.size W w'))
    (CK1 : Hid (∀ W, Calls Tryd.prog 14 #[.agg #[.string n, .string d, .string r]] W fun e w' => e = .returned (.int .i64 30) ∧ Below W.heap.size W w')) :
    Calls Tryd.prog 7 #[.agg #[.string n, .string d, .string r], .agg #[.string n2, .string d2, .string r2]] w fun e w' => e = .returned (.bool true) ∧ Below w.heap.size w w' := by
  have HB0 : Hid (Below w.heap.size w w) := Below.refl _ _
  have L := Lib.hid (fun W => live_any W)
  have X1 := Lib.hid (Bx.new w (.string n) (.string d) (.string r) 24)
  have HB1 := Lib.hid (HB0.out.alloc HB0.out.size (.cells #[.string n, .string d, .string r] 24))
  have X1_2 := Lib.hid (X1.out.alloc (.cells #[.string n2, .string d2, .string r2] 24))
  have X2 : Hid (Bx (w.heap.size + 1) (.string n2) (.string d2) (.string r2) ((w.alloc (.cells #[.string n, .string d, .string r] 24)).alloc (.cells #[.string n2, .string d2, .string r2] 24))) := by
    have h := Bx.new (w.alloc (.cells #[.string n, .string d, .string r] 24)) (.string n2) (.string d2) (.string r2) 24
    rwa [World.size_alloc] at h
  have HB2 := Lib.hid (HB1.out.alloc HB1.out.size (.cells #[.string n2, .string d2, .string r2] 24))
  obtain ⟨_, k10, k11, k12, k1f⟩ := X1_2.out
  obtain ⟨_, k20, k21, k22, k2f⟩ := X2.out
  go_enter Tryd.func7, Tryd.ntmps7
  go_wp2_with fail
  refine (SM1.out _).mono ?_
  rintro e w3 ⟨rfl, hb3⟩
  clear k10 k11 k12 k1f k20 k21 k22 k2f
  have X1_2_3 := Lib.hid (X1_2.out.below hb3)
  have X2_3 := Lib.hid (X2.out.below hb3)
  have HB3 := Lib.hid (more HB2.out (Nat.le_refl _) hb3)
  clear hb3
  obtain ⟨_, k10, k11, k12, k1f⟩ := X1_2_3.out
  obtain ⟨_, k20, k21, k22, k2f⟩ := X2_3.out
  go_wp2_with fail
  refine (SM2.out _).mono ?_
  rintro e w4 ⟨rfl, hb4⟩
  clear k10 k11 k12 k1f k20 k21 k22 k2f
  have X1_2_3_4 := Lib.hid (X1_2_3.out.below hb4)
  have X2_3_4 := Lib.hid (X2_3.out.below hb4)
  have HB4 := Lib.hid (more HB3.out (Nat.le_refl _) hb4)
  clear hb4
  obtain ⟨_, k10, k11, k12, k1f⟩ := X1_2_3_4.out
  obtain ⟨_, k20, k21, k22, k2f⟩ := X2_3_4.out
  go_wp2_with fail
  refine (CK1.out _).mono ?_
  rintro e w5 ⟨rfl, hb5⟩
  clear k10 k11 k12 k1f k20 k21 k22 k2f
  have X1_2_3_4_5 := Lib.hid (X1_2_3_4.out.below hb5)
  have X2_3_4_5 := Lib.hid (X2_3_4.out.below hb5)
  have HB5 := Lib.hid (more HB4.out (Nat.le_refl _) hb5)
  clear hb5
  obtain ⟨_, k10, k11, k12, k1f⟩ := X1_2_3_4_5.out
  obtain ⟨_, k20, k21, k22, k2f⟩ := X2_3_4_5.out
  go_wp2_with fail
  refine (num_any _ _).mono ?_
  rintro e w9 ⟨rfl, hw⟩
  subst hw
  go_wp2_with fail
  refine (L.out _).mono ?_
  rintro e w6 ⟨rfl, hb6⟩
  clear k10 k11 k12 k1f k20 k21 k22 k2f
  have X1_2_3_4_5_6 := Lib.hid (X1_2_3_4_5.out.below hb6)
  have X2_3_4_5_6 := Lib.hid (X2_3_4_5.out.below hb6)
  have HB6 := Lib.hid (more HB5.out (Nat.le_refl _) hb6)
  clear hb6
  obtain ⟨_, k10, k11, k12, k1f⟩ := X1_2_3_4_5_6.out
  obtain ⟨_, k20, k21, k22, k2f⟩ := X2_3_4_5_6.out
  go_wp2_with fail
  go_ret
  exact ⟨rfl, HB6.out⟩
set_option maxRecDepth 100000 in
set_option maxHeartbeats 8000000 in
theorem parts_c2 (n d r n2 d2 r2 : ByteArray) (w : World)
    (SM1 : Hid (∀ W, Calls Tryd.prog 13 #[.agg #[.string n, .string d, .string r]] W fun e w' => e = .returned (.bool true) ∧ Below W.heap.size W w'))
    (SM2 : Hid (∀ W, Calls Tryd.prog 13 #[.agg #[.string n2, .string d2, .string r2]] W fun e w' => e = .returned (.bool true) ∧ Below W.heap.size W w'))
    (CK1 : Hid (∀ W, Calls Tryd.prog 14 #[.agg #[.string n, .string d, .string r]] W fun e w' => e = .returned (.int .i64 0) ∧ Below W.heap.size W w'))
    (CK2 : Hid (∀ W, Calls Tryd.prog 14 #[.agg #[.string n2, .string d2, .string r2]] W fun e w' => e = .returned (.int .i64 30) ∧ Below W.heap.size W w')) :
    Calls Tryd.prog 7 #[.agg #[.string n, .string d, .string r], .agg #[.string n2, .string d2, .string r2]] w fun e w' => e = .returned (.bool true) ∧ Below w.heap.size w w' := by
  have HB0 : Hid (Below w.heap.size w w) := Below.refl _ _
  have L := Lib.hid (fun W => live_any W)
  have X1 := Lib.hid (Bx.new w (.string n) (.string d) (.string r) 24)
  have HB1 := Lib.hid (HB0.out.alloc HB0.out.size (.cells #[.string n, .string d, .string r] 24))
  have X1_2 := Lib.hid (X1.out.alloc (.cells #[.string n2, .string d2, .string r2] 24))
  have X2 : Hid (Bx (w.heap.size + 1) (.string n2) (.string d2) (.string r2) ((w.alloc (.cells #[.string n, .string d, .string r] 24)).alloc (.cells #[.string n2, .string d2, .string r2] 24))) := by
    have h := Bx.new (w.alloc (.cells #[.string n, .string d, .string r] 24)) (.string n2) (.string d2) (.string r2) 24
    rwa [World.size_alloc] at h
  have HB2 := Lib.hid (HB1.out.alloc HB1.out.size (.cells #[.string n2, .string d2, .string r2] 24))
  obtain ⟨_, k10, k11, k12, k1f⟩ := X1_2.out
  obtain ⟨_, k20, k21, k22, k2f⟩ := X2.out
  go_enter Tryd.func7, Tryd.ntmps7
  go_wp2_with fail
  refine (SM1.out _).mono ?_
  rintro e w3 ⟨rfl, hb3⟩
  clear k10 k11 k12 k1f k20 k21 k22 k2f
  have X1_2_3 := Lib.hid (X1_2.out.below hb3)
  have X2_3 := Lib.hid (X2.out.below hb3)
  have HB3 := Lib.hid (more HB2.out (Nat.le_refl _) hb3)
  clear hb3
  obtain ⟨_, k10, k11, k12, k1f⟩ := X1_2_3.out
  obtain ⟨_, k20, k21, k22, k2f⟩ := X2_3.out
  go_wp2_with fail
  refine (SM2.out _).mono ?_
  rintro e w4 ⟨rfl, hb4⟩
  clear k10 k11 k12 k1f k20 k21 k22 k2f
  have X1_2_3_4 := Lib.hid (X1_2_3.out.below hb4)
  have X2_3_4 := Lib.hid (X2_3.out.below hb4)
  have HB4 := Lib.hid (more HB3.out (Nat.le_refl _) hb4)
  clear hb4
  obtain ⟨_, k10, k11, k12, k1f⟩ := X1_2_3_4.out
  obtain ⟨_, k20, k21, k22, k2f⟩ := X2_3_4.out
  go_wp2_with fail
  refine (CK1.out _).mono ?_
  rintro e w5 ⟨rfl, hb5⟩
  clear k10 k11 k12 k1f k20 k21 k22 k2f
  have X1_2_3_4_5 := Lib.hid (X1_2_3_4.out.below hb5)
  have X2_3_4_5 := Lib.hid (X2_3_4.out.below hb5)
  have HB5 := Lib.hid (more HB4.out (Nat.le_refl _) hb5)
  clear hb5
  obtain ⟨_, k10, k11, k12, k1f⟩ := X1_2_3_4_5.out
  obtain ⟨_, k20, k21, k22, k2f⟩ := X2_3_4_5.out
  go_wp2_with fail
  refine (num_any _ _).mono ?_
  rintro e w9 ⟨rfl, hw⟩
  subst hw
  go_wp2_with fail
  refine (CK2.out _).mono ?_
  rintro e w6 ⟨rfl, hb6⟩
  clear k10 k11 k12 k1f k20 k21 k22 k2f
  have X1_2_3_4_5_6 := Lib.hid (X1_2_3_4_5.out.below hb6)
  have X2_3_4_5_6 := Lib.hid (X2_3_4_5.out.below hb6)
  have HB6 := Lib.hid (more HB5.out (Nat.le_refl _) hb6)
  clear hb6
  obtain ⟨_, k10, k11, k12, k1f⟩ := X1_2_3_4_5_6.out
  obtain ⟨_, k20, k21, k22, k2f⟩ := X2_3_4_5_6.out
  go_wp2_with fail
  refine (num_any _ _).mono ?_
  rintro e w9 ⟨rfl, hw⟩
  subst hw
  go_wp2_with fail
  refine (L.out _).mono ?_
  rintro e w7 ⟨rfl, hb7⟩
  clear k10 k11 k12 k1f k20 k21 k22 k2f
  have X1_2_3_4_5_6_7 := Lib.hid (X1_2_3_4_5_6.out.below hb7)
  have X2_3_4_5_6_7 := Lib.hid (X2_3_4_5_6.out.below hb7)
  have HB7 := Lib.hid (more HB6.out (Nat.le_refl _) hb7)
  clear hb7
  obtain ⟨_, k10, k11, k12, k1f⟩ := X1_2_3_4_5_6_7.out
  obtain ⟨_, k20, k21, k22, k2f⟩ := X2_3_4_5_6_7.out
  go_wp2_with fail
  go_ret
  exact ⟨rfl, HB7.out⟩
set_option maxRecDepth 100000 in
set_option maxHeartbeats 8000000 in
theorem parts_same (n d r p : ByteArray) (w : World)
    (SM1 : Hid (∀ W, Calls Tryd.prog 13 #[.agg #[.string n, .string d, .string r]] W fun e w' => e = .returned (.bool true) ∧ Below W.heap.size W w'))
    (CK1 : Hid (∀ W, Calls Tryd.prog 14 #[.agg #[.string n, .string d, .string r]] W fun e w' => e = .returned (.int .i64 0) ∧ Below W.heap.size W w'))
    (PU1 : Hid (∀ W, Calls Tryd.prog 16 #[.agg #[.string n, .string d, .string r]] W fun e w' => e = .returned (.string p) ∧ Below W.heap.size W w'))
    (BA : Hid (∀ W, Calls Tryd.prog 20 #[.agg #[.string n, .string d, .string r]] W fun e w' => e = .returned (.agg #[.string n, .string d, .string ⟨#[]⟩]) ∧ Below W.heap.size W w'))
    (CB : Hid (∀ W, Calls Tryd.prog 14 #[.agg #[.string n, .string d, .string ⟨#[]⟩]] W fun e w' => e = .returned (.int .i64 0) ∧ Below W.heap.size W w'))
    (WI : Hid (∀ W, Calls Tryd.prog 22 #[.agg #[.string n, .string d, .string ⟨#[]⟩], .string r] W fun e w' => e = .returned (.agg #[.string n, .string d, .string r]) ∧ Below W.heap.size W w'))
    (BB : Hid (∀ W, Calls Tryd.prog 20 #[.agg #[.string n, .string d, .string ⟨#[]⟩]] W fun e w' => e = .returned (.agg #[.string n, .string d, .string ⟨#[]⟩]) ∧ Below W.heap.size W w'))
    (WJ : Hid (∀ W, Calls Tryd.prog 22 #[.agg #[.string n, .string d, .string r], .string r] W fun e w' => e = .returned (.agg #[.string n, .string d, .string r]) ∧ Below W.heap.size W w'))
    (BM : Hid (∀ W, Calls Tryd.prog 20 #[.agg #[.string n, .string d, .string r]] W fun e w' => e = .returned (.agg #[.string n, .string d, .string ⟨#[]⟩]) ∧ Below W.heap.size W w')) :
    Calls Tryd.prog 7 #[.agg #[.string n, .string d, .string r], .agg #[.string n, .string d, .string r]] w fun e w' => e = .returned (.bool true) ∧ Below w.heap.size w w' := by
  have HB0 : Hid (Below w.heap.size w w) := Below.refl _ _
  have L := Lib.hid (fun W => live_any W)
  have X1 := Lib.hid (Bx.new w (.string n) (.string d) (.string r) 24)
  have HB1 := Lib.hid (HB0.out.alloc HB0.out.size (.cells #[.string n, .string d, .string r] 24))
  have X1_2 := Lib.hid (X1.out.alloc (.cells #[.string n, .string d, .string r] 24))
  have X2 : Hid (Bx (w.heap.size + 1) (.string n) (.string d) (.string r) ((w.alloc (.cells #[.string n, .string d, .string r] 24)).alloc (.cells #[.string n, .string d, .string r] 24))) := by
    have h := Bx.new (w.alloc (.cells #[.string n, .string d, .string r] 24)) (.string n) (.string d) (.string r) 24
    rwa [World.size_alloc] at h
  have HB2 := Lib.hid (HB1.out.alloc HB1.out.size (.cells #[.string n, .string d, .string r] 24))
  obtain ⟨_, k10, k11, k12, k1f⟩ := X1_2.out
  obtain ⟨_, k20, k21, k22, k2f⟩ := X2.out
  go_enter Tryd.func7, Tryd.ntmps7
  go_wp2_with fail
  refine (SM1.out _).mono ?_
  rintro e w3 ⟨rfl, hb3⟩
  clear k10 k11 k12 k1f k20 k21 k22 k2f
  have X1_2_3 := Lib.hid (X1_2.out.below hb3)
  have X2_3 := Lib.hid (X2.out.below hb3)
  have HB3 := Lib.hid (more HB2.out (Nat.le_refl _) hb3)
  clear hb3
  obtain ⟨_, k10, k11, k12, k1f⟩ := X1_2_3.out
  obtain ⟨_, k20, k21, k22, k2f⟩ := X2_3.out
  go_wp2_with fail
  refine (SM1.out _).mono ?_
  rintro e w4 ⟨rfl, hb4⟩
  clear k10 k11 k12 k1f k20 k21 k22 k2f
  have X1_2_3_4 := Lib.hid (X1_2_3.out.below hb4)
  have X2_3_4 := Lib.hid (X2_3.out.below hb4)
  have HB4 := Lib.hid (more HB3.out (Nat.le_refl _) hb4)
  clear hb4
  obtain ⟨_, k10, k11, k12, k1f⟩ := X1_2_3_4.out
  obtain ⟨_, k20, k21, k22, k2f⟩ := X2_3_4.out
  go_wp2_with fail
  refine (CK1.out _).mono ?_
  rintro e w5 ⟨rfl, hb5⟩
  clear k10 k11 k12 k1f k20 k21 k22 k2f
  have X1_2_3_4_5 := Lib.hid (X1_2_3_4.out.below hb5)
  have X2_3_4_5 := Lib.hid (X2_3_4.out.below hb5)
  have HB5 := Lib.hid (more HB4.out (Nat.le_refl _) hb5)
  clear hb5
  obtain ⟨_, k10, k11, k12, k1f⟩ := X1_2_3_4_5.out
  obtain ⟨_, k20, k21, k22, k2f⟩ := X2_3_4_5.out
  go_wp2_with fail
  refine (num_any _ _).mono ?_
  rintro e w9 ⟨rfl, hw⟩
  subst hw
  go_wp2_with fail
  refine (CK1.out _).mono ?_
  rintro e w6 ⟨rfl, hb6⟩
  clear k10 k11 k12 k1f k20 k21 k22 k2f
  have X1_2_3_4_5_6 := Lib.hid (X1_2_3_4_5.out.below hb6)
  have X2_3_4_5_6 := Lib.hid (X2_3_4_5.out.below hb6)
  have HB6 := Lib.hid (more HB5.out (Nat.le_refl _) hb6)
  clear hb6
  obtain ⟨_, k10, k11, k12, k1f⟩ := X1_2_3_4_5_6.out
  obtain ⟨_, k20, k21, k22, k2f⟩ := X2_3_4_5_6.out
  go_wp2_with fail
  refine (num_any _ _).mono ?_
  rintro e w9 ⟨rfl, hw⟩
  subst hw
  go_wp2_with fail
  refine (BA.out _).mono ?_
  rintro e w7 ⟨rfl, hb7⟩
  clear k10 k11 k12 k1f k20 k21 k22 k2f
  have X1_2_3_4_5_6_7 := Lib.hid (X1_2_3_4_5_6.out.below hb7)
  have X2_3_4_5_6_7 := Lib.hid (X2_3_4_5_6.out.below hb7)
  have HB7 := Lib.hid (more HB6.out (Nat.le_refl _) hb7)
  clear hb7
  obtain ⟨_, pk10, pk11, pk12, pk1f⟩ := X1_2_3_4_5_6_7.out
  obtain ⟨_, pk20, pk21, pk22, pk2f⟩ := X2_3_4_5_6_7.out
  have X1_2_3_4_5_6_7_8 := Lib.hid (X1_2_3_4_5_6_7.out.alloc (.cells #[.string n, .string d, .string ⟨#[]⟩] 24))
  have X2_3_4_5_6_7_8 := Lib.hid (X2_3_4_5_6_7.out.alloc (.cells #[.string n, .string d, .string ⟨#[]⟩] 24))
  have X8 := Lib.hid (Bx.new w7 (.string n) (.string d) (.string ⟨#[]⟩) 24)
  have HB8 := Lib.hid (HB7.out.alloc HB7.out.size (.cells #[.string n, .string d, .string ⟨#[]⟩] 24))
  obtain ⟨_, k10, k11, k12, k1f⟩ := X1_2_3_4_5_6_7_8.out
  obtain ⟨_, k20, k21, k22, k2f⟩ := X2_3_4_5_6_7_8.out
  obtain ⟨_, k80, k81, k82, k8f⟩ := X8.out
  go_wp2_with fail
  have yk10 := fun (x : Ext _) => ext_cell x k10
  have yk11 := fun (x : Ext _) => ext_cell x k11
  have yk12 := fun (x : Ext _) => ext_cell x k12
  have yk20 := fun (x : Ext _) => ext_cell x k20
  have yk21 := fun (x : Ext _) => ext_cell x k21
  have yk22 := fun (x : Ext _) => ext_cell x k22
  have yk80 := fun (x : Ext _) => ext_cell x k80
  have yk81 := fun (x : Ext _) => ext_cell x k81
  have yk82 := fun (x : Ext _) => ext_cell x k82
  clear k10 k11 k12 k1f k20 k21 k22 k2f k80 k81 k82 k8f pk10 pk11 pk12 pk1f pk20 pk21 pk22 pk2f
  refine ext_region (by kernel_rfl) (by kernel_rfl) ?_
  repeat (go_big_quiet_step ((first | (go_at_call 14; with_reducible exact ext_call _ (CB.out _)) | (go_at_call 12; with_reducible exact ext_same _ (num_any _ _)) | (go_at_call 9; with_reducible exact ext_call _ (L.out _)) | (go_at_call 22; with_reducible exact ext_call _ (WI.out _)) | (go_at_call 22; with_reducible exact ext_call _ (WJ.out _)) | (go_at_call 20; with_reducible exact ext_call _ (BB.out _)) | (go_at_call 20; with_reducible exact ext_call _ (BM.out _)) | (go_at_call 16; with_reducible exact ext_call _ (PU1.out _)))))
  refine wpQuiet_nil ?_
  rintro _ ⟨x9, hx⟩
  subst hx
  clear yk10 yk11 yk12 yk20 yk21 yk22 yk80 yk81 yk82
  have X1_2_3_4_5_6_7_8_9 := Lib.hid (X1_2_3_4_5_6_7_8.out.below x9.below)
  have X2_3_4_5_6_7_8_9 := Lib.hid (X2_3_4_5_6_7_8.out.below x9.below)
  have X8_9 := Lib.hid (X8.out.below x9.below)
  have HB9 := Lib.hid (more HB8.out (Nat.le_refl _) x9.below)
  obtain ⟨_, k10, k11, k12, k1f⟩ := X1_2_3_4_5_6_7_8_9.out
  obtain ⟨_, k20, k21, k22, k2f⟩ := X2_3_4_5_6_7_8_9.out
  obtain ⟨_, k80, k81, k82, k8f⟩ := X8_9.out
  go_wp2_with fail
  go_ret
  exact ⟨rfl, HB9.out⟩
set_option maxRecDepth 100000 in
set_option maxHeartbeats 8000000 in
theorem parts_other (n d r n2 d2 r2 p q : ByteArray) (w : World)
    (SM1 : Hid (∀ W, Calls Tryd.prog 13 #[.agg #[.string n, .string d, .string r]] W fun e w' => e = .returned (.bool true) ∧ Below W.heap.size W w'))
    (SM2 : Hid (∀ W, Calls Tryd.prog 13 #[.agg #[.string n2, .string d2, .string r2]] W fun e w' => e = .returned (.bool true) ∧ Below W.heap.size W w'))
    (CK1 : Hid (∀ W, Calls Tryd.prog 14 #[.agg #[.string n, .string d, .string r]] W fun e w' => e = .returned (.int .i64 0) ∧ Below W.heap.size W w'))
    (CK2 : Hid (∀ W, Calls Tryd.prog 14 #[.agg #[.string n2, .string d2, .string r2]] W fun e w' => e = .returned (.int .i64 0) ∧ Below W.heap.size W w'))
    (PU1 : Hid (∀ W, Calls Tryd.prog 16 #[.agg #[.string n, .string d, .string r]] W fun e w' => e = .returned (.string p) ∧ Below W.heap.size W w'))
    (BA : Hid (∀ W, Calls Tryd.prog 20 #[.agg #[.string n, .string d, .string r]] W fun e w' => e = .returned (.agg #[.string n, .string d, .string ⟨#[]⟩]) ∧ Below W.heap.size W w'))
    (CB : Hid (∀ W, Calls Tryd.prog 14 #[.agg #[.string n, .string d, .string ⟨#[]⟩]] W fun e w' => e = .returned (.int .i64 0) ∧ Below W.heap.size W w'))
    (WI : Hid (∀ W, Calls Tryd.prog 22 #[.agg #[.string n, .string d, .string ⟨#[]⟩], .string r] W fun e w' => e = .returned (.agg #[.string n, .string d, .string r]) ∧ Below W.heap.size W w'))
    (BB : Hid (∀ W, Calls Tryd.prog 20 #[.agg #[.string n, .string d, .string ⟨#[]⟩]] W fun e w' => e = .returned (.agg #[.string n, .string d, .string ⟨#[]⟩]) ∧ Below W.heap.size W w'))
    (PU2 : Hid (∀ W, Calls Tryd.prog 16 #[.agg #[.string n2, .string d2, .string r2]] W fun e w' => e = .returned (.string q) ∧ Below W.heap.size W w'))
    (WJ : Hid (∀ W, Calls Tryd.prog 22 #[.agg #[.string n, .string d, .string r], .string r2] W fun e w' => e = .returned (.agg #[.string n, .string d, .string r2]) ∧ Below W.heap.size W w'))
    (BM : Hid (∀ W, Calls Tryd.prog 20 #[.agg #[.string n, .string d, .string r2]] W fun e w' => e = .returned (.agg #[.string n, .string d, .string ⟨#[]⟩]) ∧ Below W.heap.size W w'))
    (hpq : (p.toList == q.toList) = false) (hne : ¬ (n = n2 ∧ d = d2 ∧ r = r2)) :
    Calls Tryd.prog 7 #[.agg #[.string n, .string d, .string r], .agg #[.string n2, .string d2, .string r2]] w fun e w' => e = .returned (.bool true) ∧ Below w.heap.size w w' := by
  have HB0 : Hid (Below w.heap.size w w) := Below.refl _ _
  have L := Lib.hid (fun W => live_any W)
  have HN := Lib.hid hne
  clear hne
  by_cases hn : n.toList = n2.toList
  · have en := toList_inj hn
    subst en
    clear hn
    by_cases hd : d.toList = d2.toList
    · have ed := toList_inj hd
      subst ed
      clear hd
      have hr : ¬ r.toList = r2.toList := fun h => HN.out ⟨rfl, rfl, toList_inj h⟩
      clear HN
      have X1 := Lib.hid (Bx.new w (.string n) (.string d) (.string r) 24)
      have HB1 := Lib.hid (HB0.out.alloc HB0.out.size (.cells #[.string n, .string d, .string r] 24))
      have X1_2 := Lib.hid (X1.out.alloc (.cells #[.string n, .string d, .string r2] 24))
      have X2 : Hid (Bx (w.heap.size + 1) (.string n) (.string d) (.string r2) ((w.alloc (.cells #[.string n, .string d, .string r] 24)).alloc (.cells #[.string n, .string d, .string r2] 24))) := by
        have h := Bx.new (w.alloc (.cells #[.string n, .string d, .string r] 24)) (.string n) (.string d) (.string r2) 24
        rwa [World.size_alloc] at h
      have HB2 := Lib.hid (HB1.out.alloc HB1.out.size (.cells #[.string n, .string d, .string r2] 24))
      obtain ⟨_, k10, k11, k12, k1f⟩ := X1_2.out
      obtain ⟨_, k20, k21, k22, k2f⟩ := X2.out
      go_enter Tryd.func7, Tryd.ntmps7
      go_wp2_with fail
      refine (SM1.out _).mono ?_
      rintro e w3 ⟨rfl, hb3⟩
      clear k10 k11 k12 k1f k20 k21 k22 k2f
      have X1_2_3 := Lib.hid (X1_2.out.below hb3)
      have X2_3 := Lib.hid (X2.out.below hb3)
      have HB3 := Lib.hid (more HB2.out (Nat.le_refl _) hb3)
      clear hb3
      obtain ⟨_, k10, k11, k12, k1f⟩ := X1_2_3.out
      obtain ⟨_, k20, k21, k22, k2f⟩ := X2_3.out
      go_wp2_with fail
      refine (SM2.out _).mono ?_
      rintro e w4 ⟨rfl, hb4⟩
      clear k10 k11 k12 k1f k20 k21 k22 k2f
      have X1_2_3_4 := Lib.hid (X1_2_3.out.below hb4)
      have X2_3_4 := Lib.hid (X2_3.out.below hb4)
      have HB4 := Lib.hid (more HB3.out (Nat.le_refl _) hb4)
      clear hb4
      obtain ⟨_, k10, k11, k12, k1f⟩ := X1_2_3_4.out
      obtain ⟨_, k20, k21, k22, k2f⟩ := X2_3_4.out
      go_wp2_with fail
      refine (CK1.out _).mono ?_
      rintro e w5 ⟨rfl, hb5⟩
      clear k10 k11 k12 k1f k20 k21 k22 k2f
      have X1_2_3_4_5 := Lib.hid (X1_2_3_4.out.below hb5)
      have X2_3_4_5 := Lib.hid (X2_3_4.out.below hb5)
      have HB5 := Lib.hid (more HB4.out (Nat.le_refl _) hb5)
      clear hb5
      obtain ⟨_, k10, k11, k12, k1f⟩ := X1_2_3_4_5.out
      obtain ⟨_, k20, k21, k22, k2f⟩ := X2_3_4_5.out
      go_wp2_with fail
      refine (num_any _ _).mono ?_
      rintro e w9 ⟨rfl, hw⟩
      subst hw
      go_wp2_with fail
      refine (CK2.out _).mono ?_
      rintro e w6 ⟨rfl, hb6⟩
      clear k10 k11 k12 k1f k20 k21 k22 k2f
      have X1_2_3_4_5_6 := Lib.hid (X1_2_3_4_5.out.below hb6)
      have X2_3_4_5_6 := Lib.hid (X2_3_4_5.out.below hb6)
      have HB6 := Lib.hid (more HB5.out (Nat.le_refl _) hb6)
      clear hb6
      obtain ⟨_, k10, k11, k12, k1f⟩ := X1_2_3_4_5_6.out
      obtain ⟨_, k20, k21, k22, k2f⟩ := X2_3_4_5_6.out
      go_wp2_with fail
      refine (num_any _ _).mono ?_
      rintro e w9 ⟨rfl, hw⟩
      subst hw
      go_wp2_with fail
      refine (BA.out _).mono ?_
      rintro e w7 ⟨rfl, hb7⟩
      clear k10 k11 k12 k1f k20 k21 k22 k2f
      have X1_2_3_4_5_6_7 := Lib.hid (X1_2_3_4_5_6.out.below hb7)
      have X2_3_4_5_6_7 := Lib.hid (X2_3_4_5_6.out.below hb7)
      have HB7 := Lib.hid (more HB6.out (Nat.le_refl _) hb7)
      clear hb7
      obtain ⟨_, pk10, pk11, pk12, pk1f⟩ := X1_2_3_4_5_6_7.out
      obtain ⟨_, pk20, pk21, pk22, pk2f⟩ := X2_3_4_5_6_7.out
      have X1_2_3_4_5_6_7_8 := Lib.hid (X1_2_3_4_5_6_7.out.alloc (.cells #[.string n, .string d, .string ⟨#[]⟩] 24))
      have X2_3_4_5_6_7_8 := Lib.hid (X2_3_4_5_6_7.out.alloc (.cells #[.string n, .string d, .string ⟨#[]⟩] 24))
      have X8 := Lib.hid (Bx.new w7 (.string n) (.string d) (.string ⟨#[]⟩) 24)
      have HB8 := Lib.hid (HB7.out.alloc HB7.out.size (.cells #[.string n, .string d, .string ⟨#[]⟩] 24))
      obtain ⟨_, k10, k11, k12, k1f⟩ := X1_2_3_4_5_6_7_8.out
      obtain ⟨_, k20, k21, k22, k2f⟩ := X2_3_4_5_6_7_8.out
      obtain ⟨_, k80, k81, k82, k8f⟩ := X8.out
      go_wp2_with fail
      have yk10 := fun (x : Ext _) => ext_cell x k10
      have yk11 := fun (x : Ext _) => ext_cell x k11
      have yk12 := fun (x : Ext _) => ext_cell x k12
      have yk20 := fun (x : Ext _) => ext_cell x k20
      have yk21 := fun (x : Ext _) => ext_cell x k21
      have yk22 := fun (x : Ext _) => ext_cell x k22
      have yk80 := fun (x : Ext _) => ext_cell x k80
      have yk81 := fun (x : Ext _) => ext_cell x k81
      have yk82 := fun (x : Ext _) => ext_cell x k82
      clear k10 k11 k12 k1f k20 k21 k22 k2f k80 k81 k82 k8f pk10 pk11 pk12 pk1f pk20 pk21 pk22 pk2f
      refine ext_region (by kernel_rfl) (by kernel_rfl) ?_
      repeat (go_big_quiet_step ((first | (go_at_call 14; with_reducible exact ext_call _ (CB.out _)) | (go_at_call 12; with_reducible exact ext_same _ (num_any _ _)) | (go_at_call 9; with_reducible exact ext_call _ (L.out _)) | (go_at_call 22; with_reducible exact ext_call _ (WI.out _)) | (go_at_call 22; with_reducible exact ext_call _ (WJ.out _)) | (go_at_call 20; with_reducible exact ext_call _ (BB.out _)) | (go_at_call 20; with_reducible exact ext_call _ (BM.out _)) | (go_at_call 16; with_reducible exact ext_call _ (PU1.out _)) | (go_at_call 16; with_reducible exact ext_call _ (PU2.out _)))))
      refine wpQuiet_nil ?_
      rintro _ ⟨x9, hx⟩
      subst hx
      clear yk10 yk11 yk12 yk20 yk21 yk22 yk80 yk81 yk82
      have X1_2_3_4_5_6_7_8_9 := Lib.hid (X1_2_3_4_5_6_7_8.out.below x9.below)
      have X2_3_4_5_6_7_8_9 := Lib.hid (X2_3_4_5_6_7_8.out.below x9.below)
      have X8_9 := Lib.hid (X8.out.below x9.below)
      have HB9 := Lib.hid (more HB8.out (Nat.le_refl _) x9.below)
      obtain ⟨_, k10, k11, k12, k1f⟩ := X1_2_3_4_5_6_7_8_9.out
      obtain ⟨_, k20, k21, k22, k2f⟩ := X2_3_4_5_6_7_8_9.out
      obtain ⟨_, k80, k81, k82, k8f⟩ := X8_9.out
      go_wp2_with fail
      go_ret
      exact ⟨rfl, HB9.out⟩
    · clear HN
      have X1 := Lib.hid (Bx.new w (.string n) (.string d) (.string r) 24)
      have HB1 := Lib.hid (HB0.out.alloc HB0.out.size (.cells #[.string n, .string d, .string r] 24))
      have X1_2 := Lib.hid (X1.out.alloc (.cells #[.string n, .string d2, .string r2] 24))
      have X2 : Hid (Bx (w.heap.size + 1) (.string n) (.string d2) (.string r2) ((w.alloc (.cells #[.string n, .string d, .string r] 24)).alloc (.cells #[.string n, .string d2, .string r2] 24))) := by
        have h := Bx.new (w.alloc (.cells #[.string n, .string d, .string r] 24)) (.string n) (.string d2) (.string r2) 24
        rwa [World.size_alloc] at h
      have HB2 := Lib.hid (HB1.out.alloc HB1.out.size (.cells #[.string n, .string d2, .string r2] 24))
      obtain ⟨_, k10, k11, k12, k1f⟩ := X1_2.out
      obtain ⟨_, k20, k21, k22, k2f⟩ := X2.out
      go_enter Tryd.func7, Tryd.ntmps7
      go_wp2_with fail
      refine (SM1.out _).mono ?_
      rintro e w3 ⟨rfl, hb3⟩
      clear k10 k11 k12 k1f k20 k21 k22 k2f
      have X1_2_3 := Lib.hid (X1_2.out.below hb3)
      have X2_3 := Lib.hid (X2.out.below hb3)
      have HB3 := Lib.hid (more HB2.out (Nat.le_refl _) hb3)
      clear hb3
      obtain ⟨_, k10, k11, k12, k1f⟩ := X1_2_3.out
      obtain ⟨_, k20, k21, k22, k2f⟩ := X2_3.out
      go_wp2_with fail
      refine (SM2.out _).mono ?_
      rintro e w4 ⟨rfl, hb4⟩
      clear k10 k11 k12 k1f k20 k21 k22 k2f
      have X1_2_3_4 := Lib.hid (X1_2_3.out.below hb4)
      have X2_3_4 := Lib.hid (X2_3.out.below hb4)
      have HB4 := Lib.hid (more HB3.out (Nat.le_refl _) hb4)
      clear hb4
      obtain ⟨_, k10, k11, k12, k1f⟩ := X1_2_3_4.out
      obtain ⟨_, k20, k21, k22, k2f⟩ := X2_3_4.out
      go_wp2_with fail
      refine (CK1.out _).mono ?_
      rintro e w5 ⟨rfl, hb5⟩
      clear k10 k11 k12 k1f k20 k21 k22 k2f
      have X1_2_3_4_5 := Lib.hid (X1_2_3_4.out.below hb5)
      have X2_3_4_5 := Lib.hid (X2_3_4.out.below hb5)
      have HB5 := Lib.hid (more HB4.out (Nat.le_refl _) hb5)
      clear hb5
      obtain ⟨_, k10, k11, k12, k1f⟩ := X1_2_3_4_5.out
      obtain ⟨_, k20, k21, k22, k2f⟩ := X2_3_4_5.out
      go_wp2_with fail
      refine (num_any _ _).mono ?_
      rintro e w9 ⟨rfl, hw⟩
      subst hw
      go_wp2_with fail
      refine (CK2.out _).mono ?_
      rintro e w6 ⟨rfl, hb6⟩
      clear k10 k11 k12 k1f k20 k21 k22 k2f
      have X1_2_3_4_5_6 := Lib.hid (X1_2_3_4_5.out.below hb6)
      have X2_3_4_5_6 := Lib.hid (X2_3_4_5.out.below hb6)
      have HB6 := Lib.hid (more HB5.out (Nat.le_refl _) hb6)
      clear hb6
      obtain ⟨_, k10, k11, k12, k1f⟩ := X1_2_3_4_5_6.out
      obtain ⟨_, k20, k21, k22, k2f⟩ := X2_3_4_5_6.out
      go_wp2_with fail
      refine (num_any _ _).mono ?_
      rintro e w9 ⟨rfl, hw⟩
      subst hw
      go_wp2_with fail
      refine (BA.out _).mono ?_
      rintro e w7 ⟨rfl, hb7⟩
      clear k10 k11 k12 k1f k20 k21 k22 k2f
      have X1_2_3_4_5_6_7 := Lib.hid (X1_2_3_4_5_6.out.below hb7)
      have X2_3_4_5_6_7 := Lib.hid (X2_3_4_5_6.out.below hb7)
      have HB7 := Lib.hid (more HB6.out (Nat.le_refl _) hb7)
      clear hb7
      obtain ⟨_, pk10, pk11, pk12, pk1f⟩ := X1_2_3_4_5_6_7.out
      obtain ⟨_, pk20, pk21, pk22, pk2f⟩ := X2_3_4_5_6_7.out
      have X1_2_3_4_5_6_7_8 := Lib.hid (X1_2_3_4_5_6_7.out.alloc (.cells #[.string n, .string d, .string ⟨#[]⟩] 24))
      have X2_3_4_5_6_7_8 := Lib.hid (X2_3_4_5_6_7.out.alloc (.cells #[.string n, .string d, .string ⟨#[]⟩] 24))
      have X8 := Lib.hid (Bx.new w7 (.string n) (.string d) (.string ⟨#[]⟩) 24)
      have HB8 := Lib.hid (HB7.out.alloc HB7.out.size (.cells #[.string n, .string d, .string ⟨#[]⟩] 24))
      obtain ⟨_, k10, k11, k12, k1f⟩ := X1_2_3_4_5_6_7_8.out
      obtain ⟨_, k20, k21, k22, k2f⟩ := X2_3_4_5_6_7_8.out
      obtain ⟨_, k80, k81, k82, k8f⟩ := X8.out
      go_wp2_with fail
      have yk10 := fun (x : Ext _) => ext_cell x k10
      have yk11 := fun (x : Ext _) => ext_cell x k11
      have yk12 := fun (x : Ext _) => ext_cell x k12
      have yk20 := fun (x : Ext _) => ext_cell x k20
      have yk21 := fun (x : Ext _) => ext_cell x k21
      have yk22 := fun (x : Ext _) => ext_cell x k22
      have yk80 := fun (x : Ext _) => ext_cell x k80
      have yk81 := fun (x : Ext _) => ext_cell x k81
      have yk82 := fun (x : Ext _) => ext_cell x k82
      clear k10 k11 k12 k1f k20 k21 k22 k2f k80 k81 k82 k8f pk10 pk11 pk12 pk1f pk20 pk21 pk22 pk2f
      refine ext_region (by kernel_rfl) (by kernel_rfl) ?_
      repeat (go_big_quiet_step ((first | (go_at_call 14; with_reducible exact ext_call _ (CB.out _)) | (go_at_call 12; with_reducible exact ext_same _ (num_any _ _)) | (go_at_call 9; with_reducible exact ext_call _ (L.out _)) | (go_at_call 22; with_reducible exact ext_call _ (WI.out _)) | (go_at_call 22; with_reducible exact ext_call _ (WJ.out _)) | (go_at_call 20; with_reducible exact ext_call _ (BB.out _)) | (go_at_call 20; with_reducible exact ext_call _ (BM.out _)) | (go_at_call 16; with_reducible exact ext_call _ (PU1.out _)) | (go_at_call 16; with_reducible exact ext_call _ (PU2.out _)))))
      refine wpQuiet_nil ?_
      rintro _ ⟨x9, hx⟩
      subst hx
      clear yk10 yk11 yk12 yk20 yk21 yk22 yk80 yk81 yk82
      have X1_2_3_4_5_6_7_8_9 := Lib.hid (X1_2_3_4_5_6_7_8.out.below x9.below)
      have X2_3_4_5_6_7_8_9 := Lib.hid (X2_3_4_5_6_7_8.out.below x9.below)
      have X8_9 := Lib.hid (X8.out.below x9.below)
      have HB9 := Lib.hid (more HB8.out (Nat.le_refl _) x9.below)
      obtain ⟨_, k10, k11, k12, k1f⟩ := X1_2_3_4_5_6_7_8_9.out
      obtain ⟨_, k20, k21, k22, k2f⟩ := X2_3_4_5_6_7_8_9.out
      obtain ⟨_, k80, k81, k82, k8f⟩ := X8_9.out
      go_wp2_with fail
      go_ret
      exact ⟨rfl, HB9.out⟩
  · clear HN
    have X1 := Lib.hid (Bx.new w (.string n) (.string d) (.string r) 24)
    have HB1 := Lib.hid (HB0.out.alloc HB0.out.size (.cells #[.string n, .string d, .string r] 24))
    have X1_2 := Lib.hid (X1.out.alloc (.cells #[.string n2, .string d2, .string r2] 24))
    have X2 : Hid (Bx (w.heap.size + 1) (.string n2) (.string d2) (.string r2) ((w.alloc (.cells #[.string n, .string d, .string r] 24)).alloc (.cells #[.string n2, .string d2, .string r2] 24))) := by
      have h := Bx.new (w.alloc (.cells #[.string n, .string d, .string r] 24)) (.string n2) (.string d2) (.string r2) 24
      rwa [World.size_alloc] at h
    have HB2 := Lib.hid (HB1.out.alloc HB1.out.size (.cells #[.string n2, .string d2, .string r2] 24))
    obtain ⟨_, k10, k11, k12, k1f⟩ := X1_2.out
    obtain ⟨_, k20, k21, k22, k2f⟩ := X2.out
    go_enter Tryd.func7, Tryd.ntmps7
    go_wp2_with fail
    refine (SM1.out _).mono ?_
    rintro e w3 ⟨rfl, hb3⟩
    clear k10 k11 k12 k1f k20 k21 k22 k2f
    have X1_2_3 := Lib.hid (X1_2.out.below hb3)
    have X2_3 := Lib.hid (X2.out.below hb3)
    have HB3 := Lib.hid (more HB2.out (Nat.le_refl _) hb3)
    clear hb3
    obtain ⟨_, k10, k11, k12, k1f⟩ := X1_2_3.out
    obtain ⟨_, k20, k21, k22, k2f⟩ := X2_3.out
    go_wp2_with fail
    refine (SM2.out _).mono ?_
    rintro e w4 ⟨rfl, hb4⟩
    clear k10 k11 k12 k1f k20 k21 k22 k2f
    have X1_2_3_4 := Lib.hid (X1_2_3.out.below hb4)
    have X2_3_4 := Lib.hid (X2_3.out.below hb4)
    have HB4 := Lib.hid (more HB3.out (Nat.le_refl _) hb4)
    clear hb4
    obtain ⟨_, k10, k11, k12, k1f⟩ := X1_2_3_4.out
    obtain ⟨_, k20, k21, k22, k2f⟩ := X2_3_4.out
    go_wp2_with fail
    refine (CK1.out _).mono ?_
    rintro e w5 ⟨rfl, hb5⟩
    clear k10 k11 k12 k1f k20 k21 k22 k2f
    have X1_2_3_4_5 := Lib.hid (X1_2_3_4.out.below hb5)
    have X2_3_4_5 := Lib.hid (X2_3_4.out.below hb5)
    have HB5 := Lib.hid (more HB4.out (Nat.le_refl _) hb5)
    clear hb5
    obtain ⟨_, k10, k11, k12, k1f⟩ := X1_2_3_4_5.out
    obtain ⟨_, k20, k21, k22, k2f⟩ := X2_3_4_5.out
    go_wp2_with fail
    refine (num_any _ _).mono ?_
    rintro e w9 ⟨rfl, hw⟩
    subst hw
    go_wp2_with fail
    refine (CK2.out _).mono ?_
    rintro e w6 ⟨rfl, hb6⟩
    clear k10 k11 k12 k1f k20 k21 k22 k2f
    have X1_2_3_4_5_6 := Lib.hid (X1_2_3_4_5.out.below hb6)
    have X2_3_4_5_6 := Lib.hid (X2_3_4_5.out.below hb6)
    have HB6 := Lib.hid (more HB5.out (Nat.le_refl _) hb6)
    clear hb6
    obtain ⟨_, k10, k11, k12, k1f⟩ := X1_2_3_4_5_6.out
    obtain ⟨_, k20, k21, k22, k2f⟩ := X2_3_4_5_6.out
    go_wp2_with fail
    refine (num_any _ _).mono ?_
    rintro e w9 ⟨rfl, hw⟩
    subst hw
    go_wp2_with fail
    refine (BA.out _).mono ?_
    rintro e w7 ⟨rfl, hb7⟩
    clear k10 k11 k12 k1f k20 k21 k22 k2f
    have X1_2_3_4_5_6_7 := Lib.hid (X1_2_3_4_5_6.out.below hb7)
    have X2_3_4_5_6_7 := Lib.hid (X2_3_4_5_6.out.below hb7)
    have HB7 := Lib.hid (more HB6.out (Nat.le_refl _) hb7)
    clear hb7
    obtain ⟨_, pk10, pk11, pk12, pk1f⟩ := X1_2_3_4_5_6_7.out
    obtain ⟨_, pk20, pk21, pk22, pk2f⟩ := X2_3_4_5_6_7.out
    have X1_2_3_4_5_6_7_8 := Lib.hid (X1_2_3_4_5_6_7.out.alloc (.cells #[.string n, .string d, .string ⟨#[]⟩] 24))
    have X2_3_4_5_6_7_8 := Lib.hid (X2_3_4_5_6_7.out.alloc (.cells #[.string n, .string d, .string ⟨#[]⟩] 24))
    have X8 := Lib.hid (Bx.new w7 (.string n) (.string d) (.string ⟨#[]⟩) 24)
    have HB8 := Lib.hid (HB7.out.alloc HB7.out.size (.cells #[.string n, .string d, .string ⟨#[]⟩] 24))
    obtain ⟨_, k10, k11, k12, k1f⟩ := X1_2_3_4_5_6_7_8.out
    obtain ⟨_, k20, k21, k22, k2f⟩ := X2_3_4_5_6_7_8.out
    obtain ⟨_, k80, k81, k82, k8f⟩ := X8.out
    go_wp2_with fail
    have yk10 := fun (x : Ext _) => ext_cell x k10
    have yk11 := fun (x : Ext _) => ext_cell x k11
    have yk12 := fun (x : Ext _) => ext_cell x k12
    have yk20 := fun (x : Ext _) => ext_cell x k20
    have yk21 := fun (x : Ext _) => ext_cell x k21
    have yk22 := fun (x : Ext _) => ext_cell x k22
    have yk80 := fun (x : Ext _) => ext_cell x k80
    have yk81 := fun (x : Ext _) => ext_cell x k81
    have yk82 := fun (x : Ext _) => ext_cell x k82
    clear k10 k11 k12 k1f k20 k21 k22 k2f k80 k81 k82 k8f pk10 pk11 pk12 pk1f pk20 pk21 pk22 pk2f
    refine ext_region (by kernel_rfl) (by kernel_rfl) ?_
    repeat (go_big_quiet_step ((first | (go_at_call 14; with_reducible exact ext_call _ (CB.out _)) | (go_at_call 12; with_reducible exact ext_same _ (num_any _ _)) | (go_at_call 9; with_reducible exact ext_call _ (L.out _)) | (go_at_call 22; with_reducible exact ext_call _ (WI.out _)) | (go_at_call 22; with_reducible exact ext_call _ (WJ.out _)) | (go_at_call 20; with_reducible exact ext_call _ (BB.out _)) | (go_at_call 20; with_reducible exact ext_call _ (BM.out _)) | (go_at_call 16; with_reducible exact ext_call _ (PU1.out _)) | (go_at_call 16; with_reducible exact ext_call _ (PU2.out _)))))
    refine wpQuiet_nil ?_
    rintro _ ⟨x9, hx⟩
    subst hx
    clear yk10 yk11 yk12 yk20 yk21 yk22 yk80 yk81 yk82
    have X1_2_3_4_5_6_7_8_9 := Lib.hid (X1_2_3_4_5_6_7_8.out.below x9.below)
    have X2_3_4_5_6_7_8_9 := Lib.hid (X2_3_4_5_6_7_8.out.below x9.below)
    have X8_9 := Lib.hid (X8.out.below x9.below)
    have HB9 := Lib.hid (more HB8.out (Nat.le_refl _) x9.below)
    obtain ⟨_, k10, k11, k12, k1f⟩ := X1_2_3_4_5_6_7_8_9.out
    obtain ⟨_, k20, k21, k22, k2f⟩ := X2_3_4_5_6_7_8_9.out
    obtain ⟨_, k80, k81, k82, k8f⟩ := X8_9.out
    go_wp2_with fail
    go_ret
    exact ⟨rfl, HB9.out⟩
theorem parts_walk (n d r n2 d2 r2 : ByteArray) (w : World) (w1 : n.size ≤ 140737488351232) (w2 : d.size ≤ 140737488351232) (w3 : r.size ≤ 140737488351232) (w4 : n2.size ≤ 140737488351232) (w5 : d2.size ≤ 140737488351232) (w6 : r2.size ≤ 140737488351232) :
    Calls Tryd.prog 7 #[.agg #[.string n, .string d, .string r], .agg #[.string n2, .string d2, .string r2]] w fun e w' => e = .returned (.bool true) ∧ Below w.heap.size w w' := by
  have SM1 := Lib.hid (fun W => small_any n d r W w1 w2 w3)
  have SM2 := Lib.hid (fun W => small_any n2 d2 r2 W w4 w5 w6)
  cases hs1 : sm n d r with
  | false => rw [hs1] at SM1; exact parts_s1 n d r n2 d2 r2 w SM1
  | true =>
    rw [hs1] at SM1
    obtain ⟨a1, a2, a3, a4⟩ := sm_le hs1
    cases hs2 : sm n2 d2 r2 with
    | false => rw [hs2] at SM2; exact parts_s2 n d r n2 d2 r2 w SM1 SM2
    | true =>
      rw [hs2] at SM2
      obtain ⟨b1, b2, b3, b4⟩ := sm_le hs2
      cases hv1 : ok (jd n d r) with
      | false => exact parts_c1 n d r n2 d2 r2 w SM1 SM2 (Lib.hid (fun W => check_no3 n d r W (by omega) (by omega) (by omega) hv1))
      | true =>
        have CK1 := Lib.hid (fun W => check_yes3 n d r W (by omega) (by omega) (by omega) hv1)
        cases hv2 : ok (jd n2 d2 r2) with
        | false => exact parts_c2 n d r n2 d2 r2 w SM1 SM2 CK1 (Lib.hid (fun W => check_no3 n2 d2 r2 W (by omega) (by omega) (by omega) hv2))
        | true =>
          have CK2 := Lib.hid (fun W => check_yes3 n2 d2 r2 W (by omega) (by omega) (by omega) hv2)
          have o1 := (ok_iff _).1 hv1
          have o2 := (ok_iff _).1 hv2
          have hob : ok (jd n d ⟨#[]⟩) = true := (ok_iff _).2 (ok_bare o1)
          have PU1 := Lib.hid (fun W => put_any n d r W (by omega) (by omega) (by omega))
          have BA := Lib.hid (fun W => bare_any n d r W (by omega) (by omega))
          have CB := Lib.hid (fun W => check_yes3 n d ⟨#[]⟩ W (by omega) (by omega) (by decide) hob)
          have WI := Lib.hid (fun W => with_any n d ⟨#[]⟩ r W (by omega) (by omega) (by omega))
          have BB := Lib.hid (fun W => bare_any n d ⟨#[]⟩ W (by omega) (by omega))
          by_cases he : n = n2 ∧ d = d2 ∧ r = r2
          · obtain ⟨rfl, rfl, rfl⟩ := he
            exact parts_same n d r _ w SM1 CK1 PU1 BA CB WI BB (Lib.hid (fun W => with_any n d r r W (by omega) (by omega) (by omega))) BA
          · have PU2 := Lib.hid (fun W => put_any n2 d2 r2 W (by omega) (by omega) (by omega))
            refine parts_other n d r n2 d2 r2 _ _ w SM1 SM2 CK1 CK2 PU1 BA CB WI BB PU2 (Lib.hid (fun W => with_any n d r r2 W (by omega) (by omega) (by omega))) (Lib.hid (fun W => bare_any n d r2 W (by omega) (by omega))) ?_ he
            rw [beq_eq_false_iff_ne]
            intro e
            have e2 : Jd.put (jd n d r) = Jd.put (jd n2 d2 r2) := by rw [← putB_data, ← putB_data, toList_inj e]
            have e3 := (put_inj o1 o2).1 e2
            apply he
            have q1 := congrArg J.n e3
            have q2 := congrArg J.d e3
            have q3 := congrArg J.r e3
            exact ⟨ByteArray.ext (Array.toList_inj.1 q1), ByteArray.ext (Array.toList_inj.1 q2), ByteArray.ext (Array.toList_inj.1 q3)⟩
end Go.Proofs.YtddhbhdjjiibbaaDoor
