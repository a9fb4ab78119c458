/- Contracts of the document's Show, and of Status, Seconds and Minutes, of the program and of the document. Condition: numbers that their types hold. -/
import Derived.Test.YtbadoidjdghklaaDoorSb
import Derived.Test.YtbadoidjdghklaaDoorBy
namespace Go.Proofs.YtbadoidjdghklaaDoor
open Go.RowKit Go.Lib Sg Sh

set_option maxRecDepth 100000 in
set_option maxHeartbeats 2000000 in
theorem rShow_0 (n : Nat) (w : World) (hn : n < 9223372036854775808) (h0 : bt n 8 = true) : Calls Tryd.prog 10 #[.int .i64 (n : Int)] w (ShowP (n : Int) w) := by
  have P : Hid (showI (n : Int) = [] ∧ isI (n : Int) = false) := by
    show _ ∧ _
    rw [(showI_nat n).1, (showI_nat n).2]
    unfold showT
    simp [h0]
  have C0 := Lib.hid (bit_any n 8 w hn (by omega))
  rw [h0] at C0
  clear h0
  have d0 : ¬ (n : Int) < 0 := by omega
  have d1 : decide ((n : Int) < 0) = false := by simp
  go_enter Tryd.func10, Tryd.ntmps10
  go_wp2_with fail
  refine C0.out.mono ?_
  rintro r x ⟨rfl, hx⟩
  subst hx
  go_wp2
  go_ret2
  exact ShowP.mk P.out.1 P.out.2 rfl (Below.refl _ _)
set_option maxRecDepth 100000 in
set_option maxHeartbeats 2000000 in
theorem rShow_1 (n : Nat) (w : World) (hn : n < 9223372036854775808) (h0 : bt n 8 = false) (h1 : bt n 1 = true) : Calls Tryd.prog 10 #[.int .i64 (n : Int)] w (ShowP (n : Int) w) := by
  have P : Hid (showI (n : Int) = [100, 110, 100] ∧ isI (n : Int) = true) := by
    show _ ∧ _
    rw [(showI_nat n).1, (showI_nat n).2]
    unfold showT
    simp [h0, h1]
  have C0 := Lib.hid (bit_any n 8 w hn (by omega))
  rw [h0] at C0
  have C1 := Lib.hid (bit_any n 1 w hn (by omega))
  rw [h1] at C1
  clear h0 h1
  have d0 : ¬ (n : Int) < 0 := by omega
  have d1 : decide ((n : Int) < 0) = false := by simp
  go_enter Tryd.func10, Tryd.ntmps10
  go_wp2_with fail
  refine C0.out.mono ?_
  rintro r x ⟨rfl, hx⟩
  subst hx
  go_wp2_with fail
  refine C1.out.mono ?_
  rintro r x ⟨rfl, hx⟩
  subst hx
  go_wp2
  go_ret2
  exact ShowP.mk P.out.1 P.out.2 rfl (Below.refl _ _)
set_option maxRecDepth 100000 in
set_option maxHeartbeats 2000000 in
theorem rShow_2 (n : Nat) (w : World) (hn : n < 9223372036854775808) (h0 : bt n 8 = false) (h1 : bt n 1 = false) (h2 : bt n 4 = true) : Calls Tryd.prog 10 #[.int .i64 (n : Int)] w (ShowP (n : Int) w) := by
  have P : Hid (showI (n : Int) = [100, 110, 100] ∧ isI (n : Int) = true) := by
    show _ ∧ _
    rw [(showI_nat n).1, (showI_nat n).2]
    unfold showT
    simp [h0, h1, h2]
  have C0 := Lib.hid (bit_any n 8 w hn (by omega))
  rw [h0] at C0
  have C1 := Lib.hid (bit_any n 1 w hn (by omega))
  rw [h1] at C1
  have C2 := Lib.hid (bit_any n 4 w hn (by omega))
  rw [h2] at C2
  clear h0 h1 h2
  have d0 : ¬ (n : Int) < 0 := by omega
  have d1 : decide ((n : Int) < 0) = false := by simp
  go_enter Tryd.func10, Tryd.ntmps10
  go_wp2_with fail
  refine C0.out.mono ?_
  rintro r x ⟨rfl, hx⟩
  subst hx
  go_wp2_with fail
  refine C1.out.mono ?_
  rintro r x ⟨rfl, hx⟩
  subst hx
  go_wp2_with fail
  refine C2.out.mono ?_
  rintro r x ⟨rfl, hx⟩
  subst hx
  go_wp2
  go_ret2
  exact ShowP.mk P.out.1 P.out.2 rfl (Below.refl _ _)
set_option maxRecDepth 100000 in
set_option maxHeartbeats 2000000 in
theorem rShow_3 (n : Nat) (w : World) (hn : n < 9223372036854775808) (h0 : bt n 8 = false) (h1 : bt n 1 = false) (h2 : bt n 4 = false) (h3 : bt n 2 = true) : Calls Tryd.prog 10 #[.int .i64 (n : Int)] w (ShowP (n : Int) w) := by
  have P : Hid (showI (n : Int) = [120, 97] ∧ isI (n : Int) = true) := by
    show _ ∧ _
    rw [(showI_nat n).1, (showI_nat n).2]
    unfold showT
    simp [h0, h1, h2, h3]
  have C0 := Lib.hid (bit_any n 8 w hn (by omega))
  rw [h0] at C0
  have C1 := Lib.hid (bit_any n 1 w hn (by omega))
  rw [h1] at C1
  have C2 := Lib.hid (bit_any n 4 w hn (by omega))
  rw [h2] at C2
  have C3 := Lib.hid (bit_any n 2 w hn (by omega))
  rw [h3] at C3
  clear h0 h1 h2 h3
  have d0 : ¬ (n : Int) < 0 := by omega
  have d1 : decide ((n : Int) < 0) = false := by simp
  go_enter Tryd.func10, Tryd.ntmps10
  go_wp2_with fail
  refine C0.out.mono ?_
  rintro r x ⟨rfl, hx⟩
  subst hx
  go_wp2_with fail
  refine C1.out.mono ?_
  rintro r x ⟨rfl, hx⟩
  subst hx
  go_wp2_with fail
  refine C2.out.mono ?_
  rintro r x ⟨rfl, hx⟩
  subst hx
  go_wp2_with fail
  refine C3.out.mono ?_
  rintro r x ⟨rfl, hx⟩
  subst hx
  go_wp2
  go_ret2
  exact ShowP.mk P.out.1 P.out.2 rfl (Below.refl _ _)
set_option maxRecDepth 100000 in
set_option maxHeartbeats 2000000 in
theorem rShow_4 (n : Nat) (w : World) (hn : n < 9223372036854775808) (h0 : bt n 8 = false) (h1 : bt n 1 = false) (h2 : bt n 4 = false) (h3 : bt n 2 = false) (h4 : bt n 0 = true) : Calls Tryd.prog 10 #[.int .i64 (n : Int)] w (ShowP (n : Int) w) := by
  have P : Hid (showI (n : Int) = [97, 119, 97, 121] ∧ isI (n : Int) = true) := by
    show _ ∧ _
    rw [(showI_nat n).1, (showI_nat n).2]
    unfold showT
    simp [h0, h1, h2, h3, h4]
  have C0 := Lib.hid (bit_any n 8 w hn (by omega))
  rw [h0] at C0
  have C1 := Lib.hid (bit_any n 1 w hn (by omega))
  rw [h1] at C1
  have C2 := Lib.hid (bit_any n 4 w hn (by omega))
  rw [h2] at C2
  have C3 := Lib.hid (bit_any n 2 w hn (by omega))
  rw [h3] at C3
  have C4 := Lib.hid (bit_any n 0 w hn (by omega))
  rw [h4] at C4
  clear h0 h1 h2 h3 h4
  have d0 : ¬ (n : Int) < 0 := by omega
  have d1 : decide ((n : Int) < 0) = false := by simp
  go_enter Tryd.func10, Tryd.ntmps10
  go_wp2_with fail
  refine C0.out.mono ?_
  rintro r x ⟨rfl, hx⟩
  subst hx
  go_wp2_with fail
  refine C1.out.mono ?_
  rintro r x ⟨rfl, hx⟩
  subst hx
  go_wp2_with fail
  refine C2.out.mono ?_
  rintro r x ⟨rfl, hx⟩
  subst hx
  go_wp2_with fail
  refine C3.out.mono ?_
  rintro r x ⟨rfl, hx⟩
  subst hx
  go_wp2_with fail
  refine C4.out.mono ?_
  rintro r x ⟨rfl, hx⟩
  subst hx
  go_wp2
  go_ret2
  exact ShowP.mk P.out.1 P.out.2 rfl (Below.refl _ _)
set_option maxRecDepth 100000 in
set_option maxHeartbeats 2000000 in
theorem rShow_5 (n : Nat) (w : World) (hn : n < 9223372036854775808) (h0 : bt n 8 = false) (h1 : bt n 1 = false) (h2 : bt n 4 = false) (h3 : bt n 2 = false) (h4 : bt n 0 = false) (h5 : bt n 5 = true) : Calls Tryd.prog 10 #[.int .i64 (n : Int)] w (ShowP (n : Int) w) := by
  have P : Hid (showI (n : Int) = [99, 104, 97, 116] ∧ isI (n : Int) = true) := by
    show _ ∧ _
    rw [(showI_nat n).1, (showI_nat n).2]
    unfold showT
    simp [h0, h1, h2, h3, h4, h5]
  have C0 := Lib.hid (bit_any n 8 w hn (by omega))
  rw [h0] at C0
  have C1 := Lib.hid (bit_any n 1 w hn (by omega))
  rw [h1] at C1
  have C2 := Lib.hid (bit_any n 4 w hn (by omega))
  rw [h2] at C2
  have C3 := Lib.hid (bit_any n 2 w hn (by omega))
  rw [h3] at C3
  have C4 := Lib.hid (bit_any n 0 w hn (by omega))
  rw [h4] at C4
  have C5 := Lib.hid (bit_any n 5 w hn (by omega))
  rw [h5] at C5
  clear h0 h1 h2 h3 h4 h5
  have d0 : ¬ (n : Int) < 0 := by omega
  have d1 : decide ((n : Int) < 0) = false := by simp
  go_enter Tryd.func10, Tryd.ntmps10
  go_wp2_with fail
  refine C0.out.mono ?_
  rintro r x ⟨rfl, hx⟩
  subst hx
  go_wp2_with fail
  refine C1.out.mono ?_
  rintro r x ⟨rfl, hx⟩
  subst hx
  go_wp2_with fail
  refine C2.out.mono ?_
  rintro r x ⟨rfl, hx⟩
  subst hx
  go_wp2_with fail
  refine C3.out.mono ?_
  rintro r x ⟨rfl, hx⟩
  subst hx
  go_wp2_with fail
  refine C4.out.mono ?_
  rintro r x ⟨rfl, hx⟩
  subst hx
  go_wp2_with fail
  refine C5.out.mono ?_
  rintro r x ⟨rfl, hx⟩
  subst hx
  go_wp2
  go_ret2
  exact ShowP.mk P.out.1 P.out.2 rfl (Below.refl _ _)
set_option maxRecDepth 100000 in
set_option maxHeartbeats 2000000 in
theorem rShow_6 (n : Nat) (w : World) (hn : n < 9223372036854775808) (h0 : bt n 8 = false) (h1 : bt n 1 = false) (h2 : bt n 4 = false) (h3 : bt n 2 = false) (h4 : bt n 0 = false) (h5 : bt n 5 = false) : Calls Tryd.prog 10 #[.int .i64 (n : Int)] w (ShowP (n : Int) w) := by
  have P : Hid (showI (n : Int) = [] ∧ isI (n : Int) = true) := by
    show _ ∧ _
    rw [(showI_nat n).1, (showI_nat n).2]
    unfold showT
    simp [h0, h1, h2, h3, h4, h5]
  have C0 := Lib.hid (bit_any n 8 w hn (by omega))
  rw [h0] at C0
  have C1 := Lib.hid (bit_any n 1 w hn (by omega))
  rw [h1] at C1
  have C2 := Lib.hid (bit_any n 4 w hn (by omega))
  rw [h2] at C2
  have C3 := Lib.hid (bit_any n 2 w hn (by omega))
  rw [h3] at C3
  have C4 := Lib.hid (bit_any n 0 w hn (by omega))
  rw [h4] at C4
  have C5 := Lib.hid (bit_any n 5 w hn (by omega))
  rw [h5] at C5
  clear h0 h1 h2 h3 h4 h5
  have d0 : ¬ (n : Int) < 0 := by omega
  have d1 : decide ((n : Int) < 0) = false := by simp
  go_enter Tryd.func10, Tryd.ntmps10
  go_wp2_with fail
  refine C0.out.mono ?_
  rintro r x ⟨rfl, hx⟩
  subst hx
  go_wp2_with fail
  refine C1.out.mono ?_
  rintro r x ⟨rfl, hx⟩
  subst hx
  go_wp2_with fail
  refine C2.out.mono ?_
  rintro r x ⟨rfl, hx⟩
  subst hx
  go_wp2_with fail
  refine C3.out.mono ?_
  rintro r x ⟨rfl, hx⟩
  subst hx
  go_wp2_with fail
  refine C4.out.mono ?_
  rintro r x ⟨rfl, hx⟩
  subst hx
  go_wp2_with fail
  refine C5.out.mono ?_
  rintro r x ⟨rfl, hx⟩
  subst hx
  go_wp2
  go_ret2
  exact ShowP.mk P.out.1 P.out.2 rfl (Below.refl _ _)
theorem rShow_any (s : Int) (w : World) (hs : s < 9223372036854775808) : Calls Tryd.prog 10 #[.int .i64 s] w (ShowP s w) := by
  by_cases h : s < 0
  · exact rShow_neg s w h
  obtain ⟨n, rfl⟩ : ∃ n : Nat, s = n := ⟨s.toNat, by omega⟩
  have hn : n < 9223372036854775808 := by omega
  cases h0 : bt n 8
  · cases h1 : bt n 1
    · cases h2 : bt n 4
      · cases h3 : bt n 2
        · cases h4 : bt n 0
          · cases h5 : bt n 5
            · exact rShow_6 n w hn h0 h1 h2 h3 h4 h5
            · exact rShow_5 n w hn h0 h1 h2 h3 h4 h5
          · exact rShow_4 n w hn h0 h1 h2 h3 h4
        · exact rShow_3 n w hn h0 h1 h2 h3
      · exact rShow_2 n w hn h0 h1 h2
    · exact rShow_1 n w hn h0 h1
  · exact rShow_0 n w hn h0

/-- The status of one whose presence shows that. -/
def statL (l : List UInt8) : Int := if l = [97, 119, 97, 121] then 1 else if l = [99, 104, 97, 116] then 32 else if l = [100, 110, 100] then 2 else if l = [120, 97] then 4 else 0
theorem str_ne {s : ByteArray} {l : List UInt8} (h : ¬ s.data.toList = l) : ¬ s.toList = l := by rw [ByteArray.toList_eq]; exact h
theorem str_eq {s : ByteArray} {l : List UInt8} (h : s.data.toList = l) : s = ⟨l.toArray⟩ := By.bytes_ext h
theorem stat_0 (w : World) : Calls Tryd.prog 11 #[.string ⟨#[97, 119, 97, 121]⟩] w fun e w' => e = .returned (.int .i64 (1)) ∧ w' = w := by
  go_enter Tryd.func11, Tryd.ntmps11
  go_wp2
  go_ret
  exact ⟨rfl, rfl⟩
theorem stat_1 (w : World) : Calls Tryd.prog 11 #[.string ⟨#[99, 104, 97, 116]⟩] w fun e w' => e = .returned (.int .i64 (32)) ∧ w' = w := by
  go_enter Tryd.func11, Tryd.ntmps11
  go_wp2
  go_ret
  exact ⟨rfl, rfl⟩
theorem stat_2 (w : World) : Calls Tryd.prog 11 #[.string ⟨#[100, 110, 100]⟩] w fun e w' => e = .returned (.int .i64 (2)) ∧ w' = w := by
  go_enter Tryd.func11, Tryd.ntmps11
  go_wp2
  go_ret
  exact ⟨rfl, rfl⟩
theorem stat_3 (w : World) : Calls Tryd.prog 11 #[.string ⟨#[120, 97]⟩] w fun e w' => e = .returned (.int .i64 (4)) ∧ w' = w := by
  go_enter Tryd.func11, Tryd.ntmps11
  go_wp2
  go_ret
  exact ⟨rfl, rfl⟩
theorem stat_any (s : ByteArray) (w : World) : Calls Tryd.prog 11 #[.string s] w fun e w' => e = .returned (.int .i64 (statL s.data.toList)) ∧ w' = w := by
  by_cases h0 : s.data.toList = [97, 119, 97, 121]
  · rw [str_eq h0]; exact stat_0 w
  by_cases h1 : s.data.toList = [99, 104, 97, 116]
  · rw [str_eq h1]; exact stat_1 w
  by_cases h2 : s.data.toList = [100, 110, 100]
  · rw [str_eq h2]; exact stat_2 w
  by_cases h3 : s.data.toList = [120, 97]
  · rw [str_eq h3]; exact stat_3 w
  have E : Hid (statL s.data.toList = 0) := by
    show _ = _
    unfold statL
    rw [if_neg h0, if_neg h1, if_neg h2, if_neg h3]
  have n0 := str_ne h0
  have b0 : (s.toList == ([97, 119, 97, 121] : List UInt8)) = false := beq_eq_false_iff_ne.2 n0
  have n1 := str_ne h1
  have b1 : (s.toList == ([99, 104, 97, 116] : List UInt8)) = false := beq_eq_false_iff_ne.2 n1
  have n2 := str_ne h2
  have b2 : (s.toList == ([100, 110, 100] : List UInt8)) = false := beq_eq_false_iff_ne.2 n2
  have n3 := str_ne h3
  have b3 : (s.toList == ([120, 97] : List UInt8)) = false := beq_eq_false_iff_ne.2 n3
  clear h0 h1 h2 h3
  go_enter Tryd.func11, Tryd.ntmps11
  go_wp2
  go_ret
  exact ⟨by rw [E.out]; rfl, rfl⟩
theorem rStat_0 (w : World) : Calls Tryd.prog 12 #[.string ⟨#[97, 119, 97, 121]⟩] w fun e w' => e = .returned (.int .i64 (1)) ∧ w' = w := by
  go_enter Tryd.func12, Tryd.ntmps12
  go_wp2
  go_ret
  exact ⟨rfl, rfl⟩
theorem rStat_1 (w : World) : Calls Tryd.prog 12 #[.string ⟨#[99, 104, 97, 116]⟩] w fun e w' => e = .returned (.int .i64 (32)) ∧ w' = w := by
  go_enter Tryd.func12, Tryd.ntmps12
  go_wp2
  go_ret
  exact ⟨rfl, rfl⟩
theorem rStat_2 (w : World) : Calls Tryd.prog 12 #[.string ⟨#[100, 110, 100]⟩] w fun e w' => e = .returned (.int .i64 (2)) ∧ w' = w := by
  go_enter Tryd.func12, Tryd.ntmps12
  go_wp2
  go_ret
  exact ⟨rfl, rfl⟩
theorem rStat_3 (w : World) : Calls Tryd.prog 12 #[.string ⟨#[120, 97]⟩] w fun e w' => e = .returned (.int .i64 (4)) ∧ w' = w := by
  go_enter Tryd.func12, Tryd.ntmps12
  go_wp2
  go_ret
  exact ⟨rfl, rfl⟩
theorem rStat_any (s : ByteArray) (w : World) : Calls Tryd.prog 12 #[.string s] w fun e w' => e = .returned (.int .i64 (statL s.data.toList)) ∧ w' = w := by
  by_cases h0 : s.data.toList = [97, 119, 97, 121]
  · rw [str_eq h0]; exact rStat_0 w
  by_cases h1 : s.data.toList = [99, 104, 97, 116]
  · rw [str_eq h1]; exact rStat_1 w
  by_cases h2 : s.data.toList = [100, 110, 100]
  · rw [str_eq h2]; exact rStat_2 w
  by_cases h3 : s.data.toList = [120, 97]
  · rw [str_eq h3]; exact rStat_3 w
  have E : Hid (statL s.data.toList = 0) := by
    show _ = _
    unfold statL
    rw [if_neg h0, if_neg h1, if_neg h2, if_neg h3]
  have n0 := str_ne h0
  have b0 : (s.toList == ([97, 119, 97, 121] : List UInt8)) = false := beq_eq_false_iff_ne.2 n0
  have n1 := str_ne h1
  have b1 : (s.toList == ([99, 104, 97, 116] : List UInt8)) = false := beq_eq_false_iff_ne.2 n1
  have n2 := str_ne h2
  have b2 : (s.toList == ([100, 110, 100] : List UInt8)) = false := beq_eq_false_iff_ne.2 n2
  have n3 := str_ne h3
  have b3 : (s.toList == ([120, 97] : List UInt8)) = false := beq_eq_false_iff_ne.2 n3
  clear h0 h1 h2 h3
  go_enter Tryd.func12, Tryd.ntmps12
  go_wp2
  go_ret
  exact ⟨by rw [E.out]; rfl, rfl⟩

def secI (m : Int) : Int := 60 * min (max m 0) 65535
def minI (s : Int) : Int := min (max s 0 / 60) 65535
theorem min_eq (s : Int) : min (max (s.tdiv 60) 0) 65535 = minI s := by
  unfold minI
  by_cases h : 0 ≤ s
  · rw [Int.tdiv_eq_ediv_of_nonneg h]; omega
  · have : s.tdiv 60 ≤ 0 := by
      have := Int.neg_tdiv s 60
      have h2 := Int.tdiv_eq_ediv_of_nonneg (a := -s) (b := 60) (by omega)
      omega
    omega
theorem div_b {m : Int} (h1 : -9223372036854775808 ≤ m) (h2 : m < 9223372036854775808) : -9223372036854775808 ≤ m.tdiv 60 ∧ m.tdiv 60 < 9223372036854775808 := by
  by_cases h : 0 ≤ m
  · rw [Int.tdiv_eq_ediv_of_nonneg h]; omega
  · have := Int.neg_tdiv m 60
    have h2 := Int.tdiv_eq_ediv_of_nonneg (a := -m) (b := 60) (by omega)
    omega
theorem tell_any (m : Int) (w : World) : Calls Tryd.prog 24 #[.int .i64 m] w fun e w' => e = .returned (.int .i64 (min (max m 0) 65535)) ∧ w' = w := by
  go_enter Tryd.func24, Tryd.ntmps24
  go_wp2
  go_ret
  exact ⟨rfl, rfl⟩
theorem sec_any (m : Int) (w : World) (h1 : -9223372036854775808 ≤ m) (h2 : m < 9223372036854775808) : Calls Tryd.prog 13 #[.int .i64 m] w fun e w' => e = .returned (.int .i64 (secI m)) ∧ w' = w := by
  have C := Lib.hid (tell_any m w)
  have E : Hid (secI m = min (max m 0) 65535 * 60) := by show _ = _; unfold secI; omega
  have k1 : 0 ≤ min (max m 0) 65535 := by omega
  have k2 : min (max m 0) 65535 ≤ 65535 := by omega
  generalize min (max m 0) 65535 = y at C E k1 k2
  go_enter Tryd.func13, Tryd.ntmps13
  go_wp2_with fail
  refine C.out.mono ?_
  rintro r x ⟨rfl, hx⟩
  subst hx
  go_wp2
  go_ret
  exact ⟨by rw [E.out]; rfl, rfl⟩
theorem rSec_any (m : Int) (w : World) (h1 : -9223372036854775808 ≤ m) (h2 : m < 9223372036854775808) : Calls Tryd.prog 14 #[.int .i64 m] w fun e w' => e = .returned (.int .i64 (secI m)) ∧ w' = w := by
  have E : Hid (secI m = 60 * min (max m 0) 65535) := by show _ = _; unfold secI; omega
  go_enter Tryd.func14, Tryd.ntmps14
  go_wp2
  all_goals go_ret
  all_goals exact ⟨by rw [E.out]; rfl, rfl⟩
theorem min_any (m : Int) (w : World) (h1 : -9223372036854775808 ≤ m) (h2 : m < 9223372036854775808) : Calls Tryd.prog 15 #[.int .i64 m] w fun e w' => e = .returned (.int .i64 (minI m)) ∧ w' = w := by
  have E := Lib.hid (min_eq m)
  obtain ⟨k1, k2⟩ := div_b h1 h2
  have C := Lib.hid (tell_any (m.tdiv 60) w)
  rw [E.out] at C
  go_enter Tryd.func15, Tryd.ntmps15
  go_wp2_with fail
  refine C.out.mono ?_
  rintro r x ⟨rfl, hx⟩
  subst hx
  go_wp2
  go_ret
  exact ⟨rfl, rfl⟩
theorem rMin_any (m : Int) (w : World) (h1 : -9223372036854775808 ≤ m) (h2 : m < 9223372036854775808) : Calls Tryd.prog 16 #[.int .i64 m] w fun e w' => e = .returned (.int .i64 (minI m)) ∧ w' = w := by
  have E : Hid (minI m = min (max m 0 / 60) 65535) := by show _ = _; unfold minI; omega
  go_enter Tryd.func16, Tryd.ntmps16
  go_wp2
  all_goals go_ret
  all_goals exact ⟨by rw [E.out]; rfl, rfl⟩
end Go.Proofs.YtbadoidjdghklaaDoor
