/- The laws of layer 2: walks of the five statements. Condition: none (a text of more than 3000 bytes is answered by the first line alone). -/
import Derived.Test.YtpgpiopkaabncaaEli
import Derived.Test.YtpgpiopkaabncaaRis
namespace Go.Proofs.Ytpgpiopkaabncaa
open Go.RowKit Go.Lib By Esc

/-- A text escaped, by both; and back. -/
theorem good_calls {s : ByteArray} (hs : s.size ≤ 100000) (h : bad s.data.toList = false) : ∃ A : ByteArray, A.data.toList = E s.data.toList ∧ A.size ≤ 3 * s.size ∧ s.size ≤ A.size ∧ bad A.data.toList = false ∧
    (∀ W, Calls Try.prog 9 #[.string s] W fun e w' => e = .returned (.tuple #[.string A, .int .i64 0]) ∧ Below W.heap.size W w') ∧
    (∀ W, Calls Try.prog 14 #[.string A] W fun e w' => e = .returned (.bool true) ∧ Below W.heap.size W w') ∧
    (∀ W, Calls Try.prog 12 #[.string A] W fun e w' => e = .returned (.string s) ∧ Below W.heap.size W w') := by
  have hl := E_len s.data.toList
  rw [len_size] at hl
  have hA : (⟨(E s.data.toList).toArray⟩ : ByteArray).size = (E s.data.toList).length := by rw [Lib.size_eq]
  refine ⟨⟨(E s.data.toList).toArray⟩, rfl, by omega, by omega, bad_E h, fun W => escape_good s W (by omega) h, fun W => ?_, fun W => ?_⟩
  · have := is_any ⟨(E s.data.toList).toArray⟩ W (by omega)
    rwa [is_E h] at this
  · have := unescape_any ⟨(E s.data.toList).toArray⟩ W (by omega)
    rw [back h] at this
    rwa [show (⟨s.data.toList.toArray⟩ : ByteArray) = s from bytes_ext (by simp)] at this

def plainN (x : Nat) : Bool := (decide (97 ≤ x) && decide (x ≤ 122)) || (decide (48 ≤ x) && decide (x ≤ 57))
theorem more {w w1 w2 : World} {B : Nat} (h : Below B w w1) (hw : B ≤ w.heap.size) (h2 : Below w1.heap.size w1 w2) : Below B w w2 := h.trans (h2.mono (Nat.le_trans hw h.size))

set_option maxHeartbeats 1000000 in
theorem escapeTells_walk (s : ByteArray) (w : World) (_hs : s.size ≤ maxLen) : Calls Try.prog 3 #[.string s] w fun e w' => e = .returned (.bool true) ∧ Below w.heap.size w w' := by
  have HB0 : Hid (Below w.heap.size w w) := Below.refl _ _
  have L := Lib.hid (fun W => live_any W)
  by_cases hbig : 3000 < s.size
  · have f : decide ((3000 : Int) < s.size) = true := by simp; omega
    clear hbig
    go_enter Try.func3, Try.ntmps3
    go_wp2_with fail
    refine (L.out _).mono ?_
    rintro r w1 ⟨rfl, hb⟩
    have HB1 := Lib.hid (more HB0.out (Nat.le_refl _) hb)
    clear hb
    go_wp2_with fail
    go_ret
    exact ⟨rfl, HB1.out⟩
  have f : decide ((3000 : Int) < s.size) = false := by simp; omega
  have hs : s.size ≤ 3000 := by omega
  clear hbig
  have U1 := Lib.hid (fun W => unescape_any s W (by omega))
  have U2 := Lib.hid (fun W => rUnescape_any s W (by omega))
  have I1 := Lib.hid (fun W => is_any s W (by omega))
  have I2 := Lib.hid (fun W => rIs_any s W (by omega))
  generalize (⟨(U true s.data.toList).toArray⟩ : ByteArray) = u at U1 U2
  generalize is s.data.toList = i at I1 I2
  cases hbad : bad s.data.toList with
  | true =>
    have E1 := Lib.hid (fun W => escape_bad s W (by omega) hbad)
    have E2 := Lib.hid (fun W => rEscape_bad s W (by omega) hbad)
    clear hbad
    go_enter Try.func3, Try.ntmps3
    go_wp2_with fail
    refine (E1.out _).mono ?_
    rintro r w1 ⟨rfl, hb⟩
    have HB1 := Lib.hid (more HB0.out (Nat.le_refl _) hb)
    clear hb
    go_wp2_with fail
    refine (E2.out _).mono ?_
    rintro r w1 ⟨rfl, hb⟩
    have HB2 := Lib.hid (more HB1.out (Nat.le_refl _) hb)
    clear hb
    go_wp2_with fail
    refine (num_any _ _).mono ?_
    rintro r w1 ⟨rfl, rfl⟩
    go_wp2_with fail
    refine (U1.out _).mono ?_
    rintro r w1 ⟨rfl, hb⟩
    have HB3 := Lib.hid (more HB2.out (Nat.le_refl _) hb)
    clear hb
    go_wp2_with fail
    refine (U2.out _).mono ?_
    rintro r w1 ⟨rfl, hb⟩
    have HB4 := Lib.hid (more HB3.out (Nat.le_refl _) hb)
    clear hb
    go_wp2_with fail
    refine (I1.out _).mono ?_
    rintro r w1 ⟨rfl, hb⟩
    have HB5 := Lib.hid (more HB4.out (Nat.le_refl _) hb)
    clear hb
    go_wp2_with fail
    refine (I2.out _).mono ?_
    rintro r w1 ⟨rfl, hb⟩
    have HB6 := Lib.hid (more HB5.out (Nat.le_refl _) hb)
    clear hb
    go_wp2_with fail
    refine (L.out _).mono ?_
    rintro r w1 ⟨rfl, hb⟩
    have HB7 := Lib.hid (more HB6.out (Nat.le_refl _) hb)
    clear hb
    go_wp2_with fail
    go_ret
    exact ⟨rfl, HB7.out⟩
  | false =>
    have E1 := Lib.hid (fun W => escape_good s W (by omega) hbad)
    have E2 := Lib.hid (fun W => rEscape_good s W (by omega) hbad)
    generalize (⟨(E s.data.toList).toArray⟩ : ByteArray) = a at E1 E2
    clear hbad
    go_enter Try.func3, Try.ntmps3
    go_wp2_with fail
    refine (E1.out _).mono ?_
    rintro r w1 ⟨rfl, hb⟩
    have HB1 := Lib.hid (more HB0.out (Nat.le_refl _) hb)
    clear hb
    go_wp2_with fail
    refine (E2.out _).mono ?_
    rintro r w1 ⟨rfl, hb⟩
    have HB2 := Lib.hid (more HB1.out (Nat.le_refl _) hb)
    clear hb
    go_wp2_with fail
    refine (num_any _ _).mono ?_
    rintro r w1 ⟨rfl, rfl⟩
    go_wp2_with fail
    refine (U1.out _).mono ?_
    rintro r w1 ⟨rfl, hb⟩
    have HB3 := Lib.hid (more HB2.out (Nat.le_refl _) hb)
    clear hb
    go_wp2_with fail
    refine (U2.out _).mono ?_
    rintro r w1 ⟨rfl, hb⟩
    have HB4 := Lib.hid (more HB3.out (Nat.le_refl _) hb)
    clear hb
    go_wp2_with fail
    refine (I1.out _).mono ?_
    rintro r w1 ⟨rfl, hb⟩
    have HB5 := Lib.hid (more HB4.out (Nat.le_refl _) hb)
    clear hb
    go_wp2_with fail
    refine (I2.out _).mono ?_
    rintro r w1 ⟨rfl, hb⟩
    have HB6 := Lib.hid (more HB5.out (Nat.le_refl _) hb)
    clear hb
    go_wp2_with fail
    refine (L.out _).mono ?_
    rintro r w1 ⟨rfl, hb⟩
    have HB7 := Lib.hid (more HB6.out (Nat.le_refl _) hb)
    clear hb
    go_wp2_with fail
    go_ret
    exact ⟨rfl, HB7.out⟩

set_option maxHeartbeats 1000000 in
theorem escapeBack_walk (s : ByteArray) (w : World) (_hs : s.size ≤ maxLen) : Calls Try.prog 4 #[.string s] w fun e w' => e = .returned (.bool true) ∧ Below w.heap.size w w' := by
  have HB0 : Hid (Below w.heap.size w w) := Below.refl _ _
  have L := Lib.hid (fun W => live_any W)
  by_cases hbig : 3000 < s.size
  · have f : decide ((3000 : Int) < s.size) = true := by simp; omega
    clear hbig
    go_enter Try.func4, Try.ntmps4
    go_wp2_with fail
    refine (L.out _).mono ?_
    rintro r w1 ⟨rfl, hb⟩
    have HB1 := Lib.hid (more HB0.out (Nat.le_refl _) hb)
    clear hb
    go_wp2_with fail
    go_ret
    exact ⟨rfl, HB1.out⟩
  have f : decide ((3000 : Int) < s.size) = false := by simp; omega
  have hs : s.size ≤ 3000 := by omega
  clear hbig
  cases hbad : bad s.data.toList with
  | true =>
    have E1 := Lib.hid (fun W => escape_bad s W (by omega) hbad)
    by_cases h0 : s.size = 0
    · obtain rfl := empty_of h0
      clear hbad h0
      go_enter Try.func4, Try.ntmps4
      go_wp2_with fail
      refine (E1.out _).mono ?_
      rintro r w1 ⟨rfl, hb⟩
      have HB1 := Lib.hid (more HB0.out (Nat.le_refl _) hb)
      clear hb
      go_wp2_with fail
      refine (num_any _ _).mono ?_
      rintro r w1 ⟨rfl, rfl⟩
      go_wp2_with fail
      refine (L.out _).mono ?_
      rintro r w1 ⟨rfl, hb⟩
      have HB2 := Lib.hid (more HB1.out (Nat.le_refl _) hb)
      clear hb
      go_wp2_with fail
      go_ret
      exact ⟨rfl, HB2.out⟩
    · have hne := nonempty h0
      have p0 : 0 < s.size := by omega
      have i0 : (0 : Int) < s.size := by omega
      have hb := byte_nb s 0 p0
      unfold bad at hbad
      rw [show s.data.toList.isEmpty = false by rw [← ByteArray.toList_eq]; exact hne, Bool.false_or, len_size] at hbad
      by_cases h1 : nb s.data.toList 0 = 32
      · rw [h1] at hb
        clear hbad h0 h1
        go_enter Try.func4, Try.ntmps4
        go_wp2_with fail
        refine (E1.out _).mono ?_
        rintro r w1 ⟨rfl, hb⟩
        have HB1 := Lib.hid (more HB0.out (Nat.le_refl _) hb)
        clear hb
        go_wp2_with fail
        refine (num_any _ _).mono ?_
        rintro r w1 ⟨rfl, rfl⟩
        go_wp2_with fail
        refine (L.out _).mono ?_
        rintro r w1 ⟨rfl, hb⟩
        have HB2 := Lib.hid (more HB1.out (Nat.le_refl _) hb)
        clear hb
        go_wp2_with fail
        go_ret
        exact ⟨rfl, HB2.out⟩
      · have h2 : nb s.data.toList (s.size - 1) = 32 := by simpa [h1] using hbad
        have pl : s.size - 1 < s.size := by omega
        have hb2 := byte_nb s (s.size - 1) pl
        rw [h2] at hb2
        have e1 : ((s.size : Int) - 1).toNat = s.size - 1 := by omega
        generalize nb s.data.toList 0 = y at hb h1
        have f1 : ((y : Int) == 32) = false := by rw [beq_eq_false_iff_ne]; omega
        clear hbad h0 h1 h2
        go_enter Try.func4, Try.ntmps4
        go_wp2_with fail
        refine (E1.out _).mono ?_
        rintro r w1 ⟨rfl, hb⟩
        have HB1 := Lib.hid (more HB0.out (Nat.le_refl _) hb)
        clear hb
        go_wp2_with fail
        refine (num_any _ _).mono ?_
        rintro r w1 ⟨rfl, rfl⟩
        go_wp2_with fail
        refine (L.out _).mono ?_
        rintro r w1 ⟨rfl, hb⟩
        have HB2 := Lib.hid (more HB1.out (Nat.le_refl _) hb)
        clear hb
        go_wp2_with fail
        go_ret
        exact ⟨rfl, HB2.out⟩
  | false =>
    obtain ⟨A, _, _, hA, _, e1, e2, e3⟩ := good_calls (by omega) hbad
    have E1 := Lib.hid e1
    have E2 := Lib.hid e2
    have E3 := Lib.hid e3
    have f2 : decide ((s.size : Int) ≤ A.size) = true := by simp; omega
    clear hbad e1 e2 e3
    go_enter Try.func4, Try.ntmps4
    go_wp2_with fail
    refine (E1.out _).mono ?_
    rintro r w1 ⟨rfl, hb⟩
    have HB1 := Lib.hid (more HB0.out (Nat.le_refl _) hb)
    clear hb
    go_wp2_with fail
    refine (num_any _ _).mono ?_
    rintro r w1 ⟨rfl, rfl⟩
    go_wp2_with fail
    refine (E2.out _).mono ?_
    rintro r w1 ⟨rfl, hb⟩
    have HB2 := Lib.hid (more HB1.out (Nat.le_refl _) hb)
    clear hb
    go_wp2_with fail
    refine (E3.out _).mono ?_
    rintro r w1 ⟨rfl, hb⟩
    have HB3 := Lib.hid (more HB2.out (Nat.le_refl _) hb)
    clear hb
    go_wp2_with fail
    refine (L.out _).mono ?_
    rintro r w1 ⟨rfl, hb⟩
    have HB4 := Lib.hid (more HB3.out (Nat.le_refl _) hb)
    clear hb
    go_wp2_with fail
    go_ret
    exact ⟨rfl, HB4.out⟩

set_option maxHeartbeats 1000000 in
theorem escapeTwice_walk (s : ByteArray) (w : World) (_hs : s.size ≤ maxLen) : Calls Try.prog 7 #[.string s] w fun e w' => e = .returned (.bool true) ∧ Below w.heap.size w w' := by
  have HB0 : Hid (Below w.heap.size w w) := Below.refl _ _
  have L := Lib.hid (fun W => live_any W)
  by_cases hbig : 3000 < s.size
  · have f : decide ((3000 : Int) < s.size) = true := by simp; omega
    clear hbig
    go_enter Try.func7, Try.ntmps7
    go_wp2_with fail
    refine (L.out _).mono ?_
    rintro r w1 ⟨rfl, hb⟩
    have HB1 := Lib.hid (more HB0.out (Nat.le_refl _) hb)
    clear hb
    go_wp2_with fail
    go_ret
    exact ⟨rfl, HB1.out⟩
  have f : decide ((3000 : Int) < s.size) = false := by simp; omega
  have hs : s.size ≤ 3000 := by omega
  clear hbig
  cases hbad : bad s.data.toList with
  | true =>
    have E1 := Lib.hid (fun W => escape_bad s W (by omega) hbad)
    clear hbad
    go_enter Try.func7, Try.ntmps7
    go_wp2_with fail
    refine (E1.out _).mono ?_
    rintro r w1 ⟨rfl, hb⟩
    have HB1 := Lib.hid (more HB0.out (Nat.le_refl _) hb)
    clear hb
    go_wp2_with fail
    refine (num_any _ _).mono ?_
    rintro r w1 ⟨rfl, rfl⟩
    go_wp2_with fail
    refine (L.out _).mono ?_
    rintro r w1 ⟨rfl, hb⟩
    have HB2 := Lib.hid (more HB1.out (Nat.le_refl _) hb)
    clear hb
    go_wp2_with fail
    go_ret
    exact ⟨rfl, HB2.out⟩
  | false =>
    obtain ⟨A, _, hA, _, hbA, e1, _, e3⟩ := good_calls (by omega) hbad
    obtain ⟨B, _, _, _, _, g1, _, g3⟩ := good_calls (s := A) (by omega) hbA
    have E1 := Lib.hid e1
    have E3 := Lib.hid e3
    have G1 := Lib.hid g1
    have G3 := Lib.hid g3
    clear hbad e1 e3 g1 g3 hbA
    go_enter Try.func7, Try.ntmps7
    go_wp2_with fail
    refine (E1.out _).mono ?_
    rintro r w1 ⟨rfl, hb⟩
    have HB1 := Lib.hid (more HB0.out (Nat.le_refl _) hb)
    clear hb
    go_wp2_with fail
    refine (num_any _ _).mono ?_
    rintro r w1 ⟨rfl, rfl⟩
    go_wp2_with fail
    refine (G1.out _).mono ?_
    rintro r w1 ⟨rfl, hb⟩
    have HB2 := Lib.hid (more HB1.out (Nat.le_refl _) hb)
    clear hb
    go_wp2_with fail
    refine (num_any _ _).mono ?_
    rintro r w1 ⟨rfl, rfl⟩
    go_wp2_with fail
    refine (G3.out _).mono ?_
    rintro r w1 ⟨rfl, hb⟩
    have HB3 := Lib.hid (more HB2.out (Nat.le_refl _) hb)
    clear hb
    go_wp2_with fail
    refine (G3.out _).mono ?_
    rintro r w1 ⟨rfl, hb⟩
    have HB4 := Lib.hid (more HB3.out (Nat.le_refl _) hb)
    clear hb
    go_wp2_with fail
    refine (E3.out _).mono ?_
    rintro r w1 ⟨rfl, hb⟩
    have HB5 := Lib.hid (more HB4.out (Nat.le_refl _) hb)
    clear hb
    go_wp2_with fail
    refine (L.out _).mono ?_
    rintro r w1 ⟨rfl, hb⟩
    have HB6 := Lib.hid (more HB5.out (Nat.le_refl _) hb)
    clear hb
    go_wp2_with fail
    go_ret
    exact ⟨rfl, HB6.out⟩

set_option maxHeartbeats 1000000 in
theorem escapeApart_walk (s t : ByteArray) (w : World) (hs0 : s.size ≤ 140737488351232) (ht0 : t.size ≤ 140737488351232) : Calls Try.prog 5 #[.string s, .string t] w fun e w' => e = .returned (.bool true) ∧ Below w.heap.size w w' := by
  have HB0 : Hid (Below w.heap.size w w) := Below.refl _ _
  have L := Lib.hid (fun W => live_any W)
  by_cases hbig : 3000 < s.size + t.size
  · have f : decide ((3000 : Int) < s.size + t.size) = true := by simp; omega
    clear hbig
    go_enter Try.func5, Try.ntmps5
    go_wp2_with fail
    refine (L.out _).mono ?_
    rintro r w1 ⟨rfl, hb⟩
    have HB1 := Lib.hid (more HB0.out (Nat.le_refl _) hb)
    clear hb
    go_wp2_with fail
    go_ret
    exact ⟨rfl, HB1.out⟩
  have f : decide ((3000 : Int) < s.size + t.size) = false := by simp; omega
  have hs : s.size + t.size ≤ 3000 := by omega
  clear hbig
  cases hbad : bad s.data.toList with
  | true =>
    have E1 := Lib.hid (fun W => escape_bad s W (by omega) hbad)
    cases hbat : bad t.data.toList with
    | true =>
      have E2 := Lib.hid (fun W => escape_bad t W (by omega) hbat)
      clear hbad hbat
      go_enter Try.func5, Try.ntmps5
      go_wp2_with fail
      refine (E1.out _).mono ?_
      rintro r w1 ⟨rfl, hb⟩
      have HB1 := Lib.hid (more HB0.out (Nat.le_refl _) hb)
      clear hb
      go_wp2_with fail
      refine (E2.out _).mono ?_
      rintro r w1 ⟨rfl, hb⟩
      have HB2 := Lib.hid (more HB1.out (Nat.le_refl _) hb)
      clear hb
      go_wp2_with fail
      refine (num_any _ _).mono ?_
      rintro r w1 ⟨rfl, rfl⟩
      go_wp2_with fail
      refine (num_any _ _).mono ?_
      rintro r w1 ⟨rfl, rfl⟩
      go_wp2_with fail
      refine (L.out _).mono ?_
      rintro r w1 ⟨rfl, hb⟩
      have HB3 := Lib.hid (more HB2.out (Nat.le_refl _) hb)
      clear hb
      go_wp2_with fail
      go_ret
      exact ⟨rfl, HB3.out⟩
    | false =>
      have E2 := Lib.hid (fun W => escape_good t W (by omega) hbat)
      generalize (⟨(E t.data.toList).toArray⟩ : ByteArray) = B at E2
      clear hbad hbat
      go_enter Try.func5, Try.ntmps5
      go_wp2_with fail
      refine (E1.out _).mono ?_
      rintro r w1 ⟨rfl, hb⟩
      have HB1 := Lib.hid (more HB0.out (Nat.le_refl _) hb)
      clear hb
      go_wp2_with fail
      refine (E2.out _).mono ?_
      rintro r w1 ⟨rfl, hb⟩
      have HB2 := Lib.hid (more HB1.out (Nat.le_refl _) hb)
      clear hb
      go_wp2_with fail
      refine (num_any _ _).mono ?_
      rintro r w1 ⟨rfl, rfl⟩
      go_wp2_with fail
      refine (num_any _ _).mono ?_
      rintro r w1 ⟨rfl, rfl⟩
      go_wp2_with fail
      refine (L.out _).mono ?_
      rintro r w1 ⟨rfl, hb⟩
      have HB3 := Lib.hid (more HB2.out (Nat.le_refl _) hb)
      clear hb
      go_wp2_with fail
      go_ret
      exact ⟨rfl, HB3.out⟩
  | false =>
    obtain ⟨A, hA, _, _, _, e1, _, e3⟩ := good_calls (by omega) hbad
    have E1 := Lib.hid e1
    cases hbat : bad t.data.toList with
    | true =>
      have E2 := Lib.hid (fun W => escape_bad t W (by omega) hbat)
      clear hbad hbat hA e1 e3
      go_enter Try.func5, Try.ntmps5
      go_wp2_with fail
      refine (E1.out _).mono ?_
      rintro r w1 ⟨rfl, hb⟩
      have HB1 := Lib.hid (more HB0.out (Nat.le_refl _) hb)
      clear hb
      go_wp2_with fail
      refine (E2.out _).mono ?_
      rintro r w1 ⟨rfl, hb⟩
      have HB2 := Lib.hid (more HB1.out (Nat.le_refl _) hb)
      clear hb
      go_wp2_with fail
      refine (num_any _ _).mono ?_
      rintro r w1 ⟨rfl, rfl⟩
      go_wp2_with fail
      refine (num_any _ _).mono ?_
      rintro r w1 ⟨rfl, rfl⟩
      go_wp2_with fail
      refine (L.out _).mono ?_
      rintro r w1 ⟨rfl, hb⟩
      have HB3 := Lib.hid (more HB2.out (Nat.le_refl _) hb)
      clear hb
      go_wp2_with fail
      go_ret
      exact ⟨rfl, HB3.out⟩
    | false =>
      by_cases hst : s = t
      · subst hst
        clear hbad hbat hA e1 e3
        go_enter Try.func5, Try.ntmps5
        go_wp2_with fail
        refine (E1.out _).mono ?_
        rintro r w1 ⟨rfl, hb⟩
        have HB1 := Lib.hid (more HB0.out (Nat.le_refl _) hb)
        clear hb
        go_wp2_with fail
        refine (E1.out _).mono ?_
        rintro r w1 ⟨rfl, hb⟩
        have HB2 := Lib.hid (more HB1.out (Nat.le_refl _) hb)
        clear hb
        go_wp2_with fail
        refine (num_any _ _).mono ?_
        rintro r w1 ⟨rfl, rfl⟩
        go_wp2_with fail
        refine (num_any _ _).mono ?_
        rintro r w1 ⟨rfl, rfl⟩
        go_wp2_with fail
        refine (L.out _).mono ?_
        rintro r w1 ⟨rfl, hb⟩
        have HB3 := Lib.hid (more HB2.out (Nat.le_refl _) hb)
        clear hb
        go_wp2_with fail
        go_ret
        exact ⟨rfl, HB3.out⟩
      · obtain ⟨B, hB, _, _, _, g1, _, g3⟩ := good_calls (s := t) (by omega) hbat
        have E2 := Lib.hid g1
        have q1 : (s.toList == t.toList) = false := by
          rw [beq_eq_false_iff_ne, ByteArray.toList_eq, ByteArray.toList_eq]
          exact fun e => hst (bytes_ext e)
        have q2 : (A.toList == B.toList) = false := by
          rw [beq_eq_false_iff_ne, ByteArray.toList_eq, ByteArray.toList_eq]
          intro e
          rw [hA, hB] at e
          have := congrArg (U true) e
          rw [back hbad, back hbat] at this
          exact hst (bytes_ext this)
        clear hbad hbat hA hB e1 e3 g1 g3 hst
        go_enter Try.func5, Try.ntmps5
        go_wp2_with fail
        refine (E1.out _).mono ?_
        rintro r w1 ⟨rfl, hb⟩
        have HB1 := Lib.hid (more HB0.out (Nat.le_refl _) hb)
        clear hb
        go_wp2_with fail
        refine (E2.out _).mono ?_
        rintro r w1 ⟨rfl, hb⟩
        have HB2 := Lib.hid (more HB1.out (Nat.le_refl _) hb)
        clear hb
        go_wp2_with fail
        refine (num_any _ _).mono ?_
        rintro r w1 ⟨rfl, rfl⟩
        go_wp2_with fail
        refine (num_any _ _).mono ?_
        rintro r w1 ⟨rfl, rfl⟩
        go_wp2_with fail
        refine (L.out _).mono ?_
        rintro r w1 ⟨rfl, hb⟩
        have HB3 := Lib.hid (more HB2.out (Nat.le_refl _) hb)
        clear hb
        go_wp2_with fail
        go_ret
        exact ⟨rfl, HB3.out⟩

set_option maxHeartbeats 1000000 in
theorem escapePlain_walk (s t : ByteArray) (w : World) (hs0 : s.size ≤ 140737488351232) (ht0 : t.size ≤ 140737488351232) : Calls Try.prog 6 #[.string s, .string t] w fun e w' => e = .returned (.bool true) ∧ Below w.heap.size w w' := by
  have HB0 : Hid (Below w.heap.size w w) := Below.refl _ _
  have L := Lib.hid (fun W => live_any W)
  by_cases hbig : 3000 < s.size + t.size
  · have f : decide ((3000 : Int) < s.size + t.size) = true := by simp; omega
    clear hbig
    go_enter Try.func6, Try.ntmps6
    go_wp2_with fail
    refine (L.out _).mono ?_
    rintro r w1 ⟨rfl, hb⟩
    have HB1 := Lib.hid (more HB0.out (Nat.le_refl _) hb)
    clear hb
    go_wp2_with fail
    go_ret
    exact ⟨rfl, HB1.out⟩
  have f : decide ((3000 : Int) < s.size + t.size) = false := by simp; omega
  have hs : s.size + t.size ≤ 3000 := by omega
  clear hbig
  have U1 := Lib.hid (fun W => unescape_any t W (by omega))
  have hu := U_len _ t.data.toList true (Nat.le_refl _)
  have hT : (⟨(U true t.data.toList).toArray⟩ : ByteArray).size ≤ t.size := by rw [Lib.size_eq, Lib.size_eq]; exact hu
  generalize (⟨(U true t.data.toList).toArray⟩ : ByteArray) = u at U1 hT
  have f2 : decide ((t.size : Int) < u.size) = false := by simp; omega
  have HL := Lib.hid (len_size s)
  clear hu
  go_enter Try.func6, Try.ntmps6
  go_wp2_with fail
  refine (U1.out _).mono ?_
  rintro r w1 ⟨rfl, hb⟩
  have HB1 := Lib.hid (more HB0.out (Nat.le_refl _) hb)
  clear hb
  go_wp2_with fail
  go_loopw [5] (fun i wr => ∃ k : Nat, i = .int .i64 k ∧ k ≤ s.size ∧ Hid (∀ j, j < k → plainN (nb s.data.toList j) = true) ∧ Hid (Below w.heap.size w wr)) (fun i _ => s.size - (RowKit.intOf i).toNat)
  case atStart => exact ⟨0, rfl, by omega, (fun j hj => by omega), HB1.out⟩
  case round =>
    obtain ⟨k, rfl, hk, HA, HB2⟩ := hrel
    by_cases hlt : k < s.size
    · have hbk := byte_nb s k hlt
      have HA2 : Hid (plainN (nb s.data.toList k) = true → ∀ j, j < k + 1 → plainN (nb s.data.toList j) = true) := by
        intro hp j hj
        by_cases e : j = k
        · subst e; exact hp
        · exact HA.out j (by omega)
      generalize hx : nb s.data.toList k = x at hbk HA2
      clear hx HA
      by_cases h0 : 97 ≤ x ∧ x ≤ 122
      · have HP := Lib.hid (HA2.out (by unfold plainN; simp; omega))
        have d1 : decide ((97 : Int) ≤ x) = true := by simp; omega
        have d2 : decide ((x : Int) ≤ 122) = true := by simp; omega
        clear h0 HA2
        go_wp2_with fail
        exact ⟨⟨k + 1, by go_num, by omega, HP.out, HB2.out⟩, by simp [RowKit.intOf]; omega⟩
      · skip
        by_cases h1 : 48 ≤ x ∧ x ≤ 57
        · have HP := Lib.hid (HA2.out (by unfold plainN; simp; omega))
          have d1 : decide ((97 : Int) ≤ x) = false := by simp; omega
          have d3 : decide ((48 : Int) ≤ x) = true := by simp; omega
          have d4 : decide ((x : Int) ≤ 57) = true := by simp; omega
          clear h0 h1 HA2
          go_wp2_with fail
          exact ⟨⟨k + 1, by go_num, by omega, HP.out, HB2.out⟩, by simp [RowKit.intOf]; omega⟩
        · skip
          by_cases h2 : 122 < x
          · have d1 : decide ((97 : Int) ≤ x) = true := by simp; omega
            have d2 : decide ((x : Int) ≤ 122) = false := by simp; omega
            have d3 : decide ((48 : Int) ≤ x) = true := by simp; omega
            have d4 : decide ((x : Int) ≤ 57) = false := by simp; omega
            clear h0 h1 h2 HA2
            go_wp2_with fail
            refine (L.out _).mono ?_
            rintro r w1 ⟨rfl, hb⟩
            have HB3 := Lib.hid (more HB2.out (Nat.le_refl _) hb)
            clear hb
            go_wp2_with fail
            go_ret
            exact ⟨rfl, HB3.out⟩
          · skip
            by_cases h3 : 57 < x
            · have d1 : decide ((97 : Int) ≤ x) = false := by simp; omega
              have d3 : decide ((48 : Int) ≤ x) = true := by simp; omega
              have d4 : decide ((x : Int) ≤ 57) = false := by simp; omega
              clear h0 h1 h2 h3 HA2
              go_wp2_with fail
              refine (L.out _).mono ?_
              rintro r w1 ⟨rfl, hb⟩
              have HB3 := Lib.hid (more HB2.out (Nat.le_refl _) hb)
              clear hb
              go_wp2_with fail
              go_ret
              exact ⟨rfl, HB3.out⟩
            · skip
              have d1 : decide ((97 : Int) ≤ x) = false := by simp; omega
              have d3 : decide ((48 : Int) ≤ x) = false := by simp; omega
              clear h0 h1 h2 h3 HA2
              go_wp2_with fail
              refine (L.out _).mono ?_
              rintro r w1 ⟨rfl, hb⟩
              have HB3 := Lib.hid (more HB2.out (Nat.le_refl _) hb)
              clear hb
              go_wp2_with fail
              go_ret
              exact ⟨rfl, HB3.out⟩
    · obtain rfl : k = s.size := by omega
      by_cases h0 : s.size = 0
      · obtain rfl := empty_of h0
        clear h0 HA
        go_wp2_with fail
        refine (L.out _).mono ?_
        rintro r w1 ⟨rfl, hb⟩
        have HB3 := Lib.hid (more HB2.out (Nat.le_refl _) hb)
        clear hb
        go_wp2_with fail
        go_ret
        exact ⟨rfl, HB3.out⟩
      · have hne := nonempty h0
        have hp : ∀ b ∈ s.data.toList, plain b = true := by
          intro b hb
          obtain ⟨i, hi, e⟩ := List.mem_iff_getElem.1 hb
          have := HA.out i (by rw [← HL.out]; exact hi)
          unfold nb at this
          rw [List.getD_eq_getElem?_getD, List.getElem?_eq_getElem hi] at this
          subst e
          exact this
        have hn0 : s.data.toList ≠ [] := fun e => h0 (by rw [Lib.size_eq, e]; rfl)
        have es : (⟨s.data.toList.toArray⟩ : ByteArray) = s := bytes_ext (by simp)
        have E1 := Lib.hid (fun W => escape_good s W (by omega) (plain_bad hn0 hp))
        have E2 := Lib.hid (fun W => unescape_any s W (by omega))
        have E3 := Lib.hid (fun W => is_any s W (by omega))
        rw [E_plain hp, es] at E1
        rw [U_plain true hp, es] at E2
        rw [plain_is hn0 hp] at E3
        clear h0 HA hp hn0 es
        go_wp2_with fail
        refine (E1.out _).mono ?_
        rintro r w1 ⟨rfl, hb⟩
        have HB3 := Lib.hid (more HB2.out (Nat.le_refl _) hb)
        clear hb
        go_wp2_with fail
        refine (num_any _ _).mono ?_
        rintro r w1 ⟨rfl, rfl⟩
        go_wp2_with fail
        refine (E2.out _).mono ?_
        rintro r w1 ⟨rfl, hb⟩
        have HB4 := Lib.hid (more HB3.out (Nat.le_refl _) hb)
        clear hb
        go_wp2_with fail
        refine (E3.out _).mono ?_
        rintro r w1 ⟨rfl, hb⟩
        have HB5 := Lib.hid (more HB4.out (Nat.le_refl _) hb)
        clear hb
        go_wp2_with fail
        refine (L.out _).mono ?_
        rintro r w1 ⟨rfl, hb⟩
        have HB6 := Lib.hid (more HB5.out (Nat.le_refl _) hb)
        clear hb
        go_wp2_with fail
        go_ret
        exact ⟨rfl, HB6.out⟩

end Go.Proofs.Ytpgpiopkaabncaa
