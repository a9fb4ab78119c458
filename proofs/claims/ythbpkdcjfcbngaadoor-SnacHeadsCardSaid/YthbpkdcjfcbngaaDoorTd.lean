/- Contracts: Int, Num, Text (package tlv's, and the document's own), whatever the arguments. Condition: a text takes at most what a machine can hold. -/
import Derived.Test.YthbpkdcjfcbngaaDoorTc
namespace Go.Proofs.YthbpkdcjfcbngaaDoor
open Go.RowKit Go.Lib

theorem wrap_nat (x : Nat) (h : x < 8589934592) : wrap64 (x : Int) = x := by
  unfold wrap64
  omega
theorem nat_join8 (m y : Nat) (hy : y < 256) : m * 256 ||| y = m * 256 + y := by
  have h := Nat.two_pow_add_eq_or_of_lt (i := 8) hy m
  rw [Nat.mul_comm m 256]
  exact h.symm
theorem or_step (m y : Nat) (hm : m < 16777216) (hy : y < 256) : bits .or .i64 (wrap64 ((m : Int) * 256)) (y : Int) = ((m * 256 + y : Nat) : Int) := by
  have e : wrap64 ((m : Int) * 256) = ((m * 256 : Nat) : Int) := by
    have := wrap_nat (m * 256) (by omega)
    rw [← this]
    congr 1
  rw [e]
  have h1 : (BitVec.ofInt 64 ((m * 256 : Nat) : Int)).toNat = m * 256 := by
    rw [BitVec.ofInt_natCast, BitVec.toNat_ofNat]; exact Nat.mod_eq_of_lt (by omega)
  have h2 : (BitVec.ofInt 64 (y : Int)).toNat = y := by
    rw [BitVec.ofInt_natCast, BitVec.toNat_ofNat]; exact Nat.mod_eq_of_lt (by omega)
  show IntKind.i64.wrap ((BitVec.ofInt 64 ((m * 256 : Nat) : Int) ||| BitVec.ofInt 64 (y : Int)).toNat : Int) = _
  rw [BitVec.toNat_or, h1, h2, nat_join8 m y hy]
  simp only [IntKind.wrap, IntKind.bits, IntKind.signed]
  simp
  omega
theorem add_step (m y : Nat) (hm : m < 16777216) (hy : y < 256) : wrap64 (wrap64 ((m : Int) * 256) + y) = ((m * 256 + y : Nat) : Int) := by
  unfold wrap64
  omega
set_option maxRecDepth 100000 in
set_option maxHeartbeats 2000000 in
theorem int_wid (n width : Int) (w : World) (h : wid width = false) : Calls Tryd.prog 25 #[.int .i64 n, .int .i64 width] w (Gives (.tuple #[.string ⟨#[]⟩, .int .i64 2]) w) := by
  go_enter Tryd.func25, Tryd.ntmps25
  go_wp2_with fail
  refine (isWidth_any _ _).mono ?_
  rintro e w1 ⟨rfl, hw⟩
  have hw := hw.symm
  subst hw
  rw [h]
  clear h
  go_wp2_with fail
  go_ret2
  exact ⟨rfl, Below.refl _ _⟩
set_option maxRecDepth 100000 in
set_option maxHeartbeats 2000000 in
theorem int_neg_1 (n : Int) (w : World) (h : n < 0) : Calls Tryd.prog 25 #[.int .i64 n, .int .i64 1] w (Gives (.tuple #[.string ⟨#[]⟩, .int .i64 2]) w) := by
  go_enter Tryd.func25, Tryd.ntmps25
  go_wp2_with fail
  refine (isWidth_any _ _).mono ?_
  rintro e w1 ⟨rfl, hw⟩
  have hw := hw.symm
  subst hw
  rw [show wid 1 = true from rfl]
  go_wp2_with fail
  go_ret2
  exact ⟨rfl, Below.refl _ _⟩
set_option maxRecDepth 100000 in
set_option maxHeartbeats 2000000 in
theorem int_big_1 (n : Int) (w : World) (h : 256 ≤ n) : Calls Tryd.prog 25 #[.int .i64 n, .int .i64 1] w (Gives (.tuple #[.string ⟨#[]⟩, .int .i64 2]) w) := by
  go_enter Tryd.func25, Tryd.ntmps25
  go_wp2_with fail
  refine (isWidth_any _ _).mono ?_
  rintro e w1 ⟨rfl, hw⟩
  have hw := hw.symm
  subst hw
  rw [show wid 1 = true from rfl]
  have q1 : ¬ (n < 0) := by omega
  have q2 : decide ((256 : Int) ≤ n) = true := by simp; omega
  clear h
  go_wp2_with fail
  go_ret2
  exact ⟨rfl, Below.refl _ _⟩
set_option maxRecDepth 100000 in
set_option maxHeartbeats 2000000 in
theorem int_neg_2 (n : Int) (w : World) (h : n < 0) : Calls Tryd.prog 25 #[.int .i64 n, .int .i64 2] w (Gives (.tuple #[.string ⟨#[]⟩, .int .i64 2]) w) := by
  go_enter Tryd.func25, Tryd.ntmps25
  go_wp2_with fail
  refine (isWidth_any _ _).mono ?_
  rintro e w1 ⟨rfl, hw⟩
  have hw := hw.symm
  subst hw
  rw [show wid 2 = true from rfl]
  go_wp2_with fail
  go_ret2
  exact ⟨rfl, Below.refl _ _⟩
set_option maxRecDepth 100000 in
set_option maxHeartbeats 2000000 in
theorem int_big_2 (n : Int) (w : World) (h : 65536 ≤ n) : Calls Tryd.prog 25 #[.int .i64 n, .int .i64 2] w (Gives (.tuple #[.string ⟨#[]⟩, .int .i64 2]) w) := by
  go_enter Tryd.func25, Tryd.ntmps25
  go_wp2_with fail
  refine (isWidth_any _ _).mono ?_
  rintro e w1 ⟨rfl, hw⟩
  have hw := hw.symm
  subst hw
  rw [show wid 2 = true from rfl]
  have q1 : ¬ (n < 0) := by omega
  have q2 : decide ((65536 : Int) ≤ n) = true := by simp; omega
  clear h
  go_wp2_with fail
  go_ret2
  exact ⟨rfl, Below.refl _ _⟩
set_option maxRecDepth 100000 in
set_option maxHeartbeats 2000000 in
theorem int_neg_4 (n : Int) (w : World) (h : n < 0) : Calls Tryd.prog 25 #[.int .i64 n, .int .i64 4] w (Gives (.tuple #[.string ⟨#[]⟩, .int .i64 2]) w) := by
  go_enter Tryd.func25, Tryd.ntmps25
  go_wp2_with fail
  refine (isWidth_any _ _).mono ?_
  rintro e w1 ⟨rfl, hw⟩
  have hw := hw.symm
  subst hw
  rw [show wid 4 = true from rfl]
  go_wp2_with fail
  go_ret2
  exact ⟨rfl, Below.refl _ _⟩
set_option maxRecDepth 100000 in
set_option maxHeartbeats 2000000 in
theorem int_big_4 (n : Int) (w : World) (h : 4294967296 ≤ n) : Calls Tryd.prog 25 #[.int .i64 n, .int .i64 4] w (Gives (.tuple #[.string ⟨#[]⟩, .int .i64 2]) w) := by
  go_enter Tryd.func25, Tryd.ntmps25
  go_wp2_with fail
  refine (isWidth_any _ _).mono ?_
  rintro e w1 ⟨rfl, hw⟩
  have hw := hw.symm
  subst hw
  rw [show wid 4 = true from rfl]
  have q1 : ¬ (n < 0) := by omega
  have q2 : decide ((4294967296 : Int) ≤ n) = true := by simp; omega
  clear h
  go_wp2_with fail
  go_ret2
  exact ⟨rfl, Below.refl _ _⟩
theorem int_any (n width : Int) (w : World) : Calls Tryd.prog 25 #[.int .i64 n, .int .i64 width] w (Gives (.tuple #[.string (intS n width), .int .i64 (intE n width)]) w) := by
  have no : intOk n width = false → intS n width = ⟨#[]⟩ ∧ intE n width = 2 := fun h => ⟨by unfold intS; rw [if_neg (by rw [h]; decide)], by unfold intE; rw [if_neg (by rw [h]; decide)]⟩
  have yes : intOk n width = true → intS n width = mk (dig n.toNat width.toNat) ∧ intE n width = 0 := fun h => ⟨by unfold intS; rw [if_pos h], by unfold intE; rw [if_pos h]⟩
  cases hw : wid width
  · obtain ⟨e1, e2⟩ := no (by unfold intOk; rw [hw]; rfl)
    rw [e1, e2]
    exact int_wid n width w hw
  · by_cases hn : n < 0
    · obtain ⟨e1, e2⟩ := no (by unfold intOk; rw [decide_eq_false (show ¬ 0 ≤ n by omega)]; simp)
      rw [e1, e2]
      rcases wid_cases hw with rfl | rfl | rfl
      · exact int_neg_1 n w hn
      · exact int_neg_2 n w hn
      · exact int_neg_4 n w hn
    · obtain ⟨x, rfl⟩ : ∃ x : Nat, n = x := ⟨n.toNat, by omega⟩
      rcases wid_cases hw with rfl | rfl | rfl
      · by_cases hb : x < 256
        · obtain ⟨e1, e2⟩ := yes (by unfold intOk; rw [show wid 1 = true from rfl, decide_eq_true (show (0 : Int) ≤ x by omega), decide_eq_true (show (x : Int) < 256 ^ ((1 : Int).toNat) by show (x : Int) < 256; omega)]; rfl)
          rw [e1, e2]
          exact int_1 x w hb
        · obtain ⟨e1, e2⟩ := no (by unfold intOk; rw [decide_eq_false (show ¬ ((x : Int) < 256 ^ ((1 : Int).toNat)) by show ¬ ((x : Int) < 256); omega)]; simp)
          rw [e1, e2]
          exact int_big_1 x w (by omega)
      · by_cases hb : x < 65536
        · obtain ⟨e1, e2⟩ := yes (by unfold intOk; rw [show wid 2 = true from rfl, decide_eq_true (show (0 : Int) ≤ x by omega), decide_eq_true (show (x : Int) < 256 ^ ((2 : Int).toNat) by show (x : Int) < 65536; omega)]; rfl)
          rw [e1, e2]
          exact int_2 x w hb
        · obtain ⟨e1, e2⟩ := no (by unfold intOk; rw [decide_eq_false (show ¬ ((x : Int) < 256 ^ ((2 : Int).toNat)) by show ¬ ((x : Int) < 65536); omega)]; simp)
          rw [e1, e2]
          exact int_big_2 x w (by omega)
      · by_cases hb : x < 4294967296
        · obtain ⟨e1, e2⟩ := yes (by unfold intOk; rw [show wid 4 = true from rfl, decide_eq_true (show (0 : Int) ≤ x by omega), decide_eq_true (show (x : Int) < 256 ^ ((4 : Int).toNat) by show (x : Int) < 4294967296; omega)]; rfl)
          rw [e1, e2]
          exact int_4 x w hb
        · obtain ⟨e1, e2⟩ := no (by unfold intOk; rw [decide_eq_false (show ¬ ((x : Int) < 256 ^ ((4 : Int).toNat)) by show ¬ ((x : Int) < 4294967296); omega)]; simp)
          rw [e1, e2]
          exact int_big_4 x w (by omega)
set_option maxRecDepth 100000 in
set_option maxHeartbeats 2000000 in
theorem rint_wid (n width : Int) (w : World) (h : wid width = false) : Calls Tryd.prog 19 #[.int .i64 n, .int .i64 width] w (Gives (.tuple #[.string ⟨#[]⟩, .int .i64 2]) w) := by
  go_enter Tryd.func19, Tryd.ntmps19
  go_wp2_with fail
  refine (rwidth_any _ _).mono ?_
  rintro e w1 ⟨rfl, hw⟩
  have hw := hw.symm
  subst hw
  rw [h]
  clear h
  go_wp2_with fail
  go_ret2
  exact ⟨rfl, Below.refl _ _⟩
set_option maxRecDepth 100000 in
set_option maxHeartbeats 2000000 in
theorem rint_neg_1 (n : Int) (w : World) (h : n < 0) : Calls Tryd.prog 19 #[.int .i64 n, .int .i64 1] w (Gives (.tuple #[.string ⟨#[]⟩, .int .i64 2]) w) := by
  go_enter Tryd.func19, Tryd.ntmps19
  go_wp2_with fail
  refine (rwidth_any _ _).mono ?_
  rintro e w1 ⟨rfl, hw⟩
  have hw := hw.symm
  subst hw
  rw [show wid 1 = true from rfl]
  go_wp2_with fail
  go_ret2
  exact ⟨rfl, Below.refl _ _⟩
set_option maxRecDepth 100000 in
set_option maxHeartbeats 2000000 in
theorem rint_big_1 (n : Int) (w : World) (h : 256 ≤ n) : Calls Tryd.prog 19 #[.int .i64 n, .int .i64 1] w (Gives (.tuple #[.string ⟨#[]⟩, .int .i64 2]) w) := by
  go_enter Tryd.func19, Tryd.ntmps19
  go_wp2_with fail
  refine (rwidth_any _ _).mono ?_
  rintro e w1 ⟨rfl, hw⟩
  have hw := hw.symm
  subst hw
  rw [show wid 1 = true from rfl]
  have q1 : ¬ (n < 0) := by omega
  have q2 : decide ((256 : Int) ≤ n) = true := by simp; omega
  clear h
  go_wp2_with fail
  go_ret2
  exact ⟨rfl, Below.refl _ _⟩
set_option maxRecDepth 100000 in
set_option maxHeartbeats 2000000 in
theorem rint_neg_2 (n : Int) (w : World) (h : n < 0) : Calls Tryd.prog 19 #[.int .i64 n, .int .i64 2] w (Gives (.tuple #[.string ⟨#[]⟩, .int .i64 2]) w) := by
  go_enter Tryd.func19, Tryd.ntmps19
  go_wp2_with fail
  refine (rwidth_any _ _).mono ?_
  rintro e w1 ⟨rfl, hw⟩
  have hw := hw.symm
  subst hw
  rw [show wid 2 = true from rfl]
  go_wp2_with fail
  go_ret2
  exact ⟨rfl, Below.refl _ _⟩
set_option maxRecDepth 100000 in
set_option maxHeartbeats 2000000 in
theorem rint_big_2 (n : Int) (w : World) (h : 65536 ≤ n) : Calls Tryd.prog 19 #[.int .i64 n, .int .i64 2] w (Gives (.tuple #[.string ⟨#[]⟩, .int .i64 2]) w) := by
  go_enter Tryd.func19, Tryd.ntmps19
  go_wp2_with fail
  refine (rwidth_any _ _).mono ?_
  rintro e w1 ⟨rfl, hw⟩
  have hw := hw.symm
  subst hw
  rw [show wid 2 = true from rfl]
  have q1 : ¬ (n < 0) := by omega
  have q2 : decide ((65536 : Int) ≤ n) = true := by simp; omega
  clear h
  go_wp2_with fail
  go_ret2
  exact ⟨rfl, Below.refl _ _⟩
set_option maxRecDepth 100000 in
set_option maxHeartbeats 2000000 in
theorem rint_neg_4 (n : Int) (w : World) (h : n < 0) : Calls Tryd.prog 19 #[.int .i64 n, .int .i64 4] w (Gives (.tuple #[.string ⟨#[]⟩, .int .i64 2]) w) := by
  go_enter Tryd.func19, Tryd.ntmps19
  go_wp2_with fail
  refine (rwidth_any _ _).mono ?_
  rintro e w1 ⟨rfl, hw⟩
  have hw := hw.symm
  subst hw
  rw [show wid 4 = true from rfl]
  go_wp2_with fail
  go_ret2
  exact ⟨rfl, Below.refl _ _⟩
set_option maxRecDepth 100000 in
set_option maxHeartbeats 2000000 in
theorem rint_big_4 (n : Int) (w : World) (h : 4294967296 ≤ n) : Calls Tryd.prog 19 #[.int .i64 n, .int .i64 4] w (Gives (.tuple #[.string ⟨#[]⟩, .int .i64 2]) w) := by
  go_enter Tryd.func19, Tryd.ntmps19
  go_wp2_with fail
  refine (rwidth_any _ _).mono ?_
  rintro e w1 ⟨rfl, hw⟩
  have hw := hw.symm
  subst hw
  rw [show wid 4 = true from rfl]
  have q1 : ¬ (n < 0) := by omega
  have q2 : decide ((4294967296 : Int) ≤ n) = true := by simp; omega
  clear h
  go_wp2_with fail
  go_ret2
  exact ⟨rfl, Below.refl _ _⟩
theorem rint_any (n width : Int) (w : World) : Calls Tryd.prog 19 #[.int .i64 n, .int .i64 width] w (Gives (.tuple #[.string (intS n width), .int .i64 (intE n width)]) w) := by
  have no : intOk n width = false → intS n width = ⟨#[]⟩ ∧ intE n width = 2 := fun h => ⟨by unfold intS; rw [if_neg (by rw [h]; decide)], by unfold intE; rw [if_neg (by rw [h]; decide)]⟩
  have yes : intOk n width = true → intS n width = mk (dig n.toNat width.toNat) ∧ intE n width = 0 := fun h => ⟨by unfold intS; rw [if_pos h], by unfold intE; rw [if_pos h]⟩
  cases hw : wid width
  · obtain ⟨e1, e2⟩ := no (by unfold intOk; rw [hw]; rfl)
    rw [e1, e2]
    exact rint_wid n width w hw
  · by_cases hn : n < 0
    · obtain ⟨e1, e2⟩ := no (by unfold intOk; rw [decide_eq_false (show ¬ 0 ≤ n by omega)]; simp)
      rw [e1, e2]
      rcases wid_cases hw with rfl | rfl | rfl
      · exact rint_neg_1 n w hn
      · exact rint_neg_2 n w hn
      · exact rint_neg_4 n w hn
    · obtain ⟨x, rfl⟩ : ∃ x : Nat, n = x := ⟨n.toNat, by omega⟩
      rcases wid_cases hw with rfl | rfl | rfl
      · by_cases hb : x < 256
        · obtain ⟨e1, e2⟩ := yes (by unfold intOk; rw [show wid 1 = true from rfl, decide_eq_true (show (0 : Int) ≤ x by omega), decide_eq_true (show (x : Int) < 256 ^ ((1 : Int).toNat) by show (x : Int) < 256; omega)]; rfl)
          rw [e1, e2]
          exact rint_1 x w hb
        · obtain ⟨e1, e2⟩ := no (by unfold intOk; rw [decide_eq_false (show ¬ ((x : Int) < 256 ^ ((1 : Int).toNat)) by show ¬ ((x : Int) < 256); omega)]; simp)
          rw [e1, e2]
          exact rint_big_1 x w (by omega)
      · by_cases hb : x < 65536
        · obtain ⟨e1, e2⟩ := yes (by unfold intOk; rw [show wid 2 = true from rfl, decide_eq_true (show (0 : Int) ≤ x by omega), decide_eq_true (show (x : Int) < 256 ^ ((2 : Int).toNat) by show (x : Int) < 65536; omega)]; rfl)
          rw [e1, e2]
          exact rint_2 x w hb
        · obtain ⟨e1, e2⟩ := no (by unfold intOk; rw [decide_eq_false (show ¬ ((x : Int) < 256 ^ ((2 : Int).toNat)) by show ¬ ((x : Int) < 65536); omega)]; simp)
          rw [e1, e2]
          exact rint_big_2 x w (by omega)
      · by_cases hb : x < 4294967296
        · obtain ⟨e1, e2⟩ := yes (by unfold intOk; rw [show wid 4 = true from rfl, decide_eq_true (show (0 : Int) ≤ x by omega), decide_eq_true (show (x : Int) < 256 ^ ((4 : Int).toNat) by show (x : Int) < 4294967296; omega)]; rfl)
          rw [e1, e2]
          exact rint_4 x w hb
        · obtain ⟨e1, e2⟩ := no (by unfold intOk; rw [decide_eq_false (show ¬ ((x : Int) < 256 ^ ((4 : Int).toNat)) by show ¬ ((x : Int) < 4294967296); omega)]; simp)
          rw [e1, e2]
          exact rint_big_4 x w (by omega)
set_option maxRecDepth 100000 in
set_option maxHeartbeats 2000000 in
theorem num_any (s : ByteArray) (w : World) : Calls Tryd.prog 27 #[.string s] w (Pure (.tuple #[.int .i64 (numV s), .int .i64 (numE s)]) w) := by
  unfold numV numE
  cases hw : wid s.size
  · go_enter Tryd.func27, Tryd.ntmps27
    go_wp2_with fail
    refine (isWidth_any _ _).mono ?_
    rintro e w1 ⟨rfl, hx⟩
    have hx := hx.symm
    subst hx
    rw [hw]
    clear hw
    go_wp2_with fail
    go_ret2
    exact ⟨rfl, rfl⟩
  · have hs : s.size ≤ 4 := by have := wid_cases hw; omega
    go_enter Tryd.func27, Tryd.ntmps27
    go_wp2_with fail
    refine (isWidth_any _ _).mono ?_
    rintro e w1 ⟨rfl, hx⟩
    have hx := hx.symm
    subst hx
    rw [hw]
    clear hw
    go_wp2_with fail
    go_loopw [4, 12] (fun n i wr => ∃ k : Nat, i = .int .i64 k ∧ n = .int .i64 (numL (s.data.toList.take k)) ∧ k ≤ s.size ∧ wr = w) (fun _ i _ => s.size - (RowKit.intOf i).toNat)
    case atStart => exact ⟨0, rfl, rfl, Nat.zero_le _, rfl⟩
    case round =>
      obtain ⟨k, rfl, rfl, hk, rfl⟩ := hrel
      by_cases hlt : k < s.size
      · have hb := By.byte_nb s k hlt
        have HS : Hid (numL (s.data.toList.take (k + 1)) = numL (s.data.toList.take k) * 256 + By.nb s.data.toList k) := by
          show _ = _
          rw [List.take_succ_eq_append_getElem (by rw [By.len_size]; exact hlt), numL_snoc]
          congr 1
        have hy := By.nb_lt s.data.toList k
        have hm : numL (s.data.toList.take k) < 16777216 := by
          have := numL_lt (s.data.toList.take k)
          rw [List.length_take, By.len_size] at this
          have h2 : 256 ^ (min k s.size) ≤ 256 ^ 3 := Nat.pow_le_pow_right (by decide) (by omega)
          omega
        generalize By.nb s.data.toList k = y at hb hy HS
        generalize numL (s.data.toList.take k) = m at hm HS ⊢
        have HQ : Hid (bits .or .i64 (wrap64 ((m : Int) * 256)) (y : Int) = ((m * 256 + y : Nat) : Int)) := or_step m y hm hy
        clear hm
        go_wp2_with fail
        exact ⟨⟨k + 1, by go_num, by rw [HQ.out, HS.out], by omega, trivial⟩, by simp [RowKit.intOf]; omega⟩
      · obtain rfl : k = s.size := by omega
        have HE : Hid (numL (s.data.toList.take s.size) = numL s.data.toList) := by
          show _ = _
          rw [List.take_of_length_le (by rw [By.len_size]; exact Nat.le_refl _)]
        go_wp2_with fail
        go_ret2
        exact ⟨by rw [HE.out]; rfl, rfl⟩
set_option maxRecDepth 100000 in
set_option maxHeartbeats 2000000 in
theorem rnum_any (s : ByteArray) (w : World) : Calls Tryd.prog 22 #[.string s] w (Pure (.tuple #[.int .i64 (numV s), .int .i64 (numE s)]) w) := by
  unfold numV numE
  cases hw : wid s.size
  · go_enter Tryd.func22, Tryd.ntmps22
    go_wp2_with fail
    refine (rwidth_any _ _).mono ?_
    rintro e w1 ⟨rfl, hx⟩
    have hx := hx.symm
    subst hx
    rw [hw]
    clear hw
    go_wp2_with fail
    go_ret2
    exact ⟨rfl, rfl⟩
  · have hs : s.size ≤ 4 := by have := wid_cases hw; omega
    go_enter Tryd.func22, Tryd.ntmps22
    go_wp2_with fail
    refine (rwidth_any _ _).mono ?_
    rintro e w1 ⟨rfl, hx⟩
    have hx := hx.symm
    subst hx
    rw [hw]
    clear hw
    go_wp2_with fail
    go_loopw [4, 5] (fun n i wr => ∃ k : Nat, i = .int .i64 k ∧ n = .int .i64 (numL (s.data.toList.take k)) ∧ k ≤ s.size ∧ wr = w) (fun _ i _ => s.size - (RowKit.intOf i).toNat)
    case atStart => exact ⟨0, rfl, rfl, Nat.zero_le _, rfl⟩
    case round =>
      obtain ⟨k, rfl, rfl, hk, rfl⟩ := hrel
      by_cases hlt : k < s.size
      · have hb := By.byte_nb s k hlt
        have HS : Hid (numL (s.data.toList.take (k + 1)) = numL (s.data.toList.take k) * 256 + By.nb s.data.toList k) := by
          show _ = _
          rw [List.take_succ_eq_append_getElem (by rw [By.len_size]; exact hlt), numL_snoc]
          congr 1
        have hy := By.nb_lt s.data.toList k
        have hm : numL (s.data.toList.take k) < 16777216 := by
          have := numL_lt (s.data.toList.take k)
          rw [List.length_take, By.len_size] at this
          have h2 : 256 ^ (min k s.size) ≤ 256 ^ 3 := Nat.pow_le_pow_right (by decide) (by omega)
          omega
        generalize By.nb s.data.toList k = y at hb hy HS
        generalize numL (s.data.toList.take k) = m at hm HS ⊢
        have HQ : Hid (wrap64 (wrap64 ((m : Int) * 256) + y) = ((m * 256 + y : Nat) : Int)) := add_step m y hm hy
        clear hm
        go_wp2_with fail
        exact ⟨⟨k + 1, by go_num, by rw [HQ.out, HS.out], by omega, trivial⟩, by simp [RowKit.intOf]; omega⟩
      · obtain rfl : k = s.size := by omega
        have HE : Hid (numL (s.data.toList.take s.size) = numL s.data.toList) := by
          show _ = _
          rw [List.take_of_length_le (by rw [By.len_size]; exact Nat.le_refl _)]
        go_wp2_with fail
        go_ret2
        exact ⟨by rw [HE.out]; rfl, rfl⟩
end Go.Proofs.YthbpkdcjfcbngaaDoor
