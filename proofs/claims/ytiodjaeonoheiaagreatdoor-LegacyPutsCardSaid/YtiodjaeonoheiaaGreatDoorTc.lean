/- Contracts: Int, Num, Text, First of tlv, and of the document. Conditions: those of each theorem's head. -/
import Derived.Test.YtiodjaeonoheiaaGreatDoorTb
import Derived.Test.YtiodjaeonoheiaaGreatDoorShelf
import Derived.Shelf.Strconv.Clone
set_option maxRecDepth 100000
set_option maxHeartbeats 2000000
namespace Go.Proofs.YtiodjaeonoheiaaGreatDoor.T
open Go.RowKit Go.Lib
theorem wrap_nat (x : Nat) (h : x < 8589934592) : wrap64 (x : Int) = x := by
  unfold wrap64
  omega
theorem nat_join8 (m y : Nat) (hy : y < 256) : m * 256 ||| y = m * 256 + y := by
  have h := Nat.two_pow_add_eq_or_of_lt (i := 8) hy m
  rw [Nat.mul_comm m 256]
  exact h.symm
theorem or_step (m y : Nat) (hm : m < 16777216) (hy : y < 256) : bits .or .i64 (wrap64 ((m : Int) * 256)) (y : Int) = ((m * 256 + y : Nat) : Int) := by
  have e : wrap64 ((m : Int) * 256) = ((m * 256 : Nat) : Int) := by
    have := wrap_nat (m * 256) (by omega)
    rw [← this]
    congr 1
  rw [e]
  have h1 : (BitVec.ofInt 64 ((m * 256 : Nat) : Int)).toNat = m * 256 := by
    rw [BitVec.ofInt_natCast, BitVec.toNat_ofNat]; exact Nat.mod_eq_of_lt (by omega)
  have h2 : (BitVec.ofInt 64 (y : Int)).toNat = y := by
    rw [BitVec.ofInt_natCast, BitVec.toNat_ofNat]; exact Nat.mod_eq_of_lt (by omega)
  show IntKind.i64.wrap ((BitVec.ofInt 64 ((m * 256 : Nat) : Int) ||| BitVec.ofInt 64 (y : Int)).toNat : Int) = _
  rw [BitVec.toNat_or, h1, h2, nat_join8 m y hy]
  simp only [IntKind.wrap, IntKind.bits, IntKind.signed]
  simp
  omega
theorem int_wid (n width : Int) (w : World) (h : wid width = false) : Calls Tryz.prog 83 #[.int .i64 n, .int .i64 width] w (Gives (.tuple #[.string ⟨#[]⟩, .int .i64 2]) w) := by
  go_enter Tryz.func83, Tryz.ntmps83
  go_wp2_with fail
  refine (isWidth_any _ _).mono ?_
  rintro e w1 ⟨rfl, hw⟩
  have hw := hw.symm
  subst hw
  rw [h]
  clear h
  go_wp2_with fail
  go_ret2
  exact ⟨rfl, Below.refl _ _⟩
theorem int_neg_1 (n : Int) (w : World) (h : n < 0) : Calls Tryz.prog 83 #[.int .i64 n, .int .i64 1] w (Gives (.tuple #[.string ⟨#[]⟩, .int .i64 2]) w) := by
  go_enter Tryz.func83, Tryz.ntmps83
  go_wp2_with fail
  refine (isWidth_any _ _).mono ?_
  rintro e w1 ⟨rfl, hw⟩
  have hw := hw.symm
  subst hw
  rw [show wid 1 = true from rfl]
  go_wp2_with fail
  go_ret2
  exact ⟨rfl, Below.refl _ _⟩
theorem int_big_1 (n : Int) (w : World) (h : 256 ≤ n) : Calls Tryz.prog 83 #[.int .i64 n, .int .i64 1] w (Gives (.tuple #[.string ⟨#[]⟩, .int .i64 2]) w) := by
  go_enter Tryz.func83, Tryz.ntmps83
  go_wp2_with fail
  refine (isWidth_any _ _).mono ?_
  rintro e w1 ⟨rfl, hw⟩
  have hw := hw.symm
  subst hw
  rw [show wid 1 = true from rfl]
  have q1 : ¬ (n < 0) := by omega
  have q2 : decide ((256 : Int) ≤ n) = true := by simp; omega
  clear h
  go_wp2_with fail
  go_ret2
  exact ⟨rfl, Below.refl _ _⟩
theorem int_neg_2 (n : Int) (w : World) (h : n < 0) : Calls Tryz.prog 83 #[.int .i64 n, .int .i64 2] w (Gives (.tuple #[.string ⟨#[]⟩, .int .i64 2]) w) := by
  go_enter Tryz.func83, Tryz.ntmps83
  go_wp2_with fail
  refine (isWidth_any _ _).mono ?_
  rintro e w1 ⟨rfl, hw⟩
  have hw := hw.symm
  subst hw
  rw [show wid 2 = true from rfl]
  go_wp2_with fail
  go_ret2
  exact ⟨rfl, Below.refl _ _⟩
theorem int_big_2 (n : Int) (w : World) (h : 65536 ≤ n) : Calls Tryz.prog 83 #[.int .i64 n, .int .i64 2] w (Gives (.tuple #[.string ⟨#[]⟩, .int .i64 2]) w) := by
  go_enter Tryz.func83, Tryz.ntmps83
  go_wp2_with fail
  refine (isWidth_any _ _).mono ?_
  rintro e w1 ⟨rfl, hw⟩
  have hw := hw.symm
  subst hw
  rw [show wid 2 = true from rfl]
  have q1 : ¬ (n < 0) := by omega
  have q2 : decide ((65536 : Int) ≤ n) = true := by simp; omega
  clear h
  go_wp2_with fail
  go_ret2
  exact ⟨rfl, Below.refl _ _⟩
theorem int_neg_4 (n : Int) (w : World) (h : n < 0) : Calls Tryz.prog 83 #[.int .i64 n, .int .i64 4] w (Gives (.tuple #[.string ⟨#[]⟩, .int .i64 2]) w) := by
  go_enter Tryz.func83, Tryz.ntmps83
  go_wp2_with fail
  refine (isWidth_any _ _).mono ?_
  rintro e w1 ⟨rfl, hw⟩
  have hw := hw.symm
  subst hw
  rw [show wid 4 = true from rfl]
  go_wp2_with fail
  go_ret2
  exact ⟨rfl, Below.refl _ _⟩
theorem int_big_4 (n : Int) (w : World) (h : 4294967296 ≤ n) : Calls Tryz.prog 83 #[.int .i64 n, .int .i64 4] w (Gives (.tuple #[.string ⟨#[]⟩, .int .i64 2]) w) := by
  go_enter Tryz.func83, Tryz.ntmps83
  go_wp2_with fail
  refine (isWidth_any _ _).mono ?_
  rintro e w1 ⟨rfl, hw⟩
  have hw := hw.symm
  subst hw
  rw [show wid 4 = true from rfl]
  have q1 : ¬ (n < 0) := by omega
  have q2 : decide ((4294967296 : Int) ≤ n) = true := by simp; omega
  clear h
  go_wp2_with fail
  go_ret2
  exact ⟨rfl, Below.refl _ _⟩
theorem int_any (n width : Int) (w : World) : Calls Tryz.prog 83 #[.int .i64 n, .int .i64 width] w (Gives (.tuple #[.string (intS n width), .int .i64 (intE n width)]) w) := by
  have no : intOk n width = false → intS n width = ⟨#[]⟩ ∧ intE n width = 2 := fun h => ⟨by unfold intS; rw [if_neg (by rw [h]; decide)], by unfold intE; rw [if_neg (by rw [h]; decide)]⟩
  have yes : intOk n width = true → intS n width = mk (dig n.toNat width.toNat) ∧ intE n width = 0 := fun h => ⟨by unfold intS; rw [if_pos h], by unfold intE; rw [if_pos h]⟩
  cases hw : wid width
  · obtain ⟨e1, e2⟩ := no (by unfold intOk; rw [hw]; rfl)
    rw [e1, e2]
    exact int_wid n width w hw
  · by_cases hn : n < 0
    · obtain ⟨e1, e2⟩ := no (by unfold intOk; rw [decide_eq_false (show ¬ 0 ≤ n by omega)]; simp)
      rw [e1, e2]
      rcases wid_cases hw with rfl | rfl | rfl
      · exact int_neg_1 n w hn
      · exact int_neg_2 n w hn
      · exact int_neg_4 n w hn
    · obtain ⟨x, rfl⟩ : ∃ x : Nat, n = x := ⟨n.toNat, by omega⟩
      rcases wid_cases hw with rfl | rfl | rfl
      · by_cases hb : x < 256
        · obtain ⟨e1, e2⟩ := yes (by unfold intOk; rw [show wid 1 = true from rfl, decide_eq_true (show (0 : Int) ≤ x by omega), decide_eq_true (show (x : Int) < 256 ^ ((1 : Int).toNat) by show (x : Int) < 256; omega)]; rfl)
          rw [e1, e2]
          exact int_1 x w hb
        · obtain ⟨e1, e2⟩ := no (by unfold intOk; rw [decide_eq_false (show ¬ ((x : Int) < 256 ^ ((1 : Int).toNat)) by show ¬ ((x : Int) < 256); omega)]; simp)
          rw [e1, e2]
          exact int_big_1 x w (by omega)
      · by_cases hb : x < 65536
        · obtain ⟨e1, e2⟩ := yes (by unfold intOk; rw [show wid 2 = true from rfl, decide_eq_true (show (0 : Int) ≤ x by omega), decide_eq_true (show (x : Int) < 256 ^ ((2 : Int).toNat) by show (x : Int) < 65536; omega)]; rfl)
          rw [e1, e2]
          exact int_2 x w hb
        · obtain ⟨e1, e2⟩ := no (by unfold intOk; rw [decide_eq_false (show ¬ ((x : Int) < 256 ^ ((2 : Int).toNat)) by show ¬ ((x : Int) < 65536); omega)]; simp)
          rw [e1, e2]
          exact int_big_2 x w (by omega)
      · by_cases hb : x < 4294967296
        · obtain ⟨e1, e2⟩ := yes (by unfold intOk; rw [show wid 4 = true from rfl, decide_eq_true (show (0 : Int) ≤ x by omega), decide_eq_true (show (x : Int) < 256 ^ ((4 : Int).toNat) by show (x : Int) < 4294967296; omega)]; rfl)
          rw [e1, e2]
          exact int_4 x w hb
        · obtain ⟨e1, e2⟩ := no (by unfold intOk; rw [decide_eq_false (show ¬ ((x : Int) < 256 ^ ((4 : Int).toNat)) by show ¬ ((x : Int) < 4294967296); omega)]; simp)
          rw [e1, e2]
          exact int_big_4 x w (by omega)
theorem rint_wid (n width : Int) (w : World) (h : wid width = false) : Calls Tryz.prog 51 #[.int .i64 n, .int .i64 width] w (Gives (.tuple #[.string ⟨#[]⟩, .int .i64 2]) w) := by
  go_enter Tryz.func51, Tryz.ntmps51
  go_wp2_with fail
  refine (rwidth_any _ _).mono ?_
  rintro e w1 ⟨rfl, hw⟩
  have hw := hw.symm
  subst hw
  rw [h]
  clear h
  go_wp2_with fail
  go_ret2
  exact ⟨rfl, Below.refl _ _⟩
theorem rint_neg_1 (n : Int) (w : World) (h : n < 0) : Calls Tryz.prog 51 #[.int .i64 n, .int .i64 1] w (Gives (.tuple #[.string ⟨#[]⟩, .int .i64 2]) w) := by
  go_enter Tryz.func51, Tryz.ntmps51
  go_wp2_with fail
  refine (rwidth_any _ _).mono ?_
  rintro e w1 ⟨rfl, hw⟩
  have hw := hw.symm
  subst hw
  rw [show wid 1 = true from rfl]
  go_wp2_with fail
  go_ret2
  exact ⟨rfl, Below.refl _ _⟩
theorem rint_big_1 (n : Int) (w : World) (h : 256 ≤ n) : Calls Tryz.prog 51 #[.int .i64 n, .int .i64 1] w (Gives (.tuple #[.string ⟨#[]⟩, .int .i64 2]) w) := by
  go_enter Tryz.func51, Tryz.ntmps51
  go_wp2_with fail
  refine (rwidth_any _ _).mono ?_
  rintro e w1 ⟨rfl, hw⟩
  have hw := hw.symm
  subst hw
  rw [show wid 1 = true from rfl]
  have q1 : ¬ (n < 0) := by omega
  have q2 : decide ((256 : Int) ≤ n) = true := by simp; omega
  clear h
  go_wp2_with fail
  go_ret2
  exact ⟨rfl, Below.refl _ _⟩
theorem rint_neg_2 (n : Int) (w : World) (h : n < 0) : Calls Tryz.prog 51 #[.int .i64 n, .int .i64 2] w (Gives (.tuple #[.string ⟨#[]⟩, .int .i64 2]) w) := by
  go_enter Tryz.func51, Tryz.ntmps51
  go_wp2_with fail
  refine (rwidth_any _ _).mono ?_
  rintro e w1 ⟨rfl, hw⟩
  have hw := hw.symm
  subst hw
  rw [show wid 2 = true from rfl]
  go_wp2_with fail
  go_ret2
  exact ⟨rfl, Below.refl _ _⟩
theorem rint_big_2 (n : Int) (w : World) (h : 65536 ≤ n) : Calls Tryz.prog 51 #[.int .i64 n, .int .i64 2] w (Gives (.tuple #[.string ⟨#[]⟩, .int .i64 2]) w) := by
  go_enter Tryz.func51, Tryz.ntmps51
  go_wp2_with fail
  refine (rwidth_any _ _).mono ?_
  rintro e w1 ⟨rfl, hw⟩
  have hw := hw.symm
  subst hw
  rw [show wid 2 = true from rfl]
  have q1 : ¬ (n < 0) := by omega
  have q2 : decide ((65536 : Int) ≤ n) = true := by simp; omega
  clear h
  go_wp2_with fail
  go_ret2
  exact ⟨rfl, Below.refl _ _⟩
theorem rint_neg_4 (n : Int) (w : World) (h : n < 0) : Calls Tryz.prog 51 #[.int .i64 n, .int .i64 4] w (Gives (.tuple #[.string ⟨#[]⟩, .int .i64 2]) w) := by
  go_enter Tryz.func51, Tryz.ntmps51
  go_wp2_with fail
  refine (rwidth_any _ _).mono ?_
  rintro e w1 ⟨rfl, hw⟩
  have hw := hw.symm
  subst hw
  rw [show wid 4 = true from rfl]
  go_wp2_with fail
  go_ret2
  exact ⟨rfl, Below.refl _ _⟩
theorem rint_big_4 (n : Int) (w : World) (h : 4294967296 ≤ n) : Calls Tryz.prog 51 #[.int .i64 n, .int .i64 4] w (Gives (.tuple #[.string ⟨#[]⟩, .int .i64 2]) w) := by
  go_enter Tryz.func51, Tryz.ntmps51
  go_wp2_with fail
  refine (rwidth_any _ _).mono ?_
  rintro e w1 ⟨rfl, hw⟩
  have hw := hw.symm
  subst hw
  rw [show wid 4 = true from rfl]
  have q1 : ¬ (n < 0) := by omega
  have q2 : decide ((4294967296 : Int) ≤ n) = true := by simp; omega
  clear h
  go_wp2_with fail
  go_ret2
  exact ⟨rfl, Below.refl _ _⟩
theorem rint_any (n width : Int) (w : World) : Calls Tryz.prog 51 #[.int .i64 n, .int .i64 width] w (Gives (.tuple #[.string (intS n width), .int .i64 (intE n width)]) w) := by
  have no : intOk n width = false → intS n width = ⟨#[]⟩ ∧ intE n width = 2 := fun h => ⟨by unfold intS; rw [if_neg (by rw [h]; decide)], by unfold intE; rw [if_neg (by rw [h]; decide)]⟩
  have yes : intOk n width = true → intS n width = mk (dig n.toNat width.toNat) ∧ intE n width = 0 := fun h => ⟨by unfold intS; rw [if_pos h], by unfold intE; rw [if_pos h]⟩
  cases hw : wid width
  · obtain ⟨e1, e2⟩ := no (by unfold intOk; rw [hw]; rfl)
    rw [e1, e2]
    exact rint_wid n width w hw
  · by_cases hn : n < 0
    · obtain ⟨e1, e2⟩ := no (by unfold intOk; rw [decide_eq_false (show ¬ 0 ≤ n by omega)]; simp)
      rw [e1, e2]
      rcases wid_cases hw with rfl | rfl | rfl
      · exact rint_neg_1 n w hn
      · exact rint_neg_2 n w hn
      · exact rint_neg_4 n w hn
    · obtain ⟨x, rfl⟩ : ∃ x : Nat, n = x := ⟨n.toNat, by omega⟩
      rcases wid_cases hw with rfl | rfl | rfl
      · by_cases hb : x < 256
        · obtain ⟨e1, e2⟩ := yes (by unfold intOk; rw [show wid 1 = true from rfl, decide_eq_true (show (0 : Int) ≤ x by omega), decide_eq_true (show (x : Int) < 256 ^ ((1 : Int).toNat) by show (x : Int) < 256; omega)]; rfl)
          rw [e1, e2]
          exact rint_1 x w hb
        · obtain ⟨e1, e2⟩ := no (by unfold intOk; rw [decide_eq_false (show ¬ ((x : Int) < 256 ^ ((1 : Int).toNat)) by show ¬ ((x : Int) < 256); omega)]; simp)
          rw [e1, e2]
          exact rint_big_1 x w (by omega)
      · by_cases hb : x < 65536
        · obtain ⟨e1, e2⟩ := yes (by unfold intOk; rw [show wid 2 = true from rfl, decide_eq_true (show (0 : Int) ≤ x by omega), decide_eq_true (show (x : Int) < 256 ^ ((2 : Int).toNat) by show (x : Int) < 65536; omega)]; rfl)
          rw [e1, e2]
          exact rint_2 x w hb
        · obtain ⟨e1, e2⟩ := no (by unfold intOk; rw [decide_eq_false (show ¬ ((x : Int) < 256 ^ ((2 : Int).toNat)) by show ¬ ((x : Int) < 65536); omega)]; simp)
          rw [e1, e2]
          exact rint_big_2 x w (by omega)
      · by_cases hb : x < 4294967296
        · obtain ⟨e1, e2⟩ := yes (by unfold intOk; rw [show wid 4 = true from rfl, decide_eq_true (show (0 : Int) ≤ x by omega), decide_eq_true (show (x : Int) < 256 ^ ((4 : Int).toNat) by show (x : Int) < 4294967296; omega)]; rfl)
          rw [e1, e2]
          exact rint_4 x w hb
        · obtain ⟨e1, e2⟩ := no (by unfold intOk; rw [decide_eq_false (show ¬ ((x : Int) < 256 ^ ((4 : Int).toNat)) by show ¬ ((x : Int) < 4294967296); omega)]; simp)
          rw [e1, e2]
          exact rint_big_4 x w (by omega)
theorem num_any (s : ByteArray) (w : World) : Calls Tryz.prog 112 #[.string s] w (Pure (.tuple #[.int .i64 (numV s), .int .i64 (numE s)]) w) := by
  unfold numV numE
  cases hw : wid s.size
  · go_enter Tryz.func112, Tryz.ntmps112
    go_wp2_with fail
    refine (isWidth_any _ _).mono ?_
    rintro e w1 ⟨rfl, hx⟩
    have hx := hx.symm
    subst hx
    rw [hw]
    clear hw
    go_wp2_with fail
    go_ret2
    exact ⟨rfl, rfl⟩
  · have hs : s.size ≤ 4 := by have := wid_cases hw; omega
    go_enter Tryz.func112, Tryz.ntmps112
    go_wp2_with fail
    refine (isWidth_any _ _).mono ?_
    rintro e w1 ⟨rfl, hx⟩
    have hx := hx.symm
    subst hx
    rw [hw]
    clear hw
    go_wp2_with fail
    go_loopw [4, 12] (fun n i wr => ∃ k : Nat, i = .int .i64 k ∧ n = .int .i64 (numL (s.data.toList.take k)) ∧ k ≤ s.size ∧ wr = w) (fun _ i _ => s.size - (RowKit.intOf i).toNat)
    case atStart => exact ⟨0, rfl, rfl, Nat.zero_le _, rfl⟩
    case round =>
      obtain ⟨k, rfl, rfl, hk, rfl⟩ := hrel
      by_cases hlt : k < s.size
      · have hb := By.byte_nb s k hlt
        have HS : Hid (numL (s.data.toList.take (k + 1)) = numL (s.data.toList.take k) * 256 + By.nb s.data.toList k) := by
          show _ = _
          rw [List.take_succ_eq_append_getElem (by rw [By.len_size]; exact hlt), numL_snoc]
          congr 1
        have hy := By.nb_lt s.data.toList k
        have hm : numL (s.data.toList.take k) < 16777216 := by
          have := numL_lt (s.data.toList.take k)
          rw [List.length_take, By.len_size] at this
          have h2 : 256 ^ (min k s.size) ≤ 256 ^ 3 := Nat.pow_le_pow_right (by decide) (by omega)
          omega
        generalize By.nb s.data.toList k = y at hb hy HS
        generalize numL (s.data.toList.take k) = m at hm HS ⊢
        have HQ : Hid (bits .or .i64 (wrap64 ((m : Int) * 256)) (y : Int) = ((m * 256 + y : Nat) : Int)) := or_step m y hm hy
        clear hm
        go_wp2_with fail
        exact ⟨⟨k + 1, by go_num, by rw [HQ.out, HS.out], by omega, trivial⟩, by simp [RowKit.intOf]; omega⟩
      · obtain rfl : k = s.size := by omega
        have HE : Hid (numL (s.data.toList.take s.size) = numL s.data.toList) := by
          show _ = _
          rw [List.take_of_length_le (by rw [By.len_size]; exact Nat.le_refl _)]
        go_wp2_with fail
        go_ret2
        exact ⟨by rw [HE.out]; rfl, rfl⟩
end Go.Proofs.YtiodjaeonoheiaaGreatDoor.T
namespace Go.Proofs.YtiodjaeonoheiaaGreatDoor.T
open Go.RowKit Go.Lib Go.Shelf
theorem heap_lt {w : World} {b : Nat} {o : Obj} (h : w.heap[b]? = some o) : b < w.heap.size := (Array.getElem?_eq_some_iff.1 h).1
theorem box_new (w : World) (cs : Array Value) (t : TypeId) : (w.alloc (.cells cs t)).heap[w.heap.size]? = some (.cells cs t (0, 0)) := heap_alloc_new w _
theorem bx2 {w : World} {b : Nat} {v0 v1 : Value} {t : TypeId} (h : w.heap[b]? = some (.cells #[v0, v1] t (0, 0))) :
    w.cell? ⟨b, 0, none⟩ = some v0 ∧ w.cell? ⟨b, 1, none⟩ = some v1 ∧ w.frozen? ⟨b, 0, none⟩ = false ∧ w.frozen? ⟨b, 1, none⟩ = false := by
  refine ⟨?_, ?_, ?_, ?_⟩
  · rw [Lib.cell_of_heap h]; rfl
  · rw [Lib.cell_of_heap h]; rfl
  · simp [World.frozen?, h]
  · simp [World.frozen?, h]
theorem clone_any (s : ByteArray) (w : World) (hs : s.size ≤ 140737488351232) : Calls Tryz.prog 95 #[.string s] w (Gives (.string s) w) := by
  have hc := Any.stringslite_Clone Tryz.laysM316 s w (by omega)
  change Calls Tryz.prog 113 _ _ _ at hc
  have H := Lib.hid hc
  clear hc hs
  go_enter Tryz.func95, Tryz.ntmps95
  go_wp2_with fail
  refine H.out.mono ?_
  rintro e w1 ⟨rfl, hb⟩
  have HB := Lib.hid hb
  go_wp2_with fail
  go_ret
  exact ⟨rfl, HB.out⟩
theorem intS_size (n width : Int) : (intS n width).size ≤ 4 := by
  unfold intS
  split
  · rename_i h
    have hw : wid width = true := by
      unfold intOk at h
      simp only [Bool.and_eq_true] at h
      exact h.1.1
    rw [mk_size, dig_length]
    rcases wid_cases hw with rfl | rfl | rfl <;> decide
  · decide
theorem text_any (s : ByteArray) (width : Int) (w : World) (hs : s.size ≤ 140737488351232) : Calls Tryz.prog 105 #[.string s, .int .i64 width] w (Gives (.tuple #[.string (textS s width), .int .i64 (intE s.size width)]) w) := by
  have C := Lib.hid (int_any s.size width w)
  have hz := intS_size s.size width
  have HT : Hid (intOk s.size width = true → intS s.size width ++ s = textS s width) := fun h => by
    unfold intS textS
    rw [if_pos h, if_pos h]
    apply By.bytes_ext
    rw [By.append_list]
    rfl
  have HN : Hid (intOk s.size width = false → textS s width = ⟨#[]⟩) := fun h => by
    unfold textS
    rw [if_neg (by rw [h]; decide)]
  generalize textS s width = T at HT HN
  generalize intS s.size width = D at hz HT C
  unfold intE at C ⊢
  cases ok : intOk s.size width
  · have e1 := HN.out ok
    subst e1
    rw [ok] at C
    rw [if_neg (by decide)] at C ⊢
    clear hz HT HN ok
    go_enter Tryz.func105, Tryz.ntmps105
    go_wp2_with fail
    refine C.out.mono ?_
    rintro e w1 ⟨rfl, hb⟩
    have HB := Lib.hid hb
    clear hb C
    go_wp2_with fail
    go_ret2
    exact ⟨rfl, HB.out⟩
  · have e1 := HT.out ok
    rw [ok] at C
    rw [if_pos rfl] at C ⊢
    subst e1
    clear HT HN ok
    go_enter Tryz.func105, Tryz.ntmps105
    go_wp2_with fail
    refine C.out.mono ?_
    rintro e w1 ⟨rfl, hb⟩
    have HB := Lib.hid hb
    clear hb C
    go_wp2_with fail
    go_ret2
    exact ⟨rfl, HB.out⟩
theorem rtext_any (s : ByteArray) (width : Int) (w : World) (hs : s.size ≤ 140737488351232) : Calls Tryz.prog 85 #[.string s, .int .i64 width] w (Gives (.tuple #[.string (textS s width), .int .i64 (intE s.size width)]) w) := by
  have C := Lib.hid (rint_any s.size width w)
  have hz := intS_size s.size width
  have HT : Hid (intOk s.size width = true → intS s.size width ++ s = textS s width) := fun h => by
    unfold intS textS
    rw [if_pos h, if_pos h]
    apply By.bytes_ext
    rw [By.append_list]
    rfl
  have HN : Hid (intOk s.size width = false → textS s width = ⟨#[]⟩) := fun h => by
    unfold textS
    rw [if_neg (by rw [h]; decide)]
  generalize textS s width = T at HT HN
  generalize intS s.size width = D at hz HT C
  unfold intE at C ⊢
  cases ok : intOk s.size width
  · have e1 := HN.out ok
    subst e1
    rw [ok] at C
    rw [if_neg (by decide)] at C ⊢
    clear hz HT HN ok
    go_enter Tryz.func85, Tryz.ntmps85
    go_wp2_with fail
    refine C.out.mono ?_
    rintro e w1 ⟨rfl, hb⟩
    have HB := Lib.hid hb
    clear hb C
    go_wp2_with fail
    go_ret2
    exact ⟨rfl, HB.out⟩
  · have e1 := HT.out ok
    rw [ok] at C
    rw [if_pos rfl] at C ⊢
    subst e1
    clear HT HN ok
    go_enter Tryz.func85, Tryz.ntmps85
    go_wp2_with fail
    refine C.out.mono ?_
    rintro e w1 ⟨rfl, hb⟩
    have HB := Lib.hid hb
    clear hb C
    go_wp2_with fail
    go_ret2
    exact ⟨rfl, HB.out⟩
theorem ext_le (s : ByteArray) (a b : Nat) : (s.extract a b).size ≤ s.size := by
  rw [Lib.size_eq, By.extract_cut, List.length_drop, List.length_take, By.len_size]
  omega
theorem bxOne (w : World) (A : Array Value) (t : TypeId) : Hid ((w.alloc (.cells A t)).heap[w.heap.size]? = some (.cells A t (0, 0))) ∧ Hid (Below w.heap.size w (w.alloc (.cells A t))) := ⟨box_new w A t, (Below.refl _ w).alloc (Nat.le_refl _) _⟩
theorem bxTwo (w : World) (A : Array Value) (t : TypeId) (B : Array Value) (u : TypeId) : Hid (Below w.heap.size w ((w.alloc (.cells A t)).alloc (.cells B u))) ∧ Hid (((w.alloc (.cells A t)).alloc (.cells B u)).heap[w.heap.size]? = some (.cells A t (0, 0))) ∧ Hid (((w.alloc (.cells A t)).alloc (.cells B u)).heap[w.heap.size + 1]? = some (.cells B u (0, 0))) :=
  ⟨((Below.refl _ w).alloc (Nat.le_refl _) _).alloc (by simp) _, (Below.heap_alloc (w.alloc (.cells A t)) _ _ (by simp)).trans (box_new w _ _), by
    have := box_new (w.alloc (.cells A t)) B u
    show _ = _
    simpa using this⟩
theorem trB {w w1 w2 : World} (h : Hid (Below w.heap.size w w1)) (hb : Below w1.heap.size w1 w2) : Hid (Below w.heap.size w w2) := h.out.trans (hb.mono h.out.size)
theorem kpB {w w' : World} {b : Nat} {o : Obj} (hb : Below w.heap.size w w') (h : Hid (w.heap[b]? = some o)) : Hid (w'.heap[b]? = some o) := (hb.block _ (heap_lt h.out)).trans h.out
end Go.Proofs.YtiodjaeonoheiaaGreatDoor.T
