/- Contracts: Int, Num, Text, First of tlv, and of the document. Conditions: those of each theorem's head. -/
import Derived.Test.YtclkehfnakhljaaDoorTb
import Derived.Test.YtclkehfnakhljaaDoorShelf
import Derived.Shelf.Strconv.Clone

namespace Go.Proofs.YtclkehfnakhljaaDoor.T
open Go.RowKit Go.Lib

theorem wrap_nat (x : Nat) (h : x < 8589934592) : wrap64 (x : Int) = x := by
  unfold wrap64
  omega
theorem nat_join8 (m y : Nat) (hy : y < 256) : m * 256 ||| y = m * 256 + y := by
  have h := Nat.two_pow_add_eq_or_of_lt (i := 8) hy m
  rw [Nat.mul_comm m 256]
  exact h.symm
theorem or_step (m y : Nat) (hm : m < 16777216) (hy : y < 256) : bits .or .i64 (wrap64 ((m : Int) * 256)) (y : Int) = ((m * 256 + y : Nat) : Int) := by
  have e : wrap64 ((m : Int) * 256) = ((m * 256 : Nat) : Int) := by
    have := wrap_nat (m * 256) (by omega)
    rw [← this]
    congr 1
  rw [e]
  have h1 : (BitVec.ofInt 64 ((m * 256 : Nat) : Int)).toNat = m * 256 := by
    rw [BitVec.ofInt_natCast, BitVec.toNat_ofNat]; exact Nat.mod_eq_of_lt (by omega)
  have h2 : (BitVec.ofInt 64 (y : Int)).toNat = y := by
    rw [BitVec.ofInt_natCast, BitVec.toNat_ofNat]; exact Nat.mod_eq_of_lt (by omega)
  show IntKind.i64.wrap ((BitVec.ofInt 64 ((m * 256 : Nat) : Int) ||| BitVec.ofInt 64 (y : Int)).toNat : Int) = _
  rw [BitVec.toNat_or, h1, h2, nat_join8 m y hy]
  simp only [IntKind.wrap, IntKind.bits, IntKind.signed]
  simp
  omega
theorem add_step (m y : Nat) (hm : m < 16777216) (hy : y < 256) : wrap64 (wrap64 ((m : Int) * 256) + y) = ((m * 256 + y : Nat) : Int) := by
  unfold wrap64
  omega
set_option maxRecDepth 100000 in
set_option maxHeartbeats 2000000 in
theorem int_wid (n width : Int) (w : World) (h : wid width = false) : Calls Tryd.prog 52 #[.int .i64 n, .int .i64 width] w (Gives (.tuple #[.string ⟨#[]⟩, .int .i64 2]) w) := by
  go_enter Tryd.func52, Tryd.ntmps52
  go_wp2_with fail
  refine (isWidth_any _ _).mono ?_
  rintro e w1 ⟨rfl, hw⟩
  have hw := hw.symm
  subst hw
  rw [h]
  clear h
  go_wp2_with fail
  go_ret2
  exact ⟨rfl, Below.refl _ _⟩
set_option maxRecDepth 100000 in
set_option maxHeartbeats 2000000 in
theorem int_neg_1 (n : Int) (w : World) (h : n < 0) : Calls Tryd.prog 52 #[.int .i64 n, .int .i64 1] w (Gives (.tuple #[.string ⟨#[]⟩, .int .i64 2]) w) := by
  go_enter Tryd.func52, Tryd.ntmps52
  go_wp2_with fail
  refine (isWidth_any _ _).mono ?_
  rintro e w1 ⟨rfl, hw⟩
  have hw := hw.symm
  subst hw
  rw [show wid 1 = true from rfl]
  go_wp2_with fail
  go_ret2
  exact ⟨rfl, Below.refl _ _⟩
set_option maxRecDepth 100000 in
set_option maxHeartbeats 2000000 in
theorem int_big_1 (n : Int) (w : World) (h : 256 ≤ n) : Calls Tryd.prog 52 #[.int .i64 n, .int .i64 1] w (Gives (.tuple #[.string ⟨#[]⟩, .int .i64 2]) w) := by
  go_enter Tryd.func52, Tryd.ntmps52
  go_wp2_with fail
  refine (isWidth_any _ _).mono ?_
  rintro e w1 ⟨rfl, hw⟩
  have hw := hw.symm
  subst hw
  rw [show wid 1 = true from rfl]
  have q1 : ¬ (n < 0) := by omega
  have q2 : decide ((256 : Int) ≤ n) = true := by simp; omega
  clear h
  go_wp2_with fail
  go_ret2
  exact ⟨rfl, Below.refl _ _⟩
set_option maxRecDepth 100000 in
set_option maxHeartbeats 2000000 in
theorem int_neg_2 (n : Int) (w : World) (h : n < 0) : Calls Tryd.prog 52 #[.int .i64 n, .int .i64 2] w (Gives (.tuple #[.string ⟨#[]⟩, .int .i64 2]) w) := by
  go_enter Tryd.func52, Tryd.ntmps52
  go_wp2_with fail
  refine (isWidth_any _ _).mono ?_
  rintro e w1 ⟨rfl, hw⟩
  have hw := hw.symm
  subst hw
  rw [show wid 2 = true from rfl]
  go_wp2_with fail
  go_ret2
  exact ⟨rfl, Below.refl _ _⟩
set_option maxRecDepth 100000 in
set_option maxHeartbeats 2000000 in
theorem int_big_2 (n : Int) (w : World) (h : 65536 ≤ n) : Calls Tryd.prog 52 #[.int .i64 n, .int .i64 2] w (Gives (.tuple #[.string ⟨#[]⟩, .int .i64 2]) w) := by
  go_enter Tryd.func52, Tryd.ntmps52
  go_wp2_with fail
  refine (isWidth_any _ _).mono ?_
  rintro e w1 ⟨rfl, hw⟩
  have hw := hw.symm
  subst hw
  rw [show wid 2 = true from rfl]
  have q1 : ¬ (n < 0) := by omega
  have q2 : decide ((65536 : Int) ≤ n) = true := by simp; omega
  clear h
  go_wp2_with fail
  go_ret2
  exact ⟨rfl, Below.refl _ _⟩
set_option maxRecDepth 100000 in
set_option maxHeartbeats 2000000 in
theorem int_neg_4 (n : Int) (w : World) (h : n < 0) : Calls Tryd.prog 52 #[.int .i64 n, .int .i64 4] w (Gives (.tuple #[.string ⟨#[]⟩, .int .i64 2]) w) := by
  go_enter Tryd.func52, Tryd.ntmps52
  go_wp2_with fail
  refine (isWidth_any _ _).mono ?_
  rintro e w1 ⟨rfl, hw⟩
  have hw := hw.symm
  subst hw
  rw [show wid 4 = true from rfl]
  go_wp2_with fail
  go_ret2
  exact ⟨rfl, Below.refl _ _⟩
set_option maxRecDepth 100000 in
set_option maxHeartbeats 2000000 in
theorem int_big_4 (n : Int) (w : World) (h : 4294967296 ≤ n) : Calls Tryd.prog 52 #[.int .i64 n, .int .i64 4] w (Gives (.tuple #[.string ⟨#[]⟩, .int .i64 2]) w) := by
  go_enter Tryd.func52, Tryd.ntmps52
  go_wp2_with fail
  refine (isWidth_any _ _).mono ?_
  rintro e w1 ⟨rfl, hw⟩
  have hw := hw.symm
  subst hw
  rw [show wid 4 = true from rfl]
  have q1 : ¬ (n < 0) := by omega
  have q2 : decide ((4294967296 : Int) ≤ n) = true := by simp; omega
  clear h
  go_wp2_with fail
  go_ret2
  exact ⟨rfl, Below.refl _ _⟩
theorem int_any (n width : Int) (w : World) : Calls Tryd.prog 52 #[.int .i64 n, .int .i64 width] w (Gives (.tuple #[.string (intS n width), .int .i64 (intE n width)]) w) := by
  have no : intOk n width = false → intS n width = ⟨#[]⟩ ∧ intE n width = 2 := fun h => ⟨by unfold intS; rw [if_neg (by rw [h]; decide)], by unfold intE; rw [if_neg (by rw [h]; decide)]⟩
  have yes : intOk n width = true → intS n width = mk (dig n.toNat width.toNat) ∧ intE n width = 0 := fun h => ⟨by unfold intS; rw [if_pos h], by unfold intE; rw [if_pos h]⟩
  cases hw : wid width
  · obtain ⟨e1, e2⟩ := no (by unfold intOk; rw [hw]; rfl)
    rw [e1, e2]
    exact int_wid n width w hw
  · by_cases hn : n < 0
    · obtain ⟨e1, e2⟩ := no (by unfold intOk; rw [decide_eq_false (show ¬ 0 ≤ n by omega)]; simp)
      rw [e1, e2]
      rcases wid_cases hw with rfl | rfl | rfl
      · exact int_neg_1 n w hn
      · exact int_neg_2 n w hn
      · exact int_neg_4 n w hn
    · obtain ⟨x, rfl⟩ : ∃ x : Nat, n = x := ⟨n.toNat, by omega⟩
      rcases wid_cases hw with rfl | rfl | rfl
      · by_cases hb : x < 256
        · obtain ⟨e1, e2⟩ := yes (by unfold intOk; rw [show wid 1 = true from rfl, decide_eq_true (show (0 : Int) ≤ x by omega), decide_eq_true (show (x : Int) < 256 ^ ((1 : Int).toNat) by show (x : Int) < 256; omega)]; rfl)
          rw [e1, e2]
          exact int_1 x w hb
        · obtain ⟨e1, e2⟩ := no (by unfold intOk; rw [decide_eq_false (show ¬ ((x : Int) < 256 ^ ((1 : Int).toNat)) by show ¬ ((x : Int) < 256); omega)]; simp)
          rw [e1, e2]
          exact int_big_1 x w (by omega)
      · by_cases hb : x < 65536
        · obtain ⟨e1, e2⟩ := yes (by unfold intOk; rw [show wid 2 = true from rfl, decide_eq_true (show (0 : Int) ≤ x by omega), decide_eq_true (show (x : Int) < 256 ^ ((2 : Int).toNat) by show (x : Int) < 65536; omega)]; rfl)
          rw [e1, e2]
          exact int_2 x w hb
        · obtain ⟨e1, e2⟩ := no (by unfold intOk; rw [decide_eq_false (show ¬ ((x : Int) < 256 ^ ((2 : Int).toNat)) by show ¬ ((x : Int) < 65536); omega)]; simp)
          rw [e1, e2]
          exact int_big_2 x w (by omega)
      · by_cases hb : x < 4294967296
        · obtain ⟨e1, e2⟩ := yes (by unfold intOk; rw [show wid 4 = true from rfl, decide_eq_true (show (0 : Int) ≤ x by omega), decide_eq_true (show (x : Int) < 256 ^ ((4 : Int).toNat) by show (x : Int) < 4294967296; omega)]; rfl)
          rw [e1, e2]
          exact int_4 x w hb
        · obtain ⟨e1, e2⟩ := no (by unfold intOk; rw [decide_eq_false (show ¬ ((x : Int) < 256 ^ ((4 : Int).toNat)) by show ¬ ((x : Int) < 4294967296); omega)]; simp)
          rw [e1, e2]
          exact int_big_4 x w (by omega)
set_option maxRecDepth 100000 in
set_option maxHeartbeats 2000000 in
theorem num_any (s : ByteArray) (w : World) : Calls Tryd.prog 70 #[.string s] w (Pure (.tuple #[.int .i64 (numV s), .int .i64 (numE s)]) w) := by
  unfold numV numE
  cases hw : wid s.size
  · go_enter Tryd.func70, Tryd.ntmps70
    go_wp2_with fail
    refine (isWidth_any _ _).mono ?_
    rintro e w1 ⟨rfl, hx⟩
    have hx := hx.symm
    subst hx
    rw [hw]
    clear hw
    go_wp2_with fail
    go_ret2
    exact ⟨rfl, rfl⟩
  · have hs : s.size ≤ 4 := by have := wid_cases hw; omega
    go_enter Tryd.func70, Tryd.ntmps70
    go_wp2_with fail
    refine (isWidth_any _ _).mono ?_
    rintro e w1 ⟨rfl, hx⟩
    have hx := hx.symm
    subst hx
    rw [hw]
    clear hw
    go_wp2_with fail
    go_loopw [4, 12] (fun n i wr => ∃ k : Nat, i = .int .i64 k ∧ n = .int .i64 (numL (s.data.toList.take k)) ∧ k ≤ s.size ∧ wr = w) (fun _ i _ => s.size - (RowKit.intOf i).toNat)
    case atStart => exact ⟨0, rfl, rfl, Nat.zero_le _, rfl⟩
    case round =>
      obtain ⟨k, rfl, rfl, hk, rfl⟩ := hrel
      by_cases hlt : k < s.size
      · have hb := By.byte_nb s k hlt
        have HS : Hid (numL (s.data.toList.take (k + 1)) = numL (s.data.toList.take k) * 256 + By.nb s.data.toList k) := by
          show _ = _
          rw [List.take_succ_eq_append_getElem (by rw [By.len_size]; exact hlt), numL_snoc]
          congr 1
        have hy := By.nb_lt s.data.toList k
        have hm : numL (s.data.toList.take k) < 16777216 := by
          have := numL_lt (s.data.toList.take k)
          rw [List.length_take, By.len_size] at this
          have h2 : 256 ^ (min k s.size) ≤ 256 ^ 3 := Nat.pow_le_pow_right (by decide) (by omega)
          omega
        generalize By.nb s.data.toList k = y at hb hy HS
        generalize numL (s.data.toList.take k) = m at hm HS ⊢
        have HQ : Hid (bits .or .i64 (wrap64 ((m : Int) * 256)) (y : Int) = ((m * 256 + y : Nat) : Int)) := or_step m y hm hy
        clear hm
        go_wp2_with fail
        exact ⟨⟨k + 1, by go_num, by rw [HQ.out, HS.out], by omega, trivial⟩, by simp [RowKit.intOf]; omega⟩
      · obtain rfl : k = s.size := by omega
        have HE : Hid (numL (s.data.toList.take s.size) = numL s.data.toList) := by
          show _ = _
          rw [List.take_of_length_le (by rw [By.len_size]; exact Nat.le_refl _)]
        go_wp2_with fail
        go_ret2
        exact ⟨by rw [HE.out]; rfl, rfl⟩
end Go.Proofs.YtclkehfnakhljaaDoor.T

namespace Go.Proofs.YtclkehfnakhljaaDoor.T
open Go.RowKit Go.Lib Go.Shelf

theorem heap_lt {w : World} {b : Nat} {o : Obj} (h : w.heap[b]? = some o) : b < w.heap.size := (Array.getElem?_eq_some_iff.1 h).1
theorem box_new (w : World) (cs : Array Value) (t : TypeId) : (w.alloc (.cells cs t)).heap[w.heap.size]? = some (.cells cs t (0, 0)) := heap_alloc_new w _
theorem bx2 {w : World} {b : Nat} {v0 v1 : Value} {t : TypeId} (h : w.heap[b]? = some (.cells #[v0, v1] t (0, 0))) :
    w.cell? ⟨b, 0, none⟩ = some v0 ∧ w.cell? ⟨b, 1, none⟩ = some v1 ∧ w.frozen? ⟨b, 0, none⟩ = false ∧ w.frozen? ⟨b, 1, none⟩ = false := by
  refine ⟨?_, ?_, ?_, ?_⟩
  · rw [Lib.cell_of_heap h]; rfl
  · rw [Lib.cell_of_heap h]; rfl
  · simp [World.frozen?, h]
  · simp [World.frozen?, h]
theorem bx1 {w : World} {b : Nat} {v0 : Value} {t : TypeId} (h : w.heap[b]? = some (.cells #[v0] t (0, 0))) : w.cell? ⟨b, 0, none⟩ = some v0 ∧ w.frozen? ⟨b, 0, none⟩ = false := by
  refine ⟨?_, ?_⟩
  · rw [Lib.cell_of_heap h]; rfl
  · simp [World.frozen?, h]
theorem set2 {w : World} {b : Nat} {v0 v1 : Value} {t : TypeId} (h : w.heap[b]? = some (.cells #[v0, v1] t (0, 0))) (u0 u1 : Value) :
    ((w.setCell ⟨b, 0, none⟩ u0).setCell ⟨b, 1, none⟩ u1).heap[b]? = some (.cells #[u0, u1] t (0, 0)) := by
  simp [World.setCell, Array.getElem?_modify, h]
theorem clone_any (s : ByteArray) (w : World) (hs : s.size ≤ 140737488351232) : Calls Tryd.prog 54 #[.string s] w (Gives (.string s) w) := by
  have hc := Any.stringslite_Clone Tryd.laysM316 s w (by omega)
  change Calls Tryd.prog 71 _ _ _ at hc
  have H := Lib.hid hc
  clear hc hs
  go_enter Tryd.func54, Tryd.ntmps54
  go_wp2_with fail
  refine H.out.mono ?_
  rintro e w1 ⟨rfl, hb⟩
  have HB := Lib.hid hb
  go_wp2_with fail
  go_ret
  exact ⟨rfl, HB.out⟩
theorem intS_size (n width : Int) : (intS n width).size ≤ 4 := by
  unfold intS
  split
  · rename_i h
    have hw : wid width = true := by
      unfold intOk at h
      simp only [Bool.and_eq_true] at h
      exact h.1.1
    rw [mk_size, dig_length]
    rcases wid_cases hw with rfl | rfl | rfl <;> decide
  · decide
theorem ext_first (s : ByteArray) (K n : Nat) : (s.extract K s.size).extract 0 n = s.extract K (K + n) := by
  apply By.bytes_ext
  rw [By.extract_cut, By.extract_drop, By.extract_cut, List.drop_zero, List.drop_take, Nat.add_sub_cancel_left]
theorem ext_rest (s : ByteArray) (K n : Nat) : (s.extract K s.size).extract n (s.extract K s.size).size = s.extract (K + n) s.size := by
  apply By.bytes_ext
  rw [By.extract_drop, By.extract_drop, By.extract_drop, List.drop_drop]
theorem ext_size (s : ByteArray) (K : Nat) : (s.extract K s.size).size = s.size - K := by
  rw [Lib.size_eq, By.extract_drop, List.length_drop, By.len_size]
theorem num_head (s : ByteArray) {K : Nat} (hK : wid K = true) (h : K ≤ s.size) : numV (s.extract 0 K) = fl s K ∧ numE (s.extract 0 K) = 0 := by
  have hz : (s.extract 0 K).size = K := by
    rw [Lib.size_eq, By.extract_cut, List.drop_zero, List.length_take, By.len_size]
    omega
  unfold numV numE fl
  rw [hz, if_pos hK, if_pos hK, By.extract_cut, List.drop_zero]
  exact ⟨rfl, rfl⟩
theorem fl_lt (s : ByteArray) {K : Nat} (hK : K ≤ 4) : fl s K < 4294967296 := by
  unfold fl
  have h1 := numL_lt (s.data.toList.take K)
  have h2 : 256 ^ (s.data.toList.take K).length ≤ 256 ^ 4 := Nat.pow_le_pow_right (by decide) (by rw [List.length_take]; omega)
  omega
set_option maxRecDepth 100000 in
set_option maxHeartbeats 2000000 in
theorem text_any (s : ByteArray) (width : Int) (w : World) (hs : s.size ≤ 140737488351232) : Calls Tryd.prog 67 #[.string s, .int .i64 width] w (Gives (.tuple #[.string (textS s width), .int .i64 (intE s.size width)]) w) := by
  have C := Lib.hid (int_any s.size width w)
  have hz := intS_size s.size width
  have HT : Hid (intOk s.size width = true → intS s.size width ++ s = textS s width) := fun h => by
    unfold intS textS
    rw [if_pos h, if_pos h]
    apply By.bytes_ext
    rw [By.append_list]
    rfl
  have HN : Hid (intOk s.size width = false → textS s width = ⟨#[]⟩) := fun h => by
    unfold textS
    rw [if_neg (by rw [h]; decide)]
  generalize textS s width = T at HT HN
  generalize intS s.size width = D at hz HT C
  unfold intE at C ⊢
  cases ok : intOk s.size width
  · have e1 := HN.out ok
    subst e1
    rw [ok] at C
    rw [if_neg (by decide)] at C ⊢
    clear hz HT HN ok
    go_enter Tryd.func67, Tryd.ntmps67
    go_wp2_with fail
    refine C.out.mono ?_
    rintro e w1 ⟨rfl, hb⟩
    have HB := Lib.hid hb
    clear hb C
    go_wp2_with fail
    go_ret2
    exact ⟨rfl, HB.out⟩
  · have e1 := HT.out ok
    rw [ok] at C
    rw [if_pos rfl] at C ⊢
    subst e1
    clear HT HN ok
    go_enter Tryd.func67, Tryd.ntmps67
    go_wp2_with fail
    refine C.out.mono ?_
    rintro e w1 ⟨rfl, hb⟩
    have HB := Lib.hid hb
    clear hb C
    go_wp2_with fail
    go_ret2
    exact ⟨rfl, HB.out⟩
/-- What cutText and First answer. -/
def cT (s : ByteArray) (K : Nat) : ByteArray := if fstOk s K = true then fstT s K else ⟨#[]⟩
def cR (s : ByteArray) (K : Nat) : ByteArray := if fstOk s K = true then fstR s K else ⟨#[]⟩
theorem fst_cases (s : ByteArray) (K : Nat) : (s.size < K ∧ fstOk s K = false) ∨ (K ≤ s.size ∧ s.size < K + fl s K ∧ fstOk s K = false) ∨ (K + fl s K ≤ s.size ∧ fstOk s K = true) := by
  unfold fstOk
  by_cases h1 : K ≤ s.size
  · by_cases h2 : K + fl s K ≤ s.size
    · exact .inr (.inr ⟨h2, by simp [h1, h2]⟩)
    · exact .inr (.inl ⟨h1, by omega, by simp [h2]⟩)
  · exact .inl ⟨by omega, by simp [h1]⟩
theorem first_no (s : ByteArray) {width : Int} (h : wid width = false) : firstT s width = ⟨#[]⟩ ∧ firstR s width = ⟨#[]⟩ ∧ firstE s width = 2 := by
  unfold firstT firstR firstE
  rw [h]
  exact ⟨rfl, rfl, rfl⟩
theorem first_torn (s : ByteArray) {K : Nat} (h : wid K = true) (h2 : fstOk s K = false) : firstT s K = ⟨#[]⟩ ∧ firstR s K = ⟨#[]⟩ ∧ firstE s K = 110 := by
  unfold firstT firstR firstE
  rw [h, Int.toNat_natCast, h2]
  exact ⟨rfl, rfl, rfl⟩
theorem first_yes (s : ByteArray) {K : Nat} (h : wid K = true) (h2 : fstOk s K = true) : firstT s K = fstT s K ∧ firstR s K = fstR s K ∧ firstE s K = 0 := by
  unfold firstT firstR firstE
  rw [h, Int.toNat_natCast, h2]
  exact ⟨rfl, rfl, rfl⟩
theorem ext_le (s : ByteArray) (a b : Nat) : (s.extract a b).size ≤ s.size := by
  rw [Lib.size_eq, By.extract_cut, List.length_drop, List.length_take, By.len_size]
  omega
end Go.Proofs.YtclkehfnakhljaaDoor.T
