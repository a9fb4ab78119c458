/- Contracts: Text (package tlv's, and the document's own), whatever the arguments. Condition: a text takes at most what a machine can hold. -/
import Derived.Test.YtpdhjifocdbbdaaTd
namespace Go.Proofs.Ytpdhjifocdbbdaa
open Go.RowKit Go.Lib

theorem heap_lt {w : World} {b : Nat} {o : Obj} (h : w.heap[b]? = some o) : b < w.heap.size := (Array.getElem?_eq_some_iff.1 h).1
theorem box_new (w : World) (cs : Array Value) (t : TypeId) : (w.alloc (.cells cs t)).heap[w.heap.size]? = some (.cells cs t (0, 0)) := heap_alloc_new w _
theorem bx2 {w : World} {b : Nat} {v0 v1 : Value} {t : TypeId} (h : w.heap[b]? = some (.cells #[v0, v1] t (0, 0))) :
    w.cell? ⟨b, 0, none⟩ = some v0 ∧ w.cell? ⟨b, 1, none⟩ = some v1 ∧ w.frozen? ⟨b, 0, none⟩ = false ∧ w.frozen? ⟨b, 1, none⟩ = false := by
  refine ⟨?_, ?_, ?_, ?_⟩
  · rw [Lib.cell_of_heap h]; rfl
  · rw [Lib.cell_of_heap h]; rfl
  · simp [World.frozen?, h]
  · simp [World.frozen?, h]
theorem bx1 {w : World} {b : Nat} {v0 : Value} {t : TypeId} (h : w.heap[b]? = some (.cells #[v0] t (0, 0))) : w.cell? ⟨b, 0, none⟩ = some v0 ∧ w.frozen? ⟨b, 0, none⟩ = false := by
  refine ⟨?_, ?_⟩
  · rw [Lib.cell_of_heap h]; rfl
  · simp [World.frozen?, h]
theorem set2 {w : World} {b : Nat} {v0 v1 : Value} {t : TypeId} (h : w.heap[b]? = some (.cells #[v0, v1] t (0, 0))) (u0 u1 : Value) :
    ((w.setCell ⟨b, 0, none⟩ u0).setCell ⟨b, 1, none⟩ u1).heap[b]? = some (.cells #[u0, u1] t (0, 0)) := by
  simp [World.setCell, Array.getElem?_modify, h]
theorem intS_size (n width : Int) : (intS n width).size ≤ 4 := by
  unfold intS
  split
  · rename_i h
    have hw : wid width = true := by
      unfold intOk at h
      simp only [Bool.and_eq_true] at h
      exact h.1.1
    rw [mk_size, dig_length]
    rcases wid_cases hw with rfl | rfl | rfl <;> decide
  · decide
theorem ext_first (s : ByteArray) (K n : Nat) : (s.extract K s.size).extract 0 n = s.extract K (K + n) := by
  apply By.bytes_ext
  rw [By.extract_cut, By.extract_drop, By.extract_cut, List.drop_zero, List.drop_take, Nat.add_sub_cancel_left]
theorem ext_rest (s : ByteArray) (K n : Nat) : (s.extract K s.size).extract n (s.extract K s.size).size = s.extract (K + n) s.size := by
  apply By.bytes_ext
  rw [By.extract_drop, By.extract_drop, By.extract_drop, List.drop_drop]
theorem ext_size (s : ByteArray) (K : Nat) : (s.extract K s.size).size = s.size - K := by
  rw [Lib.size_eq, By.extract_drop, List.length_drop, By.len_size]
theorem num_head (s : ByteArray) {K : Nat} (hK : wid K = true) (h : K ≤ s.size) : numV (s.extract 0 K) = fl s K ∧ numE (s.extract 0 K) = 0 := by
  have hz : (s.extract 0 K).size = K := by
    rw [Lib.size_eq, By.extract_cut, List.drop_zero, List.length_take, By.len_size]
    omega
  unfold numV numE fl
  rw [hz, if_pos hK, if_pos hK, By.extract_cut, List.drop_zero]
  exact ⟨rfl, rfl⟩
theorem fl_lt (s : ByteArray) {K : Nat} (hK : K ≤ 4) : fl s K < 4294967296 := by
  unfold fl
  have h1 := numL_lt (s.data.toList.take K)
  have h2 : 256 ^ (s.data.toList.take K).length ≤ 256 ^ 4 := Nat.pow_le_pow_right (by decide) (by rw [List.length_take]; omega)
  omega
set_option maxRecDepth 100000 in
set_option maxHeartbeats 2000000 in
theorem text_any (s : ByteArray) (width : Int) (w : World) (hs : s.size ≤ 140737488351232) : Calls Try.prog 28 #[.string s, .int .i64 width] w (Gives (.tuple #[.string (textS s width), .int .i64 (intE s.size width)]) w) := by
  have C := Lib.hid (int_any s.size width w)
  have hz := intS_size s.size width
  have HT : Hid (intOk s.size width = true → intS s.size width ++ s = textS s width) := fun h => by
    unfold intS textS
    rw [if_pos h, if_pos h]
    apply By.bytes_ext
    rw [By.append_list]
    rfl
  have HN : Hid (intOk s.size width = false → textS s width = ⟨#[]⟩) := fun h => by
    unfold textS
    rw [if_neg (by rw [h]; decide)]
  generalize textS s width = T at HT HN
  generalize intS s.size width = D at hz HT C
  unfold intE at C ⊢
  cases ok : intOk s.size width
  · have e1 := HN.out ok
    subst e1
    rw [ok] at C
    rw [if_neg (by decide)] at C ⊢
    clear hz HT HN ok
    go_enter Try.func28, Try.ntmps28
    go_wp2_with fail
    refine C.out.mono ?_
    rintro e w1 ⟨rfl, hb⟩
    have HB := Lib.hid hb
    clear hb C
    go_wp2_with fail
    go_ret2
    exact ⟨rfl, HB.out⟩
  · have e1 := HT.out ok
    rw [ok] at C
    rw [if_pos rfl] at C ⊢
    subst e1
    clear HT HN ok
    go_enter Try.func28, Try.ntmps28
    go_wp2_with fail
    refine C.out.mono ?_
    rintro e w1 ⟨rfl, hb⟩
    have HB := Lib.hid hb
    clear hb C
    go_wp2_with fail
    go_ret2
    exact ⟨rfl, HB.out⟩
set_option maxRecDepth 100000 in
set_option maxHeartbeats 2000000 in
theorem rtext_any (s : ByteArray) (width : Int) (w : World) (hs : s.size ≤ 140737488351232) : Calls Try.prog 30 #[.string s, .int .i64 width] w (Gives (.tuple #[.string (textS s width), .int .i64 (intE s.size width)]) w) := by
  have C := Lib.hid (rint_any s.size width w)
  have hz := intS_size s.size width
  have HT : Hid (intOk s.size width = true → intS s.size width ++ s = textS s width) := fun h => by
    unfold intS textS
    rw [if_pos h, if_pos h]
    apply By.bytes_ext
    rw [By.append_list]
    rfl
  have HN : Hid (intOk s.size width = false → textS s width = ⟨#[]⟩) := fun h => by
    unfold textS
    rw [if_neg (by rw [h]; decide)]
  generalize textS s width = T at HT HN
  generalize intS s.size width = D at hz HT C
  unfold intE at C ⊢
  cases ok : intOk s.size width
  · have e1 := HN.out ok
    subst e1
    rw [ok] at C
    rw [if_neg (by decide)] at C ⊢
    clear hz HT HN ok
    go_enter Try.func30, Try.ntmps30
    go_wp2_with fail
    refine C.out.mono ?_
    rintro e w1 ⟨rfl, hb⟩
    have HB := Lib.hid hb
    clear hb C
    go_wp2_with fail
    go_ret2
    exact ⟨rfl, HB.out⟩
  · have e1 := HT.out ok
    rw [ok] at C
    rw [if_pos rfl] at C ⊢
    subst e1
    clear HT HN ok
    go_enter Try.func30, Try.ntmps30
    go_wp2_with fail
    refine C.out.mono ?_
    rintro e w1 ⟨rfl, hb⟩
    have HB := Lib.hid hb
    clear hb C
    go_wp2_with fail
    go_ret2
    exact ⟨rfl, HB.out⟩
/-- What cutText and First answer. -/
def cT (s : ByteArray) (K : Nat) : ByteArray := if fstOk s K = true then fstT s K else ⟨#[]⟩
def cR (s : ByteArray) (K : Nat) : ByteArray := if fstOk s K = true then fstR s K else ⟨#[]⟩
theorem fst_cases (s : ByteArray) (K : Nat) : (s.size < K ∧ fstOk s K = false) ∨ (K ≤ s.size ∧ s.size < K + fl s K ∧ fstOk s K = false) ∨ (K + fl s K ≤ s.size ∧ fstOk s K = true) := by
  unfold fstOk
  by_cases h1 : K ≤ s.size
  · by_cases h2 : K + fl s K ≤ s.size
    · exact .inr (.inr ⟨h2, by simp [h1, h2]⟩)
    · exact .inr (.inl ⟨h1, by omega, by simp [h2]⟩)
  · exact .inl ⟨by omega, by simp [h1]⟩
end Go.Proofs.Ytpdhjifocdbbdaa
