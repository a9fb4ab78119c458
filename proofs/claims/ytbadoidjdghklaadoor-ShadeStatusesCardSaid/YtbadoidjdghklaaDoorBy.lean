/- Bytes of a text, plainly: a byte by its place, cuts of a text, two texts' equality. No condition. -/
import Derived.Lib.Strings
import Derived.Laws.Strings
namespace Go.Proofs.YtbadoidjdghklaaDoor.By
open Go Go.Lib
def nb (l : List UInt8) (i : Nat) : Nat := (l.getD i 0).toNat
theorem nb_lt (l : List UInt8) (i : Nat) : nb l i < 256 := UInt8.toNat_lt _
theorem byte_nb (s : ByteArray) (k : Nat) (h : k < s.size) : (s[k]'h).toNat = nb s.data.toList k := by
  unfold nb
  have h' : k < s.data.size := h
  simp [List.getD_eq_getElem?_getD, Array.getElem?_eq_getElem h']
  rfl
theorem len_size (s : ByteArray) : s.data.toList.length = s.size := (Lib.size_eq s).symm
theorem extract_drop (s : ByteArray) (k : Nat) : (s.extract k s.size).data.toList = s.data.toList.drop k := by
  rw [Lib.extract_data, List.take_of_length_le (by rw [List.length_drop, ← Lib.size_eq]; exact Nat.le_refl _)]
theorem extract_cut (s : ByteArray) (i j : Nat) : (s.extract i j).data.toList = (s.data.toList.take j).drop i := by
  rw [Lib.extract_data, List.drop_take]
theorem bytes_ext {a b : ByteArray} (h : a.data.toList = b.data.toList) : a = b := ByteArray.ext (Array.toList_inj.1 h)
theorem append_list (a b : ByteArray) : (a ++ b).data.toList = a.data.toList ++ b.data.toList := by simp
theorem nonempty {R : ByteArray} (h : ¬ R.size = 0) : R.toList.isEmpty = false := by
  rw [ByteArray.toList_eq]
  cases e : R.data.toList with
  | nil => exact absurd (by rw [Lib.size_eq, e]; rfl) h
  | cons _ _ => rfl
theorem empty_of {R : ByteArray} (h : R.size = 0) : R = ⟨#[]⟩ := ByteArray.ext (Array.eq_empty_of_size_eq_zero h)
theorem drop_cons (l : List UInt8) (k : Nat) (h : k < l.length) : ∃ b, l.drop k = b :: l.drop (k + 1) ∧ nb l k = b.toNat := by
  refine ⟨l[k], List.drop_eq_getElem_cons h, ?_⟩
  unfold nb
  rw [List.getD_eq_getElem?_getD, List.getElem?_eq_getElem h]
  rfl
theorem nb_drop (l : List UInt8) (k j : Nat) : nb (l.drop k) j = nb l (k + j) := by
  unfold nb
  rw [List.getD_eq_getElem?_getD, List.getElem?_drop, ← List.getD_eq_getElem?_getD]
def u (n : Nat) : UInt8 := UInt8.ofNat n
theorem u_nat {n : Nat} (h : n < 256) : (u n).toNat = n := by
  unfold u
  simp
  exact h
theorem nat_u (b : UInt8) : u b.toNat = b := by unfold u; simp
theorem eq_of_nat {a b : UInt8} (h : a.toNat = b.toNat) : a = b := UInt8.toNat_inj.1 h
theorem nat_lt (b : UInt8) : b.toNat < 256 := UInt8.toNat_lt b
end Go.Proofs.YtbadoidjdghklaaDoor.By
