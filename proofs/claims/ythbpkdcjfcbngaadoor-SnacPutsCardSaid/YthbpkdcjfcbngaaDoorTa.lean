/- Bytes of a text; numbers in bytes, the greatest first: plain mathematics. No condition. -/
import Derived.Lib.Strings
import Derived.Laws.Strings
namespace Go.Proofs.YthbpkdcjfcbngaaDoor.By
open Go Go.Lib
def nb (l : List UInt8) (i : Nat) : Nat := (l.getD i 0).toNat
theorem nb_lt (l : List UInt8) (i : Nat) : nb l i < 256 := UInt8.toNat_lt _
theorem byte_nb (s : ByteArray) (k : Nat) (h : k < s.size) : (s[k]'h).toNat = nb s.data.toList k := by
  unfold nb
  have h' : k < s.data.size := h
  simp [List.getD_eq_getElem?_getD, Array.getElem?_eq_getElem h']
  rfl
theorem len_size (s : ByteArray) : s.data.toList.length = s.size := (Lib.size_eq s).symm
theorem extract_drop (s : ByteArray) (k : Nat) : (s.extract k s.size).data.toList = s.data.toList.drop k := by
  rw [Lib.extract_data, List.take_of_length_le (by rw [List.length_drop, ← Lib.size_eq]; exact Nat.le_refl _)]
theorem extract_cut (s : ByteArray) (i j : Nat) : (s.extract i j).data.toList = (s.data.toList.take j).drop i := by
  rw [Lib.extract_data, List.drop_take]
theorem bytes_ext {a b : ByteArray} (h : a.data.toList = b.data.toList) : a = b := ByteArray.ext (Array.toList_inj.1 h)
theorem append_list (a b : ByteArray) : (a ++ b).data.toList = a.data.toList ++ b.data.toList := by simp
theorem nonempty {R : ByteArray} (h : ¬ R.size = 0) : R.toList.isEmpty = false := by
  rw [ByteArray.toList_eq]
  cases e : R.data.toList with
  | nil => exact absurd (by rw [Lib.size_eq, e]; rfl) h
  | cons _ _ => rfl
theorem empty_of {R : ByteArray} (h : R.size = 0) : R = ⟨#[]⟩ := ByteArray.ext (Array.eq_empty_of_size_eq_zero h)
theorem drop_cons (l : List UInt8) (k : Nat) (h : k < l.length) : ∃ b, l.drop k = b :: l.drop (k + 1) ∧ nb l k = b.toNat := by
  refine ⟨l[k], List.drop_eq_getElem_cons h, ?_⟩
  unfold nb
  rw [List.getD_eq_getElem?_getD, List.getElem?_eq_getElem h]
  rfl
theorem nb_drop (l : List UInt8) (k j : Nat) : nb (l.drop k) j = nb l (k + j) := by
  unfold nb
  rw [List.getD_eq_getElem?_getD, List.getElem?_drop, ← List.getD_eq_getElem?_getD]
def u (n : Nat) : UInt8 := UInt8.ofNat n
theorem u_nat {n : Nat} (h : n < 256) : (u n).toNat = n := by
  unfold u
  simp
  exact h
theorem nat_u (b : UInt8) : u b.toNat = b := by unfold u; simp
theorem eq_of_nat {a b : UInt8} (h : a.toNat = b.toNat) : a = b := UInt8.toNat_inj.1 h
theorem nat_lt (b : UInt8) : b.toNat < 256 := UInt8.toNat_lt b


end Go.Proofs.YthbpkdcjfcbngaaDoor.By
namespace Go.Proofs.YthbpkdcjfcbngaaDoor
open Go Go.Lib By

/-! ### Numbers in bytes -/
/-- The last i bytes of x, the greatest first. -/
def dig (x : Nat) : Nat → List UInt8
  | 0 => []
  | i + 1 => u (x / 256 ^ i % 256) :: dig x i
theorem dig_length (x : Nat) : ∀ i, (dig x i).length = i
  | 0 => rfl
  | i + 1 => by rw [dig, List.length_cons, dig_length x i]
/-- The number that these bytes are. -/
def numL (l : List UInt8) : Nat := l.foldl (fun n b => n * 256 + b.toNat) 0
theorem numL_snoc (l : List UInt8) (b : UInt8) : numL (l ++ [b]) = numL l * 256 + b.toNat := by
  unfold numL; rw [List.foldl_append]; rfl
theorem numL_from : ∀ (l : List UInt8) (a : Nat), l.foldl (fun n b => n * 256 + b.toNat) a = a * 256 ^ l.length + numL l
  | [], a => by simp [numL]
  | b :: l, a => by
    rw [List.foldl_cons, numL_from l]
    have e : numL (b :: l) = b.toNat * 256 ^ l.length + numL l := by
      unfold numL
      rw [List.foldl_cons, numL_from l]
      simp [numL]
    rw [e, List.length_cons, Nat.pow_succ, Nat.add_mul, Nat.mul_assoc, Nat.mul_comm 256, Nat.add_assoc]
theorem numL_app (a l : List UInt8) : numL (a ++ l) = numL a * 256 ^ l.length + numL l := by
  show List.foldl _ 0 (a ++ l) = _
  rw [List.foldl_append, numL_from l]
  rfl
theorem numL_cons (b : UInt8) (l : List UInt8) : numL (b :: l) = b.toNat * 256 ^ l.length + numL l := by
  have h := numL_app [b] l
  rw [List.singleton_append] at h
  rw [h]
  have : numL [b] = b.toNat := by simp [numL]
  rw [this]
theorem numL_lt : ∀ l : List UInt8, numL l < 256 ^ l.length
  | [] => by decide
  | b :: l => by
    rw [numL_cons, List.length_cons, Nat.pow_succ]
    have h1 := numL_lt l
    have h2 := UInt8.toNat_lt b
    have h3 : b.toNat * 256 ^ l.length ≤ 255 * 256 ^ l.length := Nat.mul_le_mul_right _ (by omega)
    omega
theorem numL_dig (x : Nat) : ∀ i, numL (dig x i) = x % 256 ^ i
  | 0 => by simp [dig, numL, Nat.mod_one]
  | i + 1 => by
    rw [dig, numL_cons, dig_length, numL_dig x i, u_nat (Nat.mod_lt _ (by decide)), Nat.pow_succ, Nat.mod_mul, Nat.mul_comm, Nat.add_comm]
theorem numL_dig_lt {x i : Nat} (h : x < 256 ^ i) : numL (dig x i) = x := by rw [numL_dig, Nat.mod_eq_of_lt h]
theorem dig_mod (x y : Nat) : ∀ i, x % 256 ^ i = y % 256 ^ i → dig x i = dig y i
  | 0, _ => rfl
  | i + 1, h => by
    rw [Nat.pow_succ] at h
    have h1 : x / 256 ^ i % 256 = y / 256 ^ i % 256 := by
      have a := congrArg (· / 256 ^ i) h
      simp only [Nat.mod_mul_right_div_self] at a
      exact a
    have h2 : x % 256 ^ i = y % 256 ^ i := by
      have a := congrArg (· % 256 ^ i) h
      simp only [Nat.mod_mul_right_mod] at a
      exact a
    rw [dig, dig, h1, dig_mod x y i h2]
theorem dig_numL : ∀ l : List UInt8, dig (numL l) l.length = l
  | [] => rfl
  | b :: l => by
    rw [List.length_cons, dig, numL_cons]
    have hp : 0 < 256 ^ l.length := Nat.pow_pos (by decide)
    have h1 : (b.toNat * 256 ^ l.length + numL l) / 256 ^ l.length = b.toNat := by
      rw [Nat.add_comm, Nat.add_mul_div_right _ _ hp, Nat.div_eq_of_lt (numL_lt l), Nat.zero_add]
    have h2 : dig (b.toNat * 256 ^ l.length + numL l) l.length = dig (numL l) l.length := dig_mod _ _ _ (by rw [Nat.mul_add_mod_self_right])
    rw [h1, h2, dig_numL l, Nat.mod_eq_of_lt (UInt8.toNat_lt b), nat_u]
/-- One number's bytes are ahead of another's just if it is less. -/
theorem dig_lt : ∀ (i x y : Nat), x < 256 ^ i → y < 256 ^ i → (dig x i < dig y i ↔ x < y)
  | 0, x, y, hx, hy => by
    have : x = 0 := by simpa using hx
    have : y = 0 := by simpa using hy
    subst_vars
    simp
  | i + 1, x, y, hx, hy => by
    have hp : 0 < 256 ^ i := Nat.pow_pos (by decide)
    rw [Nat.pow_succ, Nat.mul_comm] at hx hy
    have hxq : x / 256 ^ i < 256 := Nat.div_lt_of_lt_mul (by rw [Nat.mul_comm]; exact hx)
    have hyq : y / 256 ^ i < 256 := Nat.div_lt_of_lt_mul (by rw [Nat.mul_comm]; exact hy)
    rw [dig, dig, Nat.mod_eq_of_lt hxq, Nat.mod_eq_of_lt hyq, List.cons_lt_cons_iff]
    have e1 : dig x i = dig (x % 256 ^ i) i := dig_mod _ _ _ (by rw [Nat.mod_mod])
    have e2 : dig y i = dig (y % 256 ^ i) i := dig_mod _ _ _ (by rw [Nat.mod_mod])
    have ih := dig_lt i (x % 256 ^ i) (y % 256 ^ i) (Nat.mod_lt _ hp) (Nat.mod_lt _ hp)
    rw [e1, e2, ih]
    have hl : u (x / 256 ^ i) < u (y / 256 ^ i) ↔ x / 256 ^ i < y / 256 ^ i := by
      rw [UInt8.lt_iff_toNat_lt, u_nat hxq, u_nat hyq]
    have he : u (x / 256 ^ i) = u (y / 256 ^ i) ↔ x / 256 ^ i = y / 256 ^ i := by
      constructor
      · intro h
        have := congrArg UInt8.toNat h
        rwa [u_nat hxq, u_nat hyq] at this
      · intro h; rw [h]
    rw [hl, he]
    have dx := Nat.div_add_mod x (256 ^ i)
    have dy := Nat.div_add_mod y (256 ^ i)
    have mx := Nat.mod_lt x hp
    have my := Nat.mod_lt y hp
    generalize x / 256 ^ i = qx at *
    generalize y / 256 ^ i = qy at *
    generalize x % 256 ^ i = rx at *
    generalize y % 256 ^ i = ry at *
    generalize 256 ^ i = P at *
    constructor
    · rintro (h | ⟨rfl, h⟩)
      · have := Nat.mul_le_mul_left P (show qx + 1 ≤ qy from h)
        rw [Nat.mul_add, Nat.mul_one] at this
        omega
      · omega
    · intro h
      rcases Nat.lt_trichotomy qx qy with h1 | h1 | h1
      · exact .inl h1
      · exact .inr ⟨h1, by subst h1; omega⟩
      · have := Nat.mul_le_mul_left P (show qy + 1 ≤ qx from h1)
        rw [Nat.mul_add, Nat.mul_one] at this
        omega

/-! ### What the calls answer -/
def wid (n : Int) : Bool := n == 1 || n == 2 || n == 4
theorem wid_cases {n : Int} (h : wid n = true) : n = 1 ∨ n = 2 ∨ n = 4 := by
  simp [wid] at h
  omega
def mk (l : List UInt8) : ByteArray := ⟨l.toArray⟩
theorem mk_list (l : List UInt8) : (mk l).data.toList = l := rfl
theorem mk_size (l : List UInt8) : (mk l).size = l.length := rfl
theorem mk_self (s : ByteArray) : mk s.data.toList = s := rfl
/-- May n be put into so many bytes? -/
def intOk (n width : Int) : Bool := wid width && decide (0 ≤ n) && decide (n < 256 ^ width.toNat)
def intS (n width : Int) : ByteArray := if intOk n width = true then mk (dig n.toNat width.toNat) else ⟨#[]⟩
def intE (n width : Int) : Int := if intOk n width = true then 0 else 2
def numV (s : ByteArray) : Int := if wid s.size = true then numL s.data.toList else 0
def numE (s : ByteArray) : Int := if wid s.size = true then 0 else 110
def textS (s : ByteArray) (width : Int) : ByteArray := if intOk s.size width = true then mk (dig s.size width.toNat ++ s.data.toList) else ⟨#[]⟩
/-- How many bytes the text at the front of s has. -/
def fl (s : ByteArray) (k : Nat) : Nat := numL (s.data.toList.take k)
def fstOk (s : ByteArray) (k : Nat) : Bool := decide (k ≤ s.size) && decide (k + fl s k ≤ s.size)
def fstT (s : ByteArray) (k : Nat) : ByteArray := s.extract k (k + fl s k)
def fstR (s : ByteArray) (k : Nat) : ByteArray := s.extract (k + fl s k) s.size
def firstT (s : ByteArray) (width : Int) : ByteArray := if wid width && fstOk s width.toNat then fstT s width.toNat else ⟨#[]⟩
def firstR (s : ByteArray) (width : Int) : ByteArray := if wid width && fstOk s width.toNat then fstR s width.toNat else ⟨#[]⟩
def firstE (s : ByteArray) (width : Int) : Int := if wid width then (if fstOk s width.toNat then 0 else 110) else 2
end Go.Proofs.YthbpkdcjfcbngaaDoor
