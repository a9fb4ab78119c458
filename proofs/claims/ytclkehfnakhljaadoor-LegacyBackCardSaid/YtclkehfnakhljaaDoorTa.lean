/- Numbers in bytes; values with types: plain mathematics. Conditions: those of each theorem's head. -/
import Derived.Test.YtclkehfnakhljaaDoorAa
import Derived.Lib.Strings
import Derived.Laws.Strings

namespace Go.Proofs.YtclkehfnakhljaaDoor.T
open Go Go.Lib By

/-! ### Numbers in bytes -/
/-- The last i bytes of x, the greatest first. -/
def dig (x : Nat) : Nat → List UInt8
  | 0 => []
  | i + 1 => u (x / 256 ^ i % 256) :: dig x i
theorem dig_length (x : Nat) : ∀ i, (dig x i).length = i
  | 0 => rfl
  | i + 1 => by rw [dig, List.length_cons, dig_length x i]
/-- The number that these bytes are. -/
def numL (l : List UInt8) : Nat := l.foldl (fun n b => n * 256 + b.toNat) 0
theorem numL_snoc (l : List UInt8) (b : UInt8) : numL (l ++ [b]) = numL l * 256 + b.toNat := by
  unfold numL; rw [List.foldl_append]; rfl
theorem numL_from : ∀ (l : List UInt8) (a : Nat), l.foldl (fun n b => n * 256 + b.toNat) a = a * 256 ^ l.length + numL l
  | [], a => by simp [numL]
  | b :: l, a => by
    rw [List.foldl_cons, numL_from l]
    have e : numL (b :: l) = b.toNat * 256 ^ l.length + numL l := by
      unfold numL
      rw [List.foldl_cons, numL_from l]
      simp [numL]
    rw [e, List.length_cons, Nat.pow_succ, Nat.add_mul, Nat.mul_assoc, Nat.mul_comm 256, Nat.add_assoc]
theorem numL_app (a l : List UInt8) : numL (a ++ l) = numL a * 256 ^ l.length + numL l := by
  show List.foldl _ 0 (a ++ l) = _
  rw [List.foldl_append, numL_from l]
  rfl
theorem numL_cons (b : UInt8) (l : List UInt8) : numL (b :: l) = b.toNat * 256 ^ l.length + numL l := by
  have h := numL_app [b] l
  rw [List.singleton_append] at h
  rw [h]
  have : numL [b] = b.toNat := by simp [numL]
  rw [this]
theorem numL_lt : ∀ l : List UInt8, numL l < 256 ^ l.length
  | [] => by decide
  | b :: l => by
    rw [numL_cons, List.length_cons, Nat.pow_succ]
    have h1 := numL_lt l
    have h2 := UInt8.toNat_lt b
    have h3 : b.toNat * 256 ^ l.length ≤ 255 * 256 ^ l.length := Nat.mul_le_mul_right _ (by omega)
    omega
theorem numL_dig (x : Nat) : ∀ i, numL (dig x i) = x % 256 ^ i
  | 0 => by simp [dig, numL, Nat.mod_one]
  | i + 1 => by
    rw [dig, numL_cons, dig_length, numL_dig x i, u_nat (Nat.mod_lt _ (by decide)), Nat.pow_succ, Nat.mod_mul, Nat.mul_comm, Nat.add_comm]
theorem numL_dig_lt {x i : Nat} (h : x < 256 ^ i) : numL (dig x i) = x := by rw [numL_dig, Nat.mod_eq_of_lt h]
theorem dig_mod (x y : Nat) : ∀ i, x % 256 ^ i = y % 256 ^ i → dig x i = dig y i
  | 0, _ => rfl
  | i + 1, h => by
    rw [Nat.pow_succ] at h
    have h1 : x / 256 ^ i % 256 = y / 256 ^ i % 256 := by
      have a := congrArg (· / 256 ^ i) h
      simp only [Nat.mod_mul_right_div_self] at a
      exact a
    have h2 : x % 256 ^ i = y % 256 ^ i := by
      have a := congrArg (· % 256 ^ i) h
      simp only [Nat.mod_mul_right_mod] at a
      exact a
    rw [dig, dig, h1, dig_mod x y i h2]
theorem dig_numL : ∀ l : List UInt8, dig (numL l) l.length = l
  | [] => rfl
  | b :: l => by
    rw [List.length_cons, dig, numL_cons]
    have hp : 0 < 256 ^ l.length := Nat.pow_pos (by decide)
    have h1 : (b.toNat * 256 ^ l.length + numL l) / 256 ^ l.length = b.toNat := by
      rw [Nat.add_comm, Nat.add_mul_div_right _ _ hp, Nat.div_eq_of_lt (numL_lt l), Nat.zero_add]
    have h2 : dig (b.toNat * 256 ^ l.length + numL l) l.length = dig (numL l) l.length := dig_mod _ _ _ (by rw [Nat.mul_add_mod_self_right])
    rw [h1, h2, dig_numL l, Nat.mod_eq_of_lt (UInt8.toNat_lt b), nat_u]
/-- One number's bytes are ahead of another's just if it is less. -/
theorem dig_lt : ∀ (i x y : Nat), x < 256 ^ i → y < 256 ^ i → (dig x i < dig y i ↔ x < y)
  | 0, x, y, hx, hy => by
    have : x = 0 := by simpa using hx
    have : y = 0 := by simpa using hy
    subst_vars
    simp
  | i + 1, x, y, hx, hy => by
    have hp : 0 < 256 ^ i := Nat.pow_pos (by decide)
    rw [Nat.pow_succ, Nat.mul_comm] at hx hy
    have hxq : x / 256 ^ i < 256 := Nat.div_lt_of_lt_mul (by rw [Nat.mul_comm]; exact hx)
    have hyq : y / 256 ^ i < 256 := Nat.div_lt_of_lt_mul (by rw [Nat.mul_comm]; exact hy)
    rw [dig, dig, Nat.mod_eq_of_lt hxq, Nat.mod_eq_of_lt hyq, List.cons_lt_cons_iff]
    have e1 : dig x i = dig (x % 256 ^ i) i := dig_mod _ _ _ (by rw [Nat.mod_mod])
    have e2 : dig y i = dig (y % 256 ^ i) i := dig_mod _ _ _ (by rw [Nat.mod_mod])
    have ih := dig_lt i (x % 256 ^ i) (y % 256 ^ i) (Nat.mod_lt _ hp) (Nat.mod_lt _ hp)
    rw [e1, e2, ih]
    have hl : u (x / 256 ^ i) < u (y / 256 ^ i) ↔ x / 256 ^ i < y / 256 ^ i := by
      rw [UInt8.lt_iff_toNat_lt, u_nat hxq, u_nat hyq]
    have he : u (x / 256 ^ i) = u (y / 256 ^ i) ↔ x / 256 ^ i = y / 256 ^ i := by
      constructor
      · intro h
        have := congrArg UInt8.toNat h
        rwa [u_nat hxq, u_nat hyq] at this
      · intro h; rw [h]
    rw [hl, he]
    have dx := Nat.div_add_mod x (256 ^ i)
    have dy := Nat.div_add_mod y (256 ^ i)
    have mx := Nat.mod_lt x hp
    have my := Nat.mod_lt y hp
    generalize x / 256 ^ i = qx at *
    generalize y / 256 ^ i = qy at *
    generalize x % 256 ^ i = rx at *
    generalize y % 256 ^ i = ry at *
    generalize 256 ^ i = P at *
    constructor
    · rintro (h | ⟨rfl, h⟩)
      · have := Nat.mul_le_mul_left P (show qx + 1 ≤ qy from h)
        rw [Nat.mul_add, Nat.mul_one] at this
        omega
      · omega
    · intro h
      rcases Nat.lt_trichotomy qx qy with h1 | h1 | h1
      · exact .inl h1
      · exact .inr ⟨h1, by subst h1; omega⟩
      · have := Nat.mul_le_mul_left P (show qy + 1 ≤ qx from h1)
        rw [Nat.mul_add, Nat.mul_one] at this
        omega

/-! ### What the calls answer -/
def wid (n : Int) : Bool := n == 1 || n == 2 || n == 4
theorem wid_cases {n : Int} (h : wid n = true) : n = 1 ∨ n = 2 ∨ n = 4 := by
  simp [wid] at h
  omega
def mk (l : List UInt8) : ByteArray := ⟨l.toArray⟩
theorem mk_list (l : List UInt8) : (mk l).data.toList = l := rfl
theorem mk_size (l : List UInt8) : (mk l).size = l.length := rfl
theorem mk_self (s : ByteArray) : mk s.data.toList = s := rfl
/-- May n be put into so many bytes? -/
def intOk (n width : Int) : Bool := wid width && decide (0 ≤ n) && decide (n < 256 ^ width.toNat)
def intS (n width : Int) : ByteArray := if intOk n width = true then mk (dig n.toNat width.toNat) else ⟨#[]⟩
def intE (n width : Int) : Int := if intOk n width = true then 0 else 2
def numV (s : ByteArray) : Int := if wid s.size = true then numL s.data.toList else 0
def numE (s : ByteArray) : Int := if wid s.size = true then 0 else 110
def textS (s : ByteArray) (width : Int) : ByteArray := if intOk s.size width = true then mk (dig s.size width.toNat ++ s.data.toList) else ⟨#[]⟩
/-- How many bytes the text at the front of s has. -/
def fl (s : ByteArray) (k : Nat) : Nat := numL (s.data.toList.take k)
def fstOk (s : ByteArray) (k : Nat) : Bool := decide (k ≤ s.size) && decide (k + fl s k ≤ s.size)
def fstT (s : ByteArray) (k : Nat) : ByteArray := s.extract k (k + fl s k)
def fstR (s : ByteArray) (k : Nat) : ByteArray := s.extract (k + fl s k) s.size
def firstT (s : ByteArray) (width : Int) : ByteArray := if wid width && fstOk s width.toNat then fstT s width.toNat else ⟨#[]⟩
def firstR (s : ByteArray) (width : Int) : ByteArray := if wid width && fstOk s width.toNat then fstR s width.toNat else ⟨#[]⟩
def firstE (s : ByteArray) (width : Int) : Int := if wid width then (if fstOk s width.toNat then 0 else 110) else 2
/-- A value with its type. -/
structure Tv where
  k : Int
  v : ByteArray
def Tv.cells (t : Tv) : List Value := [.int .i64 t.k, .string t.v]
/-- May it be put? -/
def Tv.ok (t : Tv) : Bool := intOk t.k 2 && intOk t.v.size 2
def Tv.put (t : Tv) : List UInt8 := dig t.k.toNat 2 ++ (dig t.v.size 2 ++ t.v.data.toList)
def putL (l : List Tv) : List UInt8 := l.flatMap Tv.put
def putE (l : List Tv) : Int := if 64 < l.length then 6 else if l.all Tv.ok = true then 0 else 2
def putS (l : List Tv) : ByteArray := if putE l = 0 then mk (putL l) else ⟨#[]⟩
theorem putL_snoc (l : List Tv) (t : Tv) : putL (l ++ [t]) = putL l ++ t.put := by simp [putL]
/-- The value at the front of s. -/
def cutOk (s : ByteArray) : Bool := decide (2 ≤ s.size) && fstOk (s.extract 2 s.size) 2
def cutT (s : ByteArray) : Tv := ⟨numL (s.data.toList.take 2), fstT (s.extract 2 s.size) 2⟩
def cutR (s : ByteArray) : ByteArray := fstR (s.extract 2 s.size) 2
def joinR (a : List Tv) (r : List Tv × Int) : List Tv × Int := if r.2 = 0 then (a ++ r.1, 0) else ([], r.2)
/-- All values of s, where f more may come. -/
def prs : Nat → ByteArray → List Tv × Int
  | f, s => if s.size = 0 then ([], 0) else if cutOk s = false then ([], 110) else match f with
    | 0 => ([], 6)
    | f + 1 => joinR [cutT s] (prs f (cutR s))
theorem joinR_nil (r : List Tv × Int) (h : r.2 ≠ 0 → r.1 = []) : joinR [] r = r := by
  unfold joinR
  split
  · rename_i e; rw [← e]; rfl
  · rename_i e; rw [← h e]
theorem joinR_err {a : List Tv} {r : List Tv × Int} : (joinR a r).2 = r.2 := by
  unfold joinR; split
  · rename_i e; exact e.symm
  · rfl
theorem joinR_none {a : List Tv} {r : List Tv × Int} (h : r.2 ≠ 0) : (joinR a r).1 = [] := by
  unfold joinR; rw [if_neg h]
theorem joinR_two (a b : List Tv) (r : List Tv × Int) : joinR a (joinR b r) = joinR (a ++ b) r := by
  unfold joinR
  by_cases h : r.2 = 0
  · simp [h]
  · simp [h]
theorem prs_none : ∀ (f : Nat) (s : ByteArray), (prs f s).2 ≠ 0 → (prs f s).1 = []
  | 0, s => by
    intro _
    rw [prs]
    split
    · rfl
    split <;> rfl
  | f + 1, s => by
    intro h
    rw [prs] at h ⊢
    split at h
    · exact absurd rfl h
    rename_i h0
    rw [if_neg h0]
    split at h
    · rename_i h1; rw [if_pos h1]
    rename_i h1
    rw [if_neg h1]
    rw [joinR_err] at h
    exact joinR_none h
def fnd (l : List Tv) (k : Int) : Option Tv := l.find? (fun t => t.k == k)
def fndS (l : List Tv) (k : Int) : ByteArray := match fnd l k with | some t => t.v | none => ⟨#[]⟩
def fndB (l : List Tv) (k : Int) : Bool := (fnd l k).isSome

end Go.Proofs.YtclkehfnakhljaaDoor.T
