/- Numbers in bytes; values with types: plain mathematics. Conditions: those of each theorem's head. -/
import Derived.Test.YtiodjaeonoheiaaGreatDoorAa
import Derived.Lib.Strings
import Derived.Laws.Strings
namespace Go.Proofs.YtiodjaeonoheiaaGreatDoor.T
open Go Go.Lib By
def dig (x : Nat) : Nat → List UInt8
  | 0 => []
  | i + 1 => u (x / 256 ^ i % 256) :: dig x i
theorem dig_length (x : Nat) : ∀ i, (dig x i).length = i
  | 0 => rfl
  | i + 1 => by rw [dig, List.length_cons, dig_length x i]
def numL (l : List UInt8) : Nat := l.foldl (fun n b => n * 256 + b.toNat) 0
theorem numL_snoc (l : List UInt8) (b : UInt8) : numL (l ++ [b]) = numL l * 256 + b.toNat := by
  unfold numL; rw [List.foldl_append]; rfl
theorem numL_from : ∀ (l : List UInt8) (a : Nat), l.foldl (fun n b => n * 256 + b.toNat) a = a * 256 ^ l.length + numL l
  | [], a => by simp [numL]
  | b :: l, a => by
    rw [List.foldl_cons, numL_from l]
    have e : numL (b :: l) = b.toNat * 256 ^ l.length + numL l := by
      unfold numL
      rw [List.foldl_cons, numL_from l]
      simp [numL]
    rw [e, List.length_cons, Nat.pow_succ, Nat.add_mul, Nat.mul_assoc, Nat.mul_comm 256, Nat.add_assoc]
theorem numL_app (a l : List UInt8) : numL (a ++ l) = numL a * 256 ^ l.length + numL l := by
  show List.foldl _ 0 (a ++ l) = _
  rw [List.foldl_append, numL_from l]
  rfl
theorem numL_cons (b : UInt8) (l : List UInt8) : numL (b :: l) = b.toNat * 256 ^ l.length + numL l := by
  have h := numL_app [b] l
  rw [List.singleton_append] at h
  rw [h]
  have : numL [b] = b.toNat := by simp [numL]
  rw [this]
theorem numL_lt : ∀ l : List UInt8, numL l < 256 ^ l.length
  | [] => by decide
  | b :: l => by
    rw [numL_cons, List.length_cons, Nat.pow_succ]
    have h1 := numL_lt l
    have h2 := UInt8.toNat_lt b
    have h3 : b.toNat * 256 ^ l.length ≤ 255 * 256 ^ l.length := Nat.mul_le_mul_right _ (by omega)
    omega
theorem numL_dig (x : Nat) : ∀ i, numL (dig x i) = x % 256 ^ i
  | 0 => by simp [dig, numL, Nat.mod_one]
  | i + 1 => by
    rw [dig, numL_cons, dig_length, numL_dig x i, u_nat (Nat.mod_lt _ (by decide)), Nat.pow_succ, Nat.mod_mul, Nat.mul_comm, Nat.add_comm]
theorem numL_dig_lt {x i : Nat} (h : x < 256 ^ i) : numL (dig x i) = x := by rw [numL_dig, Nat.mod_eq_of_lt h]
def wid (n : Int) : Bool := n == 1 || n == 2 || n == 4
theorem wid_cases {n : Int} (h : wid n = true) : n = 1 ∨ n = 2 ∨ n = 4 := by
  simp [wid] at h
  omega
def mk (l : List UInt8) : ByteArray := ⟨l.toArray⟩
theorem mk_list (l : List UInt8) : (mk l).data.toList = l := rfl
theorem mk_size (l : List UInt8) : (mk l).size = l.length := rfl
theorem mk_self (s : ByteArray) : mk s.data.toList = s := rfl
def intOk (n width : Int) : Bool := wid width && decide (0 ≤ n) && decide (n < 256 ^ width.toNat)
def intS (n width : Int) : ByteArray := if intOk n width = true then mk (dig n.toNat width.toNat) else ⟨#[]⟩
def intE (n width : Int) : Int := if intOk n width = true then 0 else 2
def numV (s : ByteArray) : Int := if wid s.size = true then numL s.data.toList else 0
def numE (s : ByteArray) : Int := if wid s.size = true then 0 else 110
def textS (s : ByteArray) (width : Int) : ByteArray := if intOk s.size width = true then mk (dig s.size width.toNat ++ s.data.toList) else ⟨#[]⟩
def fl (s : ByteArray) (k : Nat) : Nat := numL (s.data.toList.take k)
def fstOk (s : ByteArray) (k : Nat) : Bool := decide (k ≤ s.size) && decide (k + fl s k ≤ s.size)
def fstT (s : ByteArray) (k : Nat) : ByteArray := s.extract k (k + fl s k)
def fstR (s : ByteArray) (k : Nat) : ByteArray := s.extract (k + fl s k) s.size
structure Tv where
  k : Int
  v : ByteArray
def Tv.cells (t : Tv) : List Value := [.int .i64 t.k, .string t.v]
def Tv.ok (t : Tv) : Bool := intOk t.k 2 && intOk t.v.size 2
def Tv.put (t : Tv) : List UInt8 := dig t.k.toNat 2 ++ (dig t.v.size 2 ++ t.v.data.toList)
def putL (l : List Tv) : List UInt8 := l.flatMap Tv.put
def putE (l : List Tv) : Int := if 64 < l.length then 6 else if l.all Tv.ok = true then 0 else 2
def putS (l : List Tv) : ByteArray := if putE l = 0 then mk (putL l) else ⟨#[]⟩
theorem putL_snoc (l : List Tv) (t : Tv) : putL (l ++ [t]) = putL l ++ t.put := by simp [putL]
def cutOk (s : ByteArray) : Bool := decide (2 ≤ s.size) && fstOk (s.extract 2 s.size) 2
def cutT (s : ByteArray) : Tv := ⟨numL (s.data.toList.take 2), fstT (s.extract 2 s.size) 2⟩
def cutR (s : ByteArray) : ByteArray := fstR (s.extract 2 s.size) 2
def joinR (a : List Tv) (r : List Tv × Int) : List Tv × Int := if r.2 = 0 then (a ++ r.1, 0) else ([], r.2)
def prs : Nat → ByteArray → List Tv × Int
  | f, s => if s.size = 0 then ([], 0) else if cutOk s = false then ([], 110) else match f with
    | 0 => ([], 6)
    | f + 1 => joinR [cutT s] (prs f (cutR s))
end Go.Proofs.YtiodjaeonoheiaaGreatDoor.T
