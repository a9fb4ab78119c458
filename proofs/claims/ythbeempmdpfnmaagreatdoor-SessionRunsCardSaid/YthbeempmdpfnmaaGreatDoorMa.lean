/- MD5: plain mathematics. Conditions: those of each theorem's head. -/
import Derived.Test.YthbeempmdpfnmaaGreatDoorAa
import Derived.Laws.BitsAllLaws

namespace Go.Proofs.YthbeempmdpfnmaaGreatDoor.Dg
open Go By
def ad (a b : Int) : Int := (a + b) % 4294967296
def an (a b : Int) : Int := bits .and .u32 a b
def io (a b : Int) : Int := bits .or .u32 a b
def xo (a b : Int) : Int := bits .xor .u32 a b
def nt (a : Int) : Int := bits .xor .u32 IntKind.u32.max a
/-- Turned to the left. -/
def rl (x : Int) (n : Nat) : Int := bits .or .u32 (x * 2 ^ n % 4294967296) (x / 2 ^ (32 - n))
/-- Which bits byte i of n bytes stands at: g: the greatest first. -/
def sh (g : Bool) (i n : Nat) : Nat := 8 * (if g then n - 1 - i else i)
def og (g : Bool) : Int := if g then 1 else 0
/-- A number's n bytes. -/
def pb (g : Bool) (x n : Nat) : List UInt8 := (List.range n).map fun i => u (x / 2 ^ sh g i n % 256)
theorem pb_length (g : Bool) (x n : Nat) : (pb g x n).length = n := by simp [pb]
/-- How many bytes 0 stand behind a text of n bytes and the byte 80. -/
def zn (n : Nat) : Nat := if n % 64 ≤ 55 then 55 - n % 64 else 119 - n % 64
def fl (g : Bool) (l : List UInt8) : List UInt8 := l ++ (u 128 :: List.replicate (zn l.length) (u 0)) ++ pb g (l.length * 8) 8
theorem zn_le (n : Nat) : zn n ≤ 63 := by unfold zn; split <;> omega
theorem fl_length (g : Bool) (l : List UInt8) : (fl g l).length = l.length + 1 + zn l.length + 8 := by
  simp [fl, pb_length]; omega
theorem fl_mod (g : Bool) (l : List UInt8) : (fl g l).length % 64 = 0 := by
  rw [fl_length]; unfold zn; split <;> omega
/-- How many times 64 bytes. -/
def ch (n : Nat) : Nat := (n + 1 + zn n + 8) / 64
theorem fl_ch (g : Bool) (l : List UInt8) : (fl g l).length = 64 * ch l.length := by
  have := fl_mod g l
  rw [fl_length] at this ⊢
  unfold ch; omega
theorem ch_le {n : Nat} (h : n ≤ 100000) : ch n ≤ 2000 := by unfold ch; have := zn_le n; omega
/-- A word of four bytes, the least first. -/
def w4 (b0 b1 b2 b3 : Nat) : Int := io (io (io b0 ((b1 : Int) * 256)) ((b2 : Int) * 65536)) ((b3 : Int) * 16777216)
def wd (g : Bool) (l : List UInt8) (p : Nat) : Int := if g then w4 (nb l (p + 3)) (nb l (p + 2)) (nb l (p + 1)) (nb l p) else w4 (nb l p) (nb l (p + 1)) (nb l (p + 2)) (nb l (p + 3))
/-- The first c bytes of a word. -/
def pw (g : Bool) (l : List UInt8) (p : Nat) : Nat → Int
  | 0 => 0
  | c + 1 => io (pw g l p c) ((nb l (p + c) : Int) * 2 ^ sh g c 4)
theorem io_nat {a b : Nat} (ha : a < 4294967296) (hb : b < 4294967296) : io (a : Int) (b : Int) = ((a ||| b : Nat) : Int) := u32_or_nat a b ha hb
theorem or4 {A B C D : Nat} (hA : A < 4294967296) (hB : B < 4294967296) (hC : C < 4294967296) (hD : D < 4294967296) : io (io (io (io ((0 : Nat) : Int) A) B) C) D = io (io (io D C) B) A := by
  have L : ∀ {a b : Nat}, a < 4294967296 → b < 4294967296 → a ||| b < 4294967296 := fun ha hb => Nat.or_lt_two_pow (n := 32) ha hb
  rw [io_nat (by omega) hA, io_nat (L (by omega) hA) hB, io_nat (L (L (by omega) hA) hB) hC, io_nat (L (L (L (by omega) hA) hB) hC) hD, io_nat hD hC, io_nat (L hD hC) hB, io_nat (L (L hD hC) hB) hA]
  congr 1
  rw [Nat.zero_or]
  refine Nat.eq_of_testBit_eq fun i => ?_
  simp only [Nat.testBit_or]
  cases A.testBit i <;> cases B.testBit i <;> cases C.testBit i <;> cases D.testBit i <;> rfl
theorem pw_four (g : Bool) (l : List UInt8) (p : Nat) : pw g l p 4 = wd g l p := by
  have h0 := nb_lt l p
  have h1 := nb_lt l (p + 1)
  have h2 := nb_lt l (p + 2)
  have h3 := nb_lt l (p + 3)
  have p1 : (2 : Int) ^ 8 = 256 := by decide
  have p2 : (2 : Int) ^ 16 = 65536 := by decide
  have p3 : (2 : Int) ^ 24 = 16777216 := by decide
  cases g with
  | false =>
    have s0 : sh false 0 4 = 0 := rfl
    have s1 : sh false 1 4 = 8 := rfl
    have s2 : sh false 2 4 = 16 := rfl
    have s3 : sh false 3 4 = 24 := rfl
    simp only [pw, wd, w4, s0, s1, s2, s3, p1, p2, p3, Int.pow_zero, Int.mul_one, Nat.add_zero, Bool.false_eq_true, if_false]
    have e : io 0 (nb l p : Int) = nb l p := by
      have := io_nat (a := 0) (b := nb l p) (by omega) (by omega)
      rw [Nat.zero_or] at this
      exact this
    rw [e]
  | true =>
    have s0 : sh true 0 4 = 24 := rfl
    have s1 : sh true 1 4 = 16 := rfl
    have s2 : sh true 2 4 = 8 := rfl
    have s3 : sh true 3 4 = 0 := rfl
    simp only [pw, wd, w4, s0, s1, s2, s3, p1, p2, p3, Int.pow_zero, Int.mul_one, Nat.add_zero, if_true]
    have H := @or4 (nb l p * 16777216) (nb l (p + 1) * 65536) (nb l (p + 2) * 256) (nb l (p + 3)) (by omega) (by omega) (by omega) (by omega)
    simp only [Int.natCast_mul] at H
    exact H
end Go.Proofs.YthbeempmdpfnmaaGreatDoor.Dg

namespace Go.Proofs.YthbeempmdpfnmaaGreatDoor.Dg
open Go By
abbrev Q := Int × Int × Int × Int
def sines : List Int := [3614090360, 3905402710, 606105819, 3250441966, 4118548399, 1200080426, 2821735955, 4249261313, 1770035416, 2336552879, 4294925233, 2304563134, 1804603682, 4254626195, 2792965006, 1236535329, 4129170786, 3225465664, 643717713, 3921069994, 3593408605, 38016083, 3634488961, 3889429448, 568446438, 3275163606, 4107603335, 1163531501, 2850285829, 4243563512, 1735328473, 2368359562, 4294588738, 2272392833, 1839030562, 4259657740, 2763975236, 1272893353, 4139469664, 3200236656, 681279174, 3936430074, 3572445317, 76029189, 3654602809, 3873151461, 530742520, 3299628645, 4096336452, 1126891415, 2878612391, 4237533241, 1700485571, 2399980690, 4293915773, 2240044497, 1873313359, 4264355552, 2734768916, 1309151649, 4149444226, 3174756917, 718787259, 3951481745]
def turnsL : List Nat := [7, 12, 17, 22, 5, 9, 14, 20, 4, 11, 16, 23, 6, 10, 15, 21]
def kk (i : Nat) : Int := sines.getD i 0
def rr (i : Nat) : Nat := turnsL.getD (i / 16 * 4 + i % 4) 0
def mf (i : Nat) (b c d : Int) : Int := if i / 16 = 0 then io (an b c) (an (nt b) d) else if i / 16 = 1 then io (an d b) (an (nt d) c) else if i / 16 = 2 then xo (xo b c) d else xo c (io b (nt d))
def mg (i : Nat) : Nat := if i / 16 = 0 then i else if i / 16 = 1 then (5 * i + 1) % 16 else if i / 16 = 2 then (3 * i + 5) % 16 else 7 * i % 16
theorem mg_lt {i : Nat} (h : i < 64) : mg i < 16 := by
  unfold mg
  split
  · omega
  split
  · omega
  split <;> omega
def ms (m : Nat → Int) (i : Nat) (q : Q) : Q := (q.2.2.2, ad q.2.1 (rl (ad (ad (ad q.1 (mf i q.2.1 q.2.2.1 q.2.2.2)) (kk i)) (m (mg i))) (rr i)), q.2.1, q.2.2.1)
def mr (m : Nat → Int) (q : Q) : Nat → Q
  | 0 => q
  | i + 1 => ms m i (mr m q i)
def ad4 (q r : Q) : Q := (ad q.1 r.1, ad q.2.1 r.2.1, ad q.2.2.1 r.2.2.1, ad q.2.2.2 r.2.2.2)
def mc (m : Nat → Int) (q : Q) : Q := ad4 q (mr m q 64)
def md (F : List UInt8) : Nat → Q
  | 0 => (1732584193, 4023233417, 2562383102, 271733878)
  | n + 1 => mc (fun j => wd false F (64 * n + 4 * j)) (md F n)
def outp (g : Bool) (l : List Int) : List UInt8 := l.flatMap fun x => pb g x.toNat 4
def ws4 (q : Q) : List Int := [q.1, q.2.1, q.2.2.1, q.2.2.2]
def md5 (l : List UInt8) : List UInt8 := outp false (ws4 (md (fl false l) (ch l.length)))
/-- Whatever is a word. -/
def W32 (x : Int) : Prop := 0 ≤ x ∧ x < 4294967296
theorem ad_w (a b : Int) : W32 (ad a b) := ⟨Int.emod_nonneg _ (by decide), Int.emod_lt_of_pos _ (by decide)⟩
theorem md_w (F : List UInt8) (n : Nat) : ∀ x ∈ ws4 (md F n), W32 x := by
  cases n with
  | zero =>
    intro x hx
    simp only [ws4, md, List.mem_cons, List.not_mem_nil, or_false] at hx
    rcases hx with rfl | rfl | rfl | rfl <;> constructor <;> decide
  | succ n =>
    intro x hx
    simp only [ws4, md, mc, ad4, List.mem_cons, List.not_mem_nil, or_false] at hx
    rcases hx with rfl | rfl | rfl | rfl <;> exact ad_w _ _
theorem outp_length (g : Bool) (l : List Int) : (outp g l).length = 4 * l.length := by
  induction l with
  | nil => rfl
  | cons a l ih => simp only [outp, List.flatMap_cons, List.length_append, pb_length, List.length_cons] at ih ⊢; omega
theorem md5_length (l : List UInt8) : (md5 l).length = 16 := by rw [md5, outp_length]; rfl
/-- A byte as two digits. -/
def dg (n : Nat) : UInt8 := u (if n < 10 then 48 + n else 87 + n)
def hx : List UInt8 → List UInt8
  | [] => []
  | c :: l => dg (c.toNat / 16) :: dg (c.toNat % 16) :: hx l
end Go.Proofs.YthbeempmdpfnmaaGreatDoor.Dg
