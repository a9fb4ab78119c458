/- The two digests as plain functions: what fills a text, its words, the steps, the sums; and what digits tell bytes. No condition. -/
import Derived.Test.YtnoabinodojkiaaDoorBy
import Derived.Laws.BitsAllLaws
namespace Go.Proofs.YtnoabinodojkiaaDoor.Dg
open Go By

def ad (a b : Int) : Int := (a + b) % 4294967296
def an (a b : Int) : Int := bits .and .u32 a b
def io (a b : Int) : Int := bits .or .u32 a b
def xo (a b : Int) : Int := bits .xor .u32 a b
def nt (a : Int) : Int := bits .xor .u32 IntKind.u32.max a
/-- Turned to the left. -/
def rl (x : Int) (n : Nat) : Int := bits .or .u32 (x * 2 ^ n % 4294967296) (x / 2 ^ (32 - n))

/-- Which bits byte i of n bytes stands at: g: the greatest first. -/
def sh (g : Bool) (i n : Nat) : Nat := 8 * (if g then n - 1 - i else i)
def og (g : Bool) : Int := if g then 1 else 0
/-- A number's n bytes. -/
def pb (g : Bool) (x n : Nat) : List UInt8 := (List.range n).map fun i => u (x / 2 ^ sh g i n % 256)
theorem pb_length (g : Bool) (x n : Nat) : (pb g x n).length = n := by simp [pb]
/-- How many bytes 0 stand behind a text of n bytes and the byte 80. -/
def zn (n : Nat) : Nat := if n % 64 ≤ 55 then 55 - n % 64 else 119 - n % 64
def fl (g : Bool) (l : List UInt8) : List UInt8 := l ++ (u 128 :: List.replicate (zn l.length) (u 0)) ++ pb g (l.length * 8) 8
theorem zn_le (n : Nat) : zn n ≤ 63 := by unfold zn; split <;> omega
theorem fl_length (g : Bool) (l : List UInt8) : (fl g l).length = l.length + 1 + zn l.length + 8 := by
  simp [fl, pb_length]; omega
theorem fl_mod (g : Bool) (l : List UInt8) : (fl g l).length % 64 = 0 := by
  rw [fl_length]; unfold zn; split <;> omega
/-- How many times 64 bytes. -/
def ch (n : Nat) : Nat := (n + 1 + zn n + 8) / 64
theorem fl_ch (g : Bool) (l : List UInt8) : (fl g l).length = 64 * ch l.length := by
  have := fl_mod g l
  rw [fl_length] at this ⊢
  unfold ch; omega
theorem ch_le {n : Nat} (h : n ≤ 100000) : ch n ≤ 2000 := by unfold ch; have := zn_le n; omega

/-- A word of four bytes, the least first. -/
def w4 (b0 b1 b2 b3 : Nat) : Int := io (io (io b0 ((b1 : Int) * 256)) ((b2 : Int) * 65536)) ((b3 : Int) * 16777216)
def wd (g : Bool) (l : List UInt8) (p : Nat) : Int := if g then w4 (nb l (p + 3)) (nb l (p + 2)) (nb l (p + 1)) (nb l p) else w4 (nb l p) (nb l (p + 1)) (nb l (p + 2)) (nb l (p + 3))
/-- The first c bytes of a word. -/
def pw (g : Bool) (l : List UInt8) (p : Nat) : Nat → Int
  | 0 => 0
  | c + 1 => io (pw g l p c) ((nb l (p + c) : Int) * 2 ^ sh g c 4)
theorem io_nat {a b : Nat} (ha : a < 4294967296) (hb : b < 4294967296) : io (a : Int) (b : Int) = ((a ||| b : Nat) : Int) := u32_or_nat a b ha hb
theorem or4 {A B C D : Nat} (hA : A < 4294967296) (hB : B < 4294967296) (hC : C < 4294967296) (hD : D < 4294967296) : io (io (io (io ((0 : Nat) : Int) A) B) C) D = io (io (io D C) B) A := by
  have L : ∀ {a b : Nat}, a < 4294967296 → b < 4294967296 → a ||| b < 4294967296 := fun ha hb => Nat.or_lt_two_pow (n := 32) ha hb
  rw [io_nat (by omega) hA, io_nat (L (by omega) hA) hB, io_nat (L (L (by omega) hA) hB) hC, io_nat (L (L (L (by omega) hA) hB) hC) hD, io_nat hD hC, io_nat (L hD hC) hB, io_nat (L (L hD hC) hB) hA]
  congr 1
  rw [Nat.zero_or]
  refine Nat.eq_of_testBit_eq fun i => ?_
  simp only [Nat.testBit_or]
  cases A.testBit i <;> cases B.testBit i <;> cases C.testBit i <;> cases D.testBit i <;> rfl
theorem pw_four (g : Bool) (l : List UInt8) (p : Nat) : pw g l p 4 = wd g l p := by
  have h0 := nb_lt l p
  have h1 := nb_lt l (p + 1)
  have h2 := nb_lt l (p + 2)
  have h3 := nb_lt l (p + 3)
  have p1 : (2 : Int) ^ 8 = 256 := by decide
  have p2 : (2 : Int) ^ 16 = 65536 := by decide
  have p3 : (2 : Int) ^ 24 = 16777216 := by decide
  cases g with
  | false =>
    have s0 : sh false 0 4 = 0 := rfl
    have s1 : sh false 1 4 = 8 := rfl
    have s2 : sh false 2 4 = 16 := rfl
    have s3 : sh false 3 4 = 24 := rfl
    simp only [pw, wd, w4, s0, s1, s2, s3, p1, p2, p3, Int.pow_zero, Int.mul_one, Nat.add_zero, Bool.false_eq_true, if_false]
    have e : io 0 (nb l p : Int) = nb l p := by
      have := io_nat (a := 0) (b := nb l p) (by omega) (by omega)
      rw [Nat.zero_or] at this
      exact this
    rw [e]
  | true =>
    have s0 : sh true 0 4 = 24 := rfl
    have s1 : sh true 1 4 = 16 := rfl
    have s2 : sh true 2 4 = 8 := rfl
    have s3 : sh true 3 4 = 0 := rfl
    simp only [pw, wd, w4, s0, s1, s2, s3, p1, p2, p3, Int.pow_zero, Int.mul_one, Nat.add_zero, if_true]
    have H := @or4 (nb l p * 16777216) (nb l (p + 1) * 65536) (nb l (p + 2) * 256) (nb l (p + 3)) (by omega) (by omega) (by omega) (by omega)
    simp only [Int.natCast_mul] at H
    exact H
end Go.Proofs.YtnoabinodojkiaaDoor.Dg
