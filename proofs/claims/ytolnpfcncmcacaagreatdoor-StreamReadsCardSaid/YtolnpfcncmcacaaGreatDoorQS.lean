/- Package digest: Sha1, Hex, with what they call. Conditions: those of each theorem's head. -/
import Derived.Test.YtolnpfcncmcacaaGreatDoorBg
import Derived.Laws.BitsAllLaws
import Derived.WalkKit
import Derived.WalkSpells
import Derived.WalkLawsBesides
import Derived.BigQuiet
import Derived.Deep.QuietTactic
import Derived.Great.BuildSlice
import Derived.Lib.Hide
import Derived.Laws.Rows
import Derived.Laws.CopyOwn
set_option maxRecDepth 100000
set_option maxHeartbeats 1000000
namespace Go.Proofs.YtolnpfcncmcacaaGreatDoor.Dg
open Go By
def ad (a b : Int) : Int := (a + b) % 4294967296
def an (a b : Int) : Int := bits .and .u32 a b
def io (a b : Int) : Int := bits .or .u32 a b
def xo (a b : Int) : Int := bits .xor .u32 a b
def nt (a : Int) : Int := bits .xor .u32 IntKind.u32.max a
def rl (x : Int) (n : Nat) : Int := bits .or .u32 (x * 2 ^ n % 4294967296) (x / 2 ^ (32 - n))
def sh (g : Bool) (i n : Nat) : Nat := 8 * (if g then n - 1 - i else i)
def og (g : Bool) : Int := if g then 1 else 0
def pb (g : Bool) (x n : Nat) : List UInt8 := (List.range n).map fun i => u (x / 2 ^ sh g i n % 256)
theorem pb_length (g : Bool) (x n : Nat) : (pb g x n).length = n := by simp [pb]
def zn (n : Nat) : Nat := if n % 64 ≤ 55 then 55 - n % 64 else 119 - n % 64
def fl (g : Bool) (l : List UInt8) : List UInt8 := l ++ (u 128 :: List.replicate (zn l.length) (u 0)) ++ pb g (l.length * 8) 8
theorem zn_le (n : Nat) : zn n ≤ 63 := by unfold zn; split <;> omega
theorem fl_length (g : Bool) (l : List UInt8) : (fl g l).length = l.length + 1 + zn l.length + 8 := by
  simp [fl, pb_length]; omega
theorem fl_mod (g : Bool) (l : List UInt8) : (fl g l).length % 64 = 0 := by
  rw [fl_length]; unfold zn; split <;> omega
def ch (n : Nat) : Nat := (n + 1 + zn n + 8) / 64
theorem fl_ch (g : Bool) (l : List UInt8) : (fl g l).length = 64 * ch l.length := by
  have := fl_mod g l
  rw [fl_length] at this ⊢
  unfold ch; omega
theorem ch_le {n : Nat} (h : n ≤ 100000) : ch n ≤ 2000 := by unfold ch; have := zn_le n; omega
def w4 (b0 b1 b2 b3 : Nat) : Int := io (io (io b0 ((b1 : Int) * 256)) ((b2 : Int) * 65536)) ((b3 : Int) * 16777216)
def wd (g : Bool) (l : List UInt8) (p : Nat) : Int := if g then w4 (nb l (p + 3)) (nb l (p + 2)) (nb l (p + 1)) (nb l p) else w4 (nb l p) (nb l (p + 1)) (nb l (p + 2)) (nb l (p + 3))
def pw (g : Bool) (l : List UInt8) (p : Nat) : Nat → Int
  | 0 => 0
  | c + 1 => io (pw g l p c) ((nb l (p + c) : Int) * 2 ^ sh g c 4)
theorem io_nat {a b : Nat} (ha : a < 4294967296) (hb : b < 4294967296) : io (a : Int) (b : Int) = ((a ||| b : Nat) : Int) := u32_or_nat a b ha hb
theorem or4 {A B C D : Nat} (hA : A < 4294967296) (hB : B < 4294967296) (hC : C < 4294967296) (hD : D < 4294967296) : io (io (io (io ((0 : Nat) : Int) A) B) C) D = io (io (io D C) B) A := by
  have L : ∀ {a b : Nat}, a < 4294967296 → b < 4294967296 → a ||| b < 4294967296 := fun ha hb => Nat.or_lt_two_pow (n := 32) ha hb
  rw [io_nat (by omega) hA, io_nat (L (by omega) hA) hB, io_nat (L (L (by omega) hA) hB) hC, io_nat (L (L (L (by omega) hA) hB) hC) hD, io_nat hD hC, io_nat (L hD hC) hB, io_nat (L (L hD hC) hB) hA]
  congr 1
  rw [Nat.zero_or]
  refine Nat.eq_of_testBit_eq fun i => ?_
  simp only [Nat.testBit_or]
  cases A.testBit i <;> cases B.testBit i <;> cases C.testBit i <;> cases D.testBit i <;> rfl
theorem pw_four (g : Bool) (l : List UInt8) (p : Nat) : pw g l p 4 = wd g l p := by
  have h0 := nb_lt l p
  have h1 := nb_lt l (p + 1)
  have h2 := nb_lt l (p + 2)
  have h3 := nb_lt l (p + 3)
  have p1 : (2 : Int) ^ 8 = 256 := by decide
  have p2 : (2 : Int) ^ 16 = 65536 := by decide
  have p3 : (2 : Int) ^ 24 = 16777216 := by decide
  cases g with
  | false =>
    have s0 : sh false 0 4 = 0 := rfl
    have s1 : sh false 1 4 = 8 := rfl
    have s2 : sh false 2 4 = 16 := rfl
    have s3 : sh false 3 4 = 24 := rfl
    simp only [pw, wd, w4, s0, s1, s2, s3, p1, p2, p3, Int.pow_zero, Int.mul_one, Nat.add_zero, Bool.false_eq_true, if_false]
    have e : io 0 (nb l p : Int) = nb l p := by
      have := io_nat (a := 0) (b := nb l p) (by omega) (by omega)
      rw [Nat.zero_or] at this
      exact this
    rw [e]
  | true =>
    have s0 : sh true 0 4 = 24 := rfl
    have s1 : sh true 1 4 = 16 := rfl
    have s2 : sh true 2 4 = 8 := rfl
    have s3 : sh true 3 4 = 0 := rfl
    simp only [pw, wd, w4, s0, s1, s2, s3, p1, p2, p3, Int.pow_zero, Int.mul_one, Nat.add_zero, if_true]
    have H := @or4 (nb l p * 16777216) (nb l (p + 1) * 65536) (nb l (p + 2) * 256) (nb l (p + 3)) (by omega) (by omega) (by omega) (by omega)
    simp only [Int.natCast_mul] at H
    exact H
end Go.Proofs.YtolnpfcncmcacaaGreatDoor.Dg
namespace Go.Proofs.YtolnpfcncmcacaaGreatDoor.Dg
open Go By
abbrev Q := Int × Int × Int × Int
abbrev Q5 := Int × Int × Int × Int × Int
def sines : List Int := [3614090360, 3905402710, 606105819, 3250441966, 4118548399, 1200080426, 2821735955, 4249261313, 1770035416, 2336552879, 4294925233, 2304563134, 1804603682, 4254626195, 2792965006, 1236535329, 4129170786, 3225465664, 643717713, 3921069994, 3593408605, 38016083, 3634488961, 3889429448, 568446438, 3275163606, 4107603335, 1163531501, 2850285829, 4243563512, 1735328473, 2368359562, 4294588738, 2272392833, 1839030562, 4259657740, 2763975236, 1272893353, 4139469664, 3200236656, 681279174, 3936430074, 3572445317, 76029189, 3654602809, 3873151461, 530742520, 3299628645, 4096336452, 1126891415, 2878612391, 4237533241, 1700485571, 2399980690, 4293915773, 2240044497, 1873313359, 4264355552, 2734768916, 1309151649, 4149444226, 3174756917, 718787259, 3951481745]
def turnsL : List Nat := [7, 12, 17, 22, 5, 9, 14, 20, 4, 11, 16, 23, 6, 10, 15, 21]
def kk (i : Nat) : Int := sines.getD i 0
def rr (i : Nat) : Nat := turnsL.getD (i / 16 * 4 + i % 4) 0
def mf (i : Nat) (b c d : Int) : Int := if i / 16 = 0 then io (an b c) (an (nt b) d) else if i / 16 = 1 then io (an d b) (an (nt d) c) else if i / 16 = 2 then xo (xo b c) d else xo c (io b (nt d))
def mg (i : Nat) : Nat := if i / 16 = 0 then i else if i / 16 = 1 then (5 * i + 1) % 16 else if i / 16 = 2 then (3 * i + 5) % 16 else 7 * i % 16
def ms (m : Nat → Int) (i : Nat) (q : Q) : Q := (q.2.2.2, ad q.2.1 (rl (ad (ad (ad q.1 (mf i q.2.1 q.2.2.1 q.2.2.2)) (kk i)) (m (mg i))) (rr i)), q.2.1, q.2.2.1)
def mr (m : Nat → Int) (q : Q) : Nat → Q
  | 0 => q
  | i + 1 => ms m i (mr m q i)
def ad4 (q r : Q) : Q := (ad q.1 r.1, ad q.2.1 r.2.1, ad q.2.2.1 r.2.2.1, ad q.2.2.2 r.2.2.2)
def mc (m : Nat → Int) (q : Q) : Q := ad4 q (mr m q 64)
def md (F : List UInt8) : Nat → Q
  | 0 => (1732584193, 4023233417, 2562383102, 271733878)
  | n + 1 => mc (fun j => wd false F (64 * n + 4 * j)) (md F n)
def outp (g : Bool) (l : List Int) : List UInt8 := l.flatMap fun x => pb g x.toNat 4
def ws5 (q : Q5) : List Int := [q.1, q.2.1, q.2.2.1, q.2.2.2.1, q.2.2.2.2]
def spl (m : Nat → Int) : Nat → List Int
  | 0 => []
  | t + 1 => spl m t ++ [if t < 16 then m t else rl (xo (xo (xo ((spl m t).getD (t - 3) 0) ((spl m t).getD (t - 8) 0)) ((spl m t).getD (t - 14) 0)) ((spl m t).getD (t - 16) 0)) 1]
theorem spl_length (m : Nat → Int) (t : Nat) : (spl m t).length = t := by
  induction t with
  | zero => rfl
  | succ t ih => simp [spl, ih]
def sf (t : Nat) (b c d : Int) : Int := if t / 20 = 0 then io (an b c) (an (nt b) d) else if t / 20 = 1 then xo (xo b c) d else if t / 20 = 2 then io (io (an b c) (an b d)) (an c d) else xo (xo b c) d
def sk (t : Nat) : Int := if t / 20 = 0 then 1518500249 else if t / 20 = 1 then 1859775393 else if t / 20 = 2 then 2400959708 else 3395469782
def ss (w : Nat → Int) (t : Nat) (q : Q5) : Q5 := (ad (ad (ad (ad (rl q.1 5) (sf t q.2.1 q.2.2.1 q.2.2.2.1)) q.2.2.2.2) (w t)) (sk t), q.1, rl q.2.1 30, q.2.2.1, q.2.2.2.1)
def sr (w : Nat → Int) (q : Q5) : Nat → Q5
  | 0 => q
  | t + 1 => ss w t (sr w q t)
def ad5 (q r : Q5) : Q5 := (ad q.1 r.1, ad q.2.1 r.2.1, ad q.2.2.1 r.2.2.1, ad q.2.2.2.1 r.2.2.2.1, ad q.2.2.2.2 r.2.2.2.2)
def sc (m : Nat → Int) (q : Q5) : Q5 := ad5 q (sr (fun t => (spl m 80).getD t 0) q 80)
def sd (F : List UInt8) : Nat → Q5
  | 0 => (1732584193, 4023233417, 2562383102, 271733878, 3285377520)
  | n + 1 => sc (fun j => wd true F (64 * n + 4 * j)) (sd F n)
def sha1 (l : List UInt8) : List UInt8 := outp true (ws5 (sd (fl true l) (ch l.length)))
def W32 (x : Int) : Prop := 0 ≤ x ∧ x < 4294967296
theorem ad_w (a b : Int) : W32 (ad a b) := ⟨Int.emod_nonneg _ (by decide), Int.emod_lt_of_pos _ (by decide)⟩
theorem sd_w (F : List UInt8) (n : Nat) : ∀ x ∈ ws5 (sd F n), W32 x := by
  cases n with
  | zero =>
    intro x hx
    simp only [ws5, sd, List.mem_cons, List.not_mem_nil, or_false] at hx
    rcases hx with rfl | rfl | rfl | rfl | rfl <;> constructor <;> decide
  | succ n =>
    intro x hx
    simp only [ws5, sd, sc, ad5, List.mem_cons, List.not_mem_nil, or_false] at hx
    rcases hx with rfl | rfl | rfl | rfl | rfl <;> exact ad_w _ _
theorem outp_length (g : Bool) (l : List Int) : (outp g l).length = 4 * l.length := by
  induction l with
  | nil => rfl
  | cons a l ih => simp only [outp, List.flatMap_cons, List.length_append, pb_length, List.length_cons] at ih ⊢; omega
theorem sha1_length (l : List UInt8) : (sha1 l).length = 20 := by rw [sha1, outp_length]; rfl
def dg (n : Nat) : UInt8 := u (if n < 10 then 48 + n else 87 + n)
def hx : List UInt8 → List UInt8
  | [] => []
  | c :: l => dg (c.toNat / 16) :: dg (c.toNat % 16) :: hx l
theorem hx_length (l : List UInt8) : (hx l).length = 2 * l.length := by
  induction l with
  | nil => rfl
  | cons c l ih => simp only [hx, List.length_cons, ih]; omega
theorem hx_append (a b : List UInt8) : hx (a ++ b) = hx a ++ hx b := by
  induction a with
  | nil => rfl
  | cons c l ih => simp only [List.cons_append, hx, ih]
end Go.Proofs.YtolnpfcncmcacaaGreatDoor.Dg
namespace Go.Proofs.YtolnpfcncmcacaaGreatDoor.Dn
open Go.RowKit Go.Lib By Dg
theorem below_drewN (w : World) (n : Nat) : Below w.heap.size w (w.drewN n) := by
  induction n with
  | zero => exact Below.refl _ _
  | succ n ih => exact ih.drew
theorem bel_one (w : World) (o : Obj) (n : Nat) : Below w.heap.size w ((w.alloc o).drewN n) :=
  ((Below.refl _ w).alloc (Nat.le_refl _) o).trans ((below_drewN _ n).mono (by simp))
theorem shift_any (g : Bool) (i n : Nat) (w : World) (hi : i < n) (hn : n ≤ 8) : Calls Tryz.prog 129 #[.int .i64 (og g), .int .i64 i, .int .i64 n] w fun e w' => e = .returned (.int .i64 (sh g i n : Nat)) ∧ w = w' := by
  cases g with
  | false =>
    have E : Hid (8 * (i : Int) = (sh false i n : Nat)) := by show _ = _; simp [sh]
    have hi2 : (i : Int) < 8 := by omega
    have H : og false = 0 := rfl
    rw [H]
    clear H hi hn
    go_enter Tryz.func129, Tryz.ntmps129
    go_wp2
    go_ret
    exact ⟨by rw [← E.out]; rfl, rfl⟩
  | true =>
    obtain ⟨k, hk⟩ : ∃ k, k = n - 1 - i := ⟨_, rfl⟩
    have E : Hid (8 * ((n : Int) - 1 - i) = (sh true i n : Nat)) := by show _ = _; simp [sh]; omega
    have hi2 : (i : Int) < n := by omega
    have hn2 : (n : Int) ≤ 8 := by omega
    have H : og true = 1 := rfl
    rw [H]
    clear H hi hn hk
    go_enter Tryz.func129, Tryz.ntmps129
    go_wp2
    go_ret
    exact ⟨by rw [← E.out]; rfl, rfl⟩
theorem u64_31 {n : Nat} (hn : n < 32) : bits .and .u64 (n : Int) 31 = n := by
  have := u64_and_nat n 31 (by omega) (by omega)
  rw [show n &&& 31 = n by have := Nat.and_two_pow_sub_one_eq_mod n 5; rw [show (2 : Nat) ^ 5 - 1 = 31 by decide] at this; rw [this]; omega] at this
  exact this
theorem rot_any (x : Int) (n : Nat) (hn : n < 32) (w : World) : Calls Tryz.prog 128 #[.int .u32 x, .int .i64 n] w fun e w' => e = .returned (.int .u32 (rl x n)) ∧ w = w' := by
  have hb := u64_31 hn
  go_enter Tryz.func128, Tryz.ntmps128
  go_wp2
  go_ret
  exact ⟨rfl, rfl⟩
theorem div_eq {i c k : Nat} (h : i / k = c) : ((i : Int) / (k : Int) == (c : Int)) = true := by rw [beq_iff_eq]; exact_mod_cast congrArg Nat.cast h
theorem div_ne {i c k : Nat} (h : i / k ≠ c) : ((i : Int) / (k : Int) == (c : Int)) = false := by rw [beq_eq_false_iff_ne]; exact_mod_cast h
end Go.Proofs.YtolnpfcncmcacaaGreatDoor.Dn
namespace Go.Proofs.YtolnpfcncmcacaaGreatDoor.Dn
open Go.RowKit Go.Lib By Dg
theorem sha1Mix_any (t : Nat) (a b c d e : Int) (w : World) (hi : t < 80) : Calls Tryz.prog 127 #[.int .i64 t, .agg #[.int .u32 a, .int .u32 b, .int .u32 c, .int .u32 d, .int .u32 e]] w fun e w' => e = .returned (.tuple #[.int .u32 (sf t b c d), .int .u32 (sk t)]) ∧ Below w.heap.size w w' := by
  have hs : IntKind.u32.signed = false := rfl
  have hi2 : (t : Int) < 80 := by omega
  have HB := Lib.hid (fun n => bel_one w (Obj.cells #[.int .u32 a, .int .u32 b, .int .u32 c, .int .u32 d, .int .u32 e] 137) n)
  by_cases c0 : t / 20 = 0
  · have E : Hid (sf t b c d = io (an b c) (an (nt b) d) ∧ sk t = 1518500249) := by constructor <;> simp [sf, sk, c0]
    have f0 := div_eq c0
    clear c0 hi
    go_enter Tryz.func127, Tryz.ntmps127
    go_wp2
    go_quiet (fail)
    go_wp2
    go_ret2
    exact ⟨by rw [E.out.1, E.out.2]; rfl, HB.out _⟩
  have f0 := div_ne c0
  by_cases c1 : t / 20 = 1
  · have E : Hid (sf t b c d = xo (xo b c) d ∧ sk t = 1859775393) := by constructor <;> simp [sf, sk, c1]
    have f1 := div_eq c1
    clear c0 c1 hi
    go_enter Tryz.func127, Tryz.ntmps127
    go_wp2
    go_quiet (fail)
    go_wp2
    go_ret2
    exact ⟨by rw [E.out.1, E.out.2]; rfl, HB.out _⟩
  have f1 := div_ne c1
  by_cases c2 : t / 20 = 2
  · have E : Hid (sf t b c d = io (io (an b c) (an b d)) (an c d) ∧ sk t = 2400959708) := by constructor <;> simp [sf, sk, c2]
    have f2 := div_eq c2
    clear c0 c1 c2 hi
    go_enter Tryz.func127, Tryz.ntmps127
    go_wp2
    go_quiet (fail)
    go_wp2
    go_ret2
    exact ⟨by rw [E.out.1, E.out.2]; rfl, HB.out _⟩
  have f2 := div_ne c2
  have E : Hid (sf t b c d = xo (xo b c) d ∧ sk t = 3395469782) := by constructor <;> simp [sf, sk, c0, c1, c2]
  clear c0 c1 c2 hi
  go_enter Tryz.func127, Tryz.ntmps127
  go_wp2
  go_quiet (fail)
  go_wp2
  go_ret2
  exact ⟨by rw [E.out.1, E.out.2]; rfl, HB.out _⟩
end Go.Proofs.YtolnpfcncmcacaaGreatDoor.Dn
namespace Go.Proofs.YtolnpfcncmcacaaGreatDoor.Dn
open Go.RowKit Go.Lib By Dg
def pbk (g : Bool) (x n k : Nat) : List UInt8 := (List.range k).map fun i => u (x / 2 ^ sh g i n % 256)
theorem pbk_succ (g : Bool) (x n k : Nat) : pbk g x n (k + 1) = pbk g x n k ++ [u (x / 2 ^ sh g k n % 256)] := by
  simp [pbk, List.range_succ]
theorem pbk_length (g : Bool) (x n k : Nat) : (pbk g x n k).length = k := by simp [pbk]
theorem sh_lt {g : Bool} {i n : Nat} (hi : i < n) (hn : n ≤ 8) : sh g i n < 64 := by unfold sh; split <;> omega
theorem put_any (g : Bool) (x n : Nat) (w : World) (hn : n ≤ 8) (hx : x < 18446744073709551616) : Calls Tryz.prog 125 #[.int .i64 (og g), .int .u64 x, .int .i64 n] w fun e w' => e = .returned (.string ⟨(pb g x n).toArray⟩) ∧ Below w.heap.size w w' := by
  have HD0 := Lib.hid (bd_new w)
  have HB0 := Lib.hid (fun o => (Below.refl _ w).alloc (Nat.le_refl _) o)
  have HS := Lib.hid (fun k W (hk : k < n) => shift_any g k n W hk hn)
  have hn2 : (n : Int) ≤ 8 := by omega
  generalize og g = o at HS
  have HX := Lib.hid hx
  clear hx
  go_enter Tryz.func125, Tryz.ntmps125
  go_wp2_with fail
  go_loopw [10] (fun i wr => ∃ k : Nat, i = .int .i64 k ∧ k ≤ n ∧ Hid (Bd w.heap.size w.heap.size (pbk g x n k) wr) ∧ Hid (Below w.heap.size w wr)) (fun i _ => n - (RowKit.intOf i).toNat)
  case atStart => exact ⟨0, rfl, by omega, HD0.out, HB0.out _⟩
  case round =>
    obtain ⟨k, rfl, hk, HD, HB⟩ := hrel
    by_cases hlt : k < n
    · have HS1 := Lib.hid (HS.out k · hlt)
      have s64 := sh_lt (g := g) hlt hn
      have HP : Hid (pbk g x n (k + 1) = pbk g x n k ++ [u (x / 2 ^ sh g k n % 256)]) := pbk_succ g x n k
      generalize sh g k n = s at HS1 s64 HP
      have hq : (x : Int) / 2 ^ s % 256 = ((x / 2 ^ s % 256 : Nat) : Int) := by simp
      have hy : x / 2 ^ s % 256 < 256 := by omega
      generalize x / 2 ^ s % 256 = y at hq hy HP
      go_wp2_with fail
      refine (HS1.out _).mono ?_
      rintro r w2 ⟨rfl, rfl⟩
      go_wp2_with fail
      refine (bd_write y _ hy HD.out (by rw [pbk_length]; omega) HB.out.size).mono ?_
      rintro r w3 ⟨rfl, hd3, hb3⟩
      have HD3 := Lib.hid hd3
      have HB3 := Lib.hid (HB.out.trans hb3)
      clear hd3 hb3
      go_wp2_with fail
      exact ⟨⟨k + 1, by go_num, by omega, by rw [HP.out]; exact HD3.out, HB3.out⟩, by simp [RowKit.intOf]; omega⟩
    · obtain rfl : k = n := by omega
      have HE : Hid (pbk g x k k = pb g x k) := rfl
      go_wp2_with fail
      refine (bd_string _ HD.out HB.out.size).mono ?_
      rintro r w3 ⟨rfl, hb3⟩
      have HB3 := Lib.hid (HB.out.trans hb3)
      clear hb3
      go_wp2_with fail
      go_ret
      exact ⟨by rw [← HE.out]; rfl, HB3.out⟩
theorem outp_take (g : Bool) (l : List Int) {k : Nat} (h : k < l.length) : outp g (l.take (k + 1)) = outp g (l.take k) ++ pb g (l.getD k 0).toNat 4 := by
  rw [List.take_succ_eq_append_getElem h, outp, List.flatMap_append, List.getD_eq_getElem?_getD, List.getElem?_eq_getElem h]
  simp [outp]
theorem putWords_any (g : Bool) (l : List Int) (B c : Nat) (w : World) (hl : l.length ≤ 100) (hW : ∀ x ∈ l, W32 x) (hB : ∀ j, j < l.length → w.cell? ⟨B, j, none⟩ = some (.int .u32 (l.getD j 0))) (hlt : B < w.heap.size) :
    Calls Tryz.prog 95 #[.int .i64 (og g), .slice (some ⟨B, 0, none⟩) l.length c] w fun e w' => e = .returned (.string ⟨(outp g l).toArray⟩) ∧ Below w.heap.size w w' := by
  have HD0 := Lib.hid (bd_new w)
  have HB0 := Lib.hid (fun o => (Below.refl _ w).alloc (Nat.le_refl _) o)
  have HS := Lib.hid (fun x W (hx : x < 18446744073709551616) => put_any g x 4 W (by omega) hx)
  have HC := Lib.hid hB
  have HW := Lib.hid hW
  have hn2 : (l.length : Int) ≤ 100 := by omega
  have HBlt := Lib.hid hlt
  generalize og g = o at HS
  obtain ⟨n, hn⟩ : ∃ n, n = l.length := ⟨_, rfl⟩
  have HN := Lib.hid hn
  rw [← hn] at hn2 ⊢
  clear hB hW hlt hl hn
  go_enter Tryz.func95, Tryz.ntmps95
  go_wp2_with fail
  go_loopw [10] (fun i wr => ∃ k : Nat, i = .int .i64 k ∧ k ≤ n ∧ Hid (Bd w.heap.size w.heap.size (outp g (l.take k)) wr) ∧ Hid (Below w.heap.size w wr)) (fun i _ => n - (RowKit.intOf i).toNat)
  case atStart => exact ⟨0, rfl, by omega, HD0.out, HB0.out _⟩
  case round =>
    obtain ⟨k, rfl, hk, HD, HB⟩ := hrel
    by_cases hlt : k < n
    · have hkl : k < l.length := by rw [← HN.out]; exact hlt
      have hc := (HB.out.cell (p := ⟨B, k, none⟩) HBlt.out).trans (HC.out k hkl)
      have hw : W32 (l.getD k 0) := HW.out _ (by rw [List.getD_eq_getElem?_getD, List.getElem?_eq_getElem hkl]; exact List.getElem_mem _)
      have HO : Hid (outp g (l.take (k + 1)) = outp g (l.take k) ++ pb g (l.getD k 0).toNat 4) := outp_take g l hkl
      have HL : Hid ((outp g (l.take k)).length ≤ 400 ∧ (⟨(pb g (l.getD k 0).toNat 4).toArray⟩ : ByteArray).size = 4) := ⟨by rw [outp_length, List.length_take]; omega, by rw [Lib.size_eq]; exact pb_length _ _ _⟩
      generalize l.getD k 0 = x at hc hw HO HL
      obtain ⟨X, rfl⟩ := Int.eq_ofNat_of_zero_le hw.1
      have hX : (X : Int) < 4294967296 := hw.2
      have hP := Lib.hid (HS.out X · (by omega))
      rw [Int.toNat_natCast] at HO HL
      clear hw hkl
      go_wp2_with fail
      refine (hP.out _).mono ?_
      rintro r w2 ⟨rfl, hb2⟩
      have HD2 := Lib.hid (HD.out.below hb2)
      have HB2 := Lib.hid (HB.out.trans (hb2.mono HB.out.size))
      clear hb2
      go_wp2_with fail
      refine (bd_str _ _ HD2.out (by rw [HL.out.2]; have := HL.out.1; omega) HB2.out.size).mono ?_
      rintro r w3 ⟨rfl, hd3, hb3⟩
      have HD3 := Lib.hid hd3
      have HB3 := Lib.hid (HB2.out.trans hb3)
      clear hd3 hb3
      go_wp2_with fail
      exact ⟨⟨k + 1, by go_num, by omega, by rw [HO.out]; exact HD3.out, HB3.out⟩, by simp [RowKit.intOf]; omega⟩
    · obtain rfl : k = n := by omega
      have HE : Hid (outp g (l.take k) = outp g l) := by show _ = _; rw [HN.out, List.take_length]
      go_wp2_with fail
      refine (bd_string _ HD.out HB.out.size).mono ?_
      rintro r w3 ⟨rfl, hb3⟩
      have HB3 := Lib.hid (HB.out.trans hb3)
      clear hb3
      go_wp2_with fail
      go_ret
      exact ⟨by rw [← HE.out]; rfl, HB3.out⟩
theorem x105 : Builder.Extra Tryz.prog Tryz.lays105_ren := { sizeBuilder := by kernel_rfl, liesBuilder := by kernel_rfl, t5 := Tryz.underlying5, a5 := Tryz.isAgg5, z5 := Tryz.sizeOf5, v5 := Tryz.zeroValue5, infoByte := by kernel_rfl, cellsByte := by kernel_rfl, sizeByte := by kernel_rfl, neB5 := by decide }
theorem zeros_any (c : Nat) (w : World) (hc : c ≤ 63) : Calls Tryz.prog 124 #[.string ⟨#[0]⟩, .int .i64 c] w fun e w' => e = .returned (.string ⟨(List.replicate c (u 0)).toArray⟩) ∧ Below w.heap.size w w' := by
  refine (Any.strings_Repeat Tryz.lays105 x105 ⟨#[0]⟩ c w (by omega) (by rw [show (⟨#[0]⟩ : ByteArray).size = 1 from rfl]; omega)).mono fun e w' ⟨he, hb⟩ => ⟨?_, hb⟩
  rw [he, show (⟨#[0]⟩ : ByteArray).data.toList = List.replicate 1 (u 0) from rfl, Lib.repeatL_replicate, Nat.mul_one]
def fil (g : Bool) (n : Nat) : ByteArray := ⟨(u 128 :: List.replicate (zn n) (u 0) ++ pb g (n * 8) 8).toArray⟩
theorem filling_any (g : Bool) (n : Nat) (w : World) (hn : n ≤ 100000) : Calls Tryz.prog 92 #[.int .i64 (og g), .int .i64 n] w fun e w' => e = .returned (.string (fil g n)) ∧ Below w.heap.size w w' := by
  have HP := Lib.hid (fun W => put_any g (n * 8) 8 W (by omega) (by omega))
  have HZ := Lib.hid (fun W => zeros_any (zn n) W (zn_le n))
  have hn2 : (n : Int) ≤ 100000 := by omega
  generalize og g = o at HP
  have hp : (n : Int) * 8 = ((n * 8 : Nat) : Int) := by simp
  have HE : Hid ((⟨#[128]⟩ : ByteArray) ++ ⟨(List.replicate (zn n) (u 0)).toArray⟩ ++ ⟨(pb g (n * 8) 8).toArray⟩ = fil g n) := by
    refine bytes_ext ?_
    rw [append_list, append_list]
    rfl
  generalize fil g n = R at HE ⊢
  have s1 : (⟨(List.replicate (zn n) (u 0)).toArray⟩ : ByteArray).size ≤ 63 := by rw [Lib.size_eq]; simpa using zn_le n
  have s2 : (⟨(pb g (n * 8) 8).toArray⟩ : ByteArray).size ≤ 8 := by rw [Lib.size_eq]; simp [pb_length]
  generalize (⟨(List.replicate (zn n) (u 0)).toArray⟩ : ByteArray) = Z at HZ HE s1
  generalize (⟨(pb g (n * 8) 8).toArray⟩ : ByteArray) = Y at HP HE s2
  by_cases hz : n % 64 ≤ 55
  · have hzn : ((zn n : Nat) : Int) = 55 - (n : Int) % 64 := by unfold zn; rw [if_pos hz]; omega
    have f : decide (55 - (n : Int) % 64 < 0) = false := by simp; omega
    have HZN := Lib.hid hzn
    clear hzn hz hn hp
    generalize zn n = z at HZ HZN HE
    go_enter Tryz.func92, Tryz.ntmps92
    go_wp2_with fail
    rw [← HZN.out]
    refine (HZ.out _).mono ?_
    rintro r w2 ⟨rfl, hb2⟩
    have HB2 := Lib.hid hb2
    clear hb2
    go_wp2_with fail
    refine (HP.out _).mono ?_
    rintro r w3 ⟨rfl, hb3⟩
    have HB3 := Lib.hid (HB2.out.trans (hb3.mono HB2.out.size))
    clear hb3
    go_wp2_with fail
    go_ret
    exact ⟨by rw [← HE.out]; rfl, HB3.out⟩
  · have hzn : ((zn n : Nat) : Int) = 55 - (n : Int) % 64 + 64 := by unfold zn; rw [if_neg hz]; omega
    have f : decide (55 - (n : Int) % 64 < 0) = true := by simp; omega
    have HZN := Lib.hid hzn
    clear hzn hz hn hp
    generalize zn n = z at HZ HZN HE
    go_enter Tryz.func92, Tryz.ntmps92
    go_wp2_with fail
    rw [← HZN.out]
    refine (HZ.out _).mono ?_
    rintro r w2 ⟨rfl, hb2⟩
    have HB2 := Lib.hid hb2
    clear hb2
    go_wp2_with fail
    refine (HP.out _).mono ?_
    rintro r w3 ⟨rfl, hb3⟩
    have HB3 := Lib.hid (HB2.out.trans (hb3.mono HB2.out.size))
    clear hb3
    go_wp2_with fail
    go_ret
    exact ⟨by rw [← HE.out]; rfl, HB3.out⟩
theorem hexAt {k : Nat} (hk : k < 16) : ∀ h : k < (ByteArray.size ⟨#[48, 49, 50, 51, 52, 53, 54, 55, 56, 57, 97, 98, 99, 100, 101, 102]⟩), ((⟨#[48, 49, 50, 51, 52, 53, 54, 55, 56, 57, 97, 98, 99, 100, 101, 102]⟩ : ByteArray)[k]'h).toNat = (dg k).toNat := by
  have : k = 0 ∨ k = 1 ∨ k = 2 ∨ k = 3 ∨ k = 4 ∨ k = 5 ∨ k = 6 ∨ k = 7 ∨ k = 8 ∨ k = 9 ∨ k = 10 ∨ k = 11 ∨ k = 12 ∨ k = 13 ∨ k = 14 ∨ k = 15 := by omega
  rcases this with rfl | rfl | rfl | rfl | rfl | rfl | rfl | rfl | rfl | rfl | rfl | rfl | rfl | rfl | rfl | rfl <;> exact fun _ => rfl
theorem hex_any (s : ByteArray) (w : World) (hs : s.size ≤ 100000) : Calls Tryz.prog 59 #[.string s] w fun e w' => e = .returned (.string ⟨(hx s.data.toList).toArray⟩) ∧ Below w.heap.size w w' := by
  have HD0 := Lib.hid (bd_new w)
  have HB0 := Lib.hid (fun o => (Below.refl _ w).alloc (Nat.le_refl _) o)
  have hs2 : (s.size : Int) ≤ 100000 := by omega
  have HL := Lib.hid (len_size s)
  go_enter Tryz.func59, Tryz.ntmps59
  go_wp2_with fail
  go_loopw [7] (fun i wr => ∃ k : Nat, i = .int .i64 k ∧ k ≤ s.size ∧ Hid (Bd w.heap.size w.heap.size (hx (s.data.toList.take k)) wr) ∧ Hid (Below w.heap.size w wr)) (fun i _ => s.size - (RowKit.intOf i).toNat)
  case atStart => exact ⟨0, rfl, by omega, HD0.out, HB0.out _⟩
  case round =>
    obtain ⟨k, rfl, hk, HD, HB⟩ := hrel
    by_cases hlt : k < s.size
    · have hb := By.byte_nb s k hlt
      have hy := nb_lt s.data.toList k
      have HX : Hid (hx (s.data.toList.take (k + 1)) = hx (s.data.toList.take k) ++ [dg (nb s.data.toList k / 16)] ++ [dg (nb s.data.toList k % 16)] ∧ (hx (s.data.toList.take k)).length ≤ 200000) := by
        have hkl : k < s.data.toList.length := by rw [HL.out]; exact hlt
        constructor
        · rw [List.take_succ_eq_append_getElem hkl, hx_append]
          simp only [hx, nb, List.getD_eq_getElem?_getD, List.getElem?_eq_getElem hkl, Option.getD_some, List.append_assoc]
          rfl
        · rw [hx_length, List.length_take]; omega
      generalize nb s.data.toList k = y at hb hy HX
      have h1 := hexAt (show y / 16 < 16 by omega)
      have h2 := hexAt (show y % 16 < 16 by omega)
      go_wp2_with fail
      refine (bd_write (dg (y / 16)).toNat _ (nat_lt _) HD.out (by have := HX.out.2; omega) HB.out.size).mono ?_
      rintro r w2 ⟨rfl, hd2, hb2⟩
      rw [nat_u] at hd2
      have HD2 := Lib.hid hd2
      have HB2 := Lib.hid (HB.out.trans hb2)
      clear hd2 hb2
      go_wp2_with fail
      refine (bd_write (dg (y % 16)).toNat _ (nat_lt _) HD2.out (by rw [List.length_append]; have := HX.out.2; simp; omega) HB2.out.size).mono ?_
      rintro r w3 ⟨rfl, hd3, hb3⟩
      rw [nat_u, ← HX.out.1] at hd3
      have HD3 := Lib.hid hd3
      have HB3 := Lib.hid (HB2.out.trans hb3)
      clear hd3 hb3
      go_wp2_with fail
      exact ⟨⟨k + 1, by go_num, by omega, HD3.out, HB3.out⟩, by simp [RowKit.intOf]; omega⟩
    · obtain rfl : k = s.size := by omega
      have HE : Hid (hx (s.data.toList.take s.size) = hx s.data.toList) := by show _ = _; rw [← HL.out, List.take_length]
      go_wp2_with fail
      refine (bd_string _ HD.out HB.out.size).mono ?_
      rintro r w3 ⟨rfl, hb3⟩
      have HB3 := Lib.hid (HB.out.trans hb3)
      clear hb3
      go_wp2_with fail
      go_ret
      exact ⟨by rw [← HE.out]; rfl, HB3.out⟩
end Go.Proofs.YtolnpfcncmcacaaGreatDoor.Dn
namespace Go.Proofs.YtolnpfcncmcacaaGreatDoor.Dn
open Go.RowKit Go.Lib By Dg
def c16 (m : Nat → Int) : Array Value := #[.int .u32 (m 0), .int .u32 (m 1), .int .u32 (m 2), .int .u32 (m 3), .int .u32 (m 4), .int .u32 (m 5), .int .u32 (m 6), .int .u32 (m 7), .int .u32 (m 8), .int .u32 (m 9), .int .u32 (m 10), .int .u32 (m 11), .int .u32 (m 12), .int .u32 (m 13), .int .u32 (m 14), .int .u32 (m 15)]
theorem c16_at (m : Nat → Int) {j : Nat} (hj : j < 16) : (c16 m)[j]? = some (.int .u32 (m j)) := by
  have : j = 0 ∨ j = 1 ∨ j = 2 ∨ j = 3 ∨ j = 4 ∨ j = 5 ∨ j = 6 ∨ j = 7 ∨ j = 8 ∨ j = 9 ∨ j = 10 ∨ j = 11 ∨ j = 12 ∨ j = 13 ∨ j = 14 ∨ j = 15 := by omega
  rcases this with rfl | rfl | rfl | rfl | rfl | rfl | rfl | rfl | rfl | rfl | rfl | rfl | rfl | rfl | rfl | rfl <;> rfl
theorem c16_size (m : Nat → Int) : (c16 m).size = 16 := rfl
theorem c16_set (m : Nat → Int) {j : Nat} (hj : j < 16) (v : Int) : (c16 m).setIfInBounds j (.int .u32 v) = c16 (fun i => if i = j then v else m i) := by
  apply Array.ext_getElem?
  intro i
  rw [Array.getElem?_setIfInBounds]
  by_cases h : j = i
  · subst h
    rw [if_pos rfl, if_pos (by rw [c16_size]; exact hj), c16_at _ hj, if_pos rfl]
  · rw [if_neg h]
    by_cases hi : i < 16
    · rw [c16_at m hi, c16_at _ hi, if_neg (Ne.symm h)]
    · rw [Array.getElem?_eq_none (by rw [c16_size]; omega), Array.getElem?_eq_none (by rw [c16_size]; omega)]
def pm (g : Bool) (l : List UInt8) (q k j : Nat) : Int := pw g l (q + 4 * j) (min 4 (k - 4 * j))
theorem pm_zero (g : Bool) (l : List UInt8) (q : Nat) : c16 (pm g l q 0) = #[.int .u32 0, .int .u32 0, .int .u32 0, .int .u32 0, .int .u32 0, .int .u32 0, .int .u32 0, .int .u32 0, .int .u32 0, .int .u32 0, .int .u32 0, .int .u32 0, .int .u32 0, .int .u32 0, .int .u32 0, .int .u32 0] := rfl
theorem pm_end (g : Bool) (l : List UInt8) (q : Nat) : c16 (pm g l q 64) = c16 (fun j => wd g l (q + 4 * j)) := by
  apply Array.ext_getElem?
  intro i
  by_cases hi : i < 16
  · rw [c16_at _ hi, c16_at _ hi, pm, show min 4 (64 - 4 * i) = 4 by omega, pw_four]
  · rw [Array.getElem?_eq_none (by rw [c16_size]; omega), Array.getElem?_eq_none (by rw [c16_size]; omega)]
theorem pm_at (g : Bool) (l : List UInt8) (q k : Nat) : pm g l q k (k / 4) = pw g l (q + 4 * (k / 4)) (k % 4) := by
  rw [pm, show min 4 (k - 4 * (k / 4)) = k % 4 by omega]
theorem pm_next (g : Bool) (l : List UInt8) (q : Nat) {k : Nat} (hk : k < 64) : (c16 (pm g l q k)).setIfInBounds (k / 4) (.int .u32 (io (pw g l (q + 4 * (k / 4)) (k % 4)) ((nb l (q + k) : Int) * 2 ^ sh g (k % 4) 4))) = c16 (pm g l q (k + 1)) := by
  rw [c16_set _ (by omega)]
  apply Array.ext_getElem?
  intro i
  by_cases hi : i < 16
  · rw [c16_at _ hi, c16_at _ hi]
    by_cases h : i = k / 4
    · subst h
      rw [if_pos rfl, pm, show min 4 (k + 1 - 4 * (k / 4)) = k % 4 + 1 by omega, pw, show q + 4 * (k / 4) + k % 4 = q + k by omega]
    · rw [if_neg h, pm, pm, show min 4 (k + 1 - 4 * i) = min 4 (k - 4 * i) by omega]
  · rw [Array.getElem?_eq_none (by rw [c16_size]; omega), Array.getElem?_eq_none (by rw [c16_size]; omega)]
def Has (T : TypeId) (cs : Array Value) (B : Nat) (w : World) : Prop := w.heap[B]? = some (.cells cs T (0, 0))
theorem Has.below {T : TypeId} {cs : Array Value} {B : Nat} {w w' : World} (h : Has T cs B w) (hb : Below w.heap.size w w') : Has T cs B w' := (hb.block B (Array.getElem?_eq_some_iff.1 h).1).trans h
theorem Has.lt {T : TypeId} {cs : Array Value} {B : Nat} {w : World} (h : Has T cs B w) : B < w.heap.size := (Array.getElem?_eq_some_iff.1 h).1
theorem Has.set {T : TypeId} {cs : Array Value} {B j : Nat} {w : World} (h : Has T cs B w) (v : Value) : Has T (cs.setIfInBounds j v) B (w.setCell ⟨B, j, none⟩ v) := heap_setCell_same w B j cs T v h
theorem Has.other {T : TypeId} {cs : Array Value} {B : Nat} {w : World} (h : Has T cs B w) {a : Addr} (ha : B ≠ a.block) (v : Value) : Has T cs B (w.setCell a v) := (heap_setCell_other w a B v ha).trans h
theorem Has.cell {T : TypeId} {cs : Array Value} {B j : Nat} {w : World} (h : Has T cs B w) {v : Value} (hv : cs[j]? = some v) : w.cell? ⟨B, j, none⟩ = some v := (cell_of_row w B j cs T (0, 0) h).trans hv
theorem Has.frozen {T : TypeId} {cs : Array Value} {B j : Nat} {w : World} (h : Has T cs B w) : w.frozen? ⟨B, j, none⟩ = false := frozen_of_row w B j cs T h
theorem Has.new (T : TypeId) (cs : Array Value) (w : World) : Has T cs w.heap.size (w.alloc (.cells cs T)) := heap_alloc_new w _
theorem Has.alloc {T : TypeId} {cs : Array Value} {B : Nat} {w : World} (h : Has T cs B w) (o : Obj) : Has T cs B (w.alloc o) := (Below.heap_alloc w o B h.lt).trans h
theorem Has.drewN {T : TypeId} {cs : Array Value} {B : Nat} {w : World} (h : Has T cs B w) (n : Nat) : Has T cs B (w.drewN n) := h.below (below_drewN w n)
theorem Has.row {T : TypeId} {cs : Array Value} {B : Nat} {w : World} (h : Has T cs B w) (cs' : Array Value) : Has T cs' B (w.setRow B cs') := setRow_heap w B cs cs' T (0, 0) h
theorem Has.rowOther {T : TypeId} {cs : Array Value} {B g : Nat} {w : World} (h : Has T cs B w) (hg : B ≠ g) (cs' : Array Value) : Has T cs B (w.setRow g cs') := (setRow_other w g B cs' hg).trans h
theorem c16_one (m : Nat → Int) : (c16 m).all (·.oneCell') = true := by simp [c16, Value.oneCell']
theorem sh_four (g : Bool) {i : Nat} (hi : i < 4) : sh g i 4 = 0 ∨ sh g i 4 = 8 ∨ sh g i 4 = 16 ∨ sh g i 4 = 24 := by unfold sh; split <;> omega
theorem sh_fit {y t : Nat} (hy : y < 256) (ht : t = 0 ∨ t = 8 ∨ t = 16 ∨ t = 24) : (y : Int) * 2 ^ t % 4294967296 = (y : Int) * 2 ^ t := by
  rcases ht with rfl | rfl | rfl | rfl
  · rw [Int.pow_zero]; omega
  · rw [show (2 : Int) ^ 8 = 256 by decide]; omega
  · rw [show (2 : Int) ^ 16 = 65536 by decide]; omega
  · rw [show (2 : Int) ^ 24 = 16777216 by decide]; omega
theorem words_any (g : Bool) (s : ByteArray) (q : Nat) (w : World) (hq : 64 * (q + 1) ≤ s.size) (hs : s.size ≤ 200000) : Calls Tryz.prog 94 #[.int .i64 (og g), .string s, .int .i64 q] w fun e w' => e = .returned (.agg (c16 (fun j => wd g s.data.toList (64 * q + 4 * j)))) ∧ Below w.heap.size w w' := by
  have HS := Lib.hid (fun k W (hk : k < 4) => shift_any g k 4 W hk (by omega))
  have hq2 : 64 * ((q : Int) + 1) ≤ s.size := by omega
  have hs2 : (s.size : Int) ≤ 200000 := by omega
  have H0 : Hid (∀ o1, Has 141 (c16 (pm g s.data.toList (64 * q) 0)) (w.heap.size + 1) ((w.alloc o1).alloc (.cells #[.int .u32 0, .int .u32 0, .int .u32 0, .int .u32 0, .int .u32 0, .int .u32 0, .int .u32 0, .int .u32 0, .int .u32 0, .int .u32 0, .int .u32 0, .int .u32 0, .int .u32 0, .int .u32 0, .int .u32 0, .int .u32 0] 141))) := fun o1 => by
    rw [pm_zero]; exact heap_alloc2_new w o1 _
  have H1 : Hid (∀ o2, Has 141 (c16 (pm g s.data.toList (64 * q) 0)) w.heap.size ((w.alloc (.cells #[.int .u32 0, .int .u32 0, .int .u32 0, .int .u32 0, .int .u32 0, .int .u32 0, .int .u32 0, .int .u32 0, .int .u32 0, .int .u32 0, .int .u32 0, .int .u32 0, .int .u32 0, .int .u32 0, .int .u32 0, .int .u32 0] 141)).alloc o2)) := fun o2 => by
    rw [pm_zero]; exact heap_alloc2_old w _ o2
  have HB0 := Lib.hid (fun o1 o2 => ((Below.refl _ w).alloc (Nat.le_refl _) o1).alloc (by simp) o2)
  have HDr := Lib.hid (fun W n => below_drewN W n)
  generalize og g = o at HS
  go_enter Tryz.func94, Tryz.ntmps94
  go_wp2_with fail
  go_loopw [17] (fun i wr => ∃ k : Nat, i = .int .i64 k ∧ k ≤ 64 ∧ Hid (Has 141 (c16 (pm g s.data.toList (64 * q) k)) (w.heap.size + 1) wr) ∧ Hid (Has 141 (c16 (pm g s.data.toList (64 * q) 0)) w.heap.size wr) ∧ Hid (Below w.heap.size w wr)) (fun i _ => 64 - (RowKit.intOf i).toNat)
  case atStart => exact ⟨0, rfl, by omega, H0.out _, H1.out _, HB0.out _ _⟩
  case round =>
    obtain ⟨k, rfl, hk, HM, HR, HB⟩ := hrel
    by_cases hlt : k < 64
    · have HS1 : Hid (∀ W, Calls Tryz.prog 129 #[.int .i64 o, .int .i64 ((k : Int) % 4), .int .i64 4] W fun e w' => e = .returned (.int .i64 (sh g (k % 4) 4 : Nat)) ∧ W = w') := fun W => by
        rw [show (k : Int) % 4 = ((k % 4 : Nat) : Int) by omega]
        exact HS.out _ W (by omega)
      have ht := sh_four g (show k % 4 < 4 by omega)
      have hx : k < (s.extract (q * 64) ((q + 1) * 64)).size := by rw [ByteArray.size_extract]; omega
      have hb : ((s.extract (q * 64) ((q + 1) * 64))[k]'hx).toNat = nb s.data.toList (64 * q + k) := by
        rw [By.byte_nb, extract_cut, nb_drop, Nat.mul_comm q 64]
        unfold nb
        rw [List.getD_eq_getElem?_getD, List.getElem?_take_of_lt (by omega), ← List.getD_eq_getElem?_getD]
      have hy := nb_lt s.data.toList (64 * q + k)
      have hc0 := HM.out.cell (j := k / 4) (c16_at _ (by omega))
      have HF : Hid (wr.frozen? ⟨w.heap.size + 1, k / 4, none⟩ = false) := HM.out.frozen (j := k / 4)
      rw [pm_at] at hc0
      have HN : Hid (∀ W, Has 141 (c16 (pm g s.data.toList (64 * q) k)) (w.heap.size + 1) W → Has 141 (c16 (pm g s.data.toList (64 * q) (k + 1))) (w.heap.size + 1) (W.setCell ⟨w.heap.size + 1, k / 4, none⟩ (.int .u32 (io (pw g s.data.toList (64 * q + 4 * (k / 4)) (k % 4)) ((nb s.data.toList (64 * q + k) : Int) * 2 ^ sh g (k % 4) 4))))) := fun W h => by
        rw [← pm_next g _ _ hlt]
        exact h.set _
      generalize nb s.data.toList (64 * q + k) = y at hb hy HN
      generalize pw g s.data.toList (64 * q + 4 * (k / 4)) (k % 4) = z at hc0 HN
      generalize sh g (k % 4) 4 = t at HS1 ht HN
      have s32 : t < 32 := by omega
      rw [← sh_fit hy ht] at HN
      clear ht
      have hc : ∀ x : Ext wr, x.to.cell? ⟨w.heap.size + 1, k / 4, none⟩ = _ := fun x => ext_cell x hc0
      have he := extSome wr
      have HC0 := Lib.hid hc0
      clear hq hc0
      go_wp2_with fail
      refine ext_tail 15 (by kernel_rfl) (by kernel_rfl) ?_
      simp only [List.take_succ_cons, List.take_zero, List.drop_succ_cons, List.drop_zero]
      repeat (go_big_quiet_step ((go_at_call 129; with_reducible exact ext_same _ (HS1.out _))))
      refine wpQuiet_nil ?_
      rintro _ ⟨x, hx⟩
      subst hx
      have hc1 := ext_cell x HC0.out
      have hf1 := ext_frozen x HC0.out HF.out
      have HM1 := Lib.hid (HN.out _ (HM.out.below x.below))
      have HR1 := Lib.hid ((HR.out.below x.below).other (a := ⟨w.heap.size + 1, k / 4, none⟩) (by simp) (.int .u32 (io z ((y : Int) * 2 ^ t % 4294967296))))
      have HB1 := Lib.hid ((HB.out.trans (x.below.mono HB.out.size)).setCell (p := ⟨w.heap.size + 1, k / 4, none⟩) (by simp) (.int .u32 (io z ((y : Int) * 2 ^ t % 4294967296))))
      clear hc he
      generalize x.to = w5 at hc1 hf1 HM1 HR1 HB1 ⊢
      go_wp2_with fail
      exact ⟨⟨k + 1, by go_num, by omega, HM1.out, HR1.out, HB1.out⟩, by simp [RowKit.intOf]; omega⟩
    · obtain rfl : k = 64 := by omega
      have hM := HM.out
      rw [pm_end] at hM
      have HM2 := Lib.hid hM
      have HB2 := Lib.hid (below_setRow HB.out (Nat.le_refl _) (c16 (fun j => wd g s.data.toList (64 * q + 4 * j))))
      have HR2 := Lib.hid (HR.out.row (c16 (fun j => wd g s.data.toList (64 * q + 4 * j))))
      clear HM hM
      generalize hm : (fun j => wd g s.data.toList (64 * q + 4 * j)) = m at HM2 HB2 HR2
      have Hm := Lib.hid hm
      clear hm
      go_wp2_with (first | (refine wpList_load_row rfl 141 _ rfl (w.heap.size + 1) rfl 141 _ (0, 0) _ HM2.out Tryz.underlying141 rfl (by kernel_rfl) ?_) | (refine wpList_store_row rfl 141 _ _ rfl w.heap.size _ rfl rfl 141 _ HR.out (by kernel_rfl) rfl (c16_one _) ?_))
      exact bodyPost_ret (results_cell_row Tryz.results94 _ _ w.heap.size 141 _ (0, 0) _ rfl HR2.out Tryz.underlying141 rfl (by kernel_rfl)) rfl ⟨by rw [← Hm.out], HB2.out⟩
end Go.Proofs.YtolnpfcncmcacaaGreatDoor.Dn
namespace Go.Proofs.YtolnpfcncmcacaaGreatDoor.Dn
open Go.RowKit Go.Lib By Dg
def c4 (q : Q) : Array Value := #[.int .u32 q.1, .int .u32 q.2.1, .int .u32 q.2.2.1, .int .u32 q.2.2.2]
theorem has4 (w : World) (T0 T1 T2 T3 : TypeId) (c0 c1 c2 c3 : Array Value) : Has T0 c0 w.heap.size ((((w.alloc (.cells c0 T0)).alloc (.cells c1 T1)).alloc (.cells c2 T2)).alloc (.cells c3 T3)) ∧ Has T1 c1 (w.heap.size + 1) ((((w.alloc (.cells c0 T0)).alloc (.cells c1 T1)).alloc (.cells c2 T2)).alloc (.cells c3 T3)) ∧
    Has T2 c2 (w.heap.size + 1 + 1) ((((w.alloc (.cells c0 T0)).alloc (.cells c1 T1)).alloc (.cells c2 T2)).alloc (.cells c3 T3)) ∧ Has T3 c3 (w.heap.size + 1 + 1 + 1) ((((w.alloc (.cells c0 T0)).alloc (.cells c1 T1)).alloc (.cells c2 T2)).alloc (.cells c3 T3)) ∧
    Below w.heap.size w ((((w.alloc (.cells c0 T0)).alloc (.cells c1 T1)).alloc (.cells c2 T2)).alloc (.cells c3 T3)) := by
  have e1 : (w.alloc (.cells c0 T0)).heap.size = w.heap.size + 1 := by simp
  have e2 : ((w.alloc (.cells c0 T0)).alloc (.cells c1 T1)).heap.size = w.heap.size + 1 + 1 := by simp
  have e3 : (((w.alloc (.cells c0 T0)).alloc (.cells c1 T1)).alloc (.cells c2 T2)).heap.size = w.heap.size + 1 + 1 + 1 := by simp
  refine ⟨(((Has.new T0 c0 w).alloc _).alloc _).alloc _, ?_, ?_, ?_, ((((Below.refl _ w).alloc (Nat.le_refl _) _).alloc (by omega) _).alloc (by omega) _).alloc (by omega) _⟩
  · rw [← e1]; exact ((Has.new T1 c1 _).alloc _).alloc _
  · rw [← e2]; exact (Has.new T2 c2 _).alloc _
  · rw [← e3]; exact Has.new T3 c3 _
end Go.Proofs.YtolnpfcncmcacaaGreatDoor.Dn
namespace Go.Proofs.YtolnpfcncmcacaaGreatDoor.Dn
open Go.RowKit Go.Lib By Dg
def cw (l : List Int) : Array Value := (l.map (Value.int .u32)).toArray
theorem cw_size (l : List Int) : (cw l).size = l.length := by simp [cw]
theorem cw_one (l : List Int) : (cw l).all (·.oneCell') = true := by simp [cw, Value.oneCell']
theorem cw_at (l : List Int) {j : Nat} (h : j < l.length) : (cw l)[j]? = some (.int .u32 (l.getD j 0)) := by
  simp [cw, List.getD_eq_getElem?_getD, List.getElem?_eq_getElem h]
theorem cw_set (l : List Int) (j : Nat) (v : Int) : (cw l).setIfInBounds j (.int .u32 v) = cw (l.set j v) := by
  simp [cw, List.map_set]
def sz (m : Nat → Int) (t : Nat) : List Int := spl m t ++ List.replicate (80 - t) 0
theorem sz_length (m : Nat → Int) {t : Nat} (h : t ≤ 80) : (sz m t).length = 80 := by simp [sz, spl_length]; omega
theorem sz_at (m : Nat → Int) {t j : Nat} (h : j < t) : (sz m t).getD j 0 = (spl m t).getD j 0 := by
  rw [sz, List.getD_eq_getElem?_getD, List.getElem?_append_left (by rw [spl_length]; exact h), ← List.getD_eq_getElem?_getD]
theorem sz_next (m : Nat → Int) {t : Nat} (h : 16 ≤ t) (h2 : t < 80) : (sz m t).set t (rl (xo (xo (xo ((spl m t).getD (t - 3) 0) ((spl m t).getD (t - 8) 0)) ((spl m t).getD (t - 14) 0)) ((spl m t).getD (t - 16) 0)) 1) = sz m (t + 1) := by
  have e : List.replicate (80 - t) (0 : Int) = 0 :: List.replicate (80 - (t + 1)) 0 := by rw [show 80 - t = (80 - (t + 1)) + 1 by omega]; rfl
  rw [sz, sz, e, List.set_append, if_neg (by rw [spl_length]; omega), spl_length, Nat.sub_self]
  show _ = (spl m t ++ [_]) ++ _
  rw [if_neg (by omega), List.append_assoc]
  rfl
theorem spl16 (m : Nat → Int) : cw (spl m 16) = c16 m := by simp [cw, spl, c16]
theorem sz_end (m : Nat → Int) : cw (sz m 80) = cw (spl m 80) := by simp [sz]
theorem sz_16 (m : Nat → Int) : ((cw (List.replicate 80 0)).toList.take 0 ++ ((c16 m).toList ++ (cw (List.replicate 80 0)).toList.drop (0 + (c16 m).toList.length))).toArray = cw (sz m 16) := by
  rw [← spl16]
  simp [cw, sz, spl_length]
theorem has3 (w : World) (T0 T1 T2 : TypeId) (c0 c1 c2 : Array Value) : Has T0 c0 w.heap.size (((w.alloc (.cells c0 T0)).alloc (.cells c1 T1)).alloc (.cells c2 T2)) ∧ Has T1 c1 (w.heap.size + 1) (((w.alloc (.cells c0 T0)).alloc (.cells c1 T1)).alloc (.cells c2 T2)) ∧
    Has T2 c2 (w.heap.size + 1 + 1) (((w.alloc (.cells c0 T0)).alloc (.cells c1 T1)).alloc (.cells c2 T2)) ∧ Below w.heap.size w (((w.alloc (.cells c0 T0)).alloc (.cells c1 T1)).alloc (.cells c2 T2)) := by
  have e1 : (w.alloc (.cells c0 T0)).heap.size = w.heap.size + 1 := by simp
  have e2 : ((w.alloc (.cells c0 T0)).alloc (.cells c1 T1)).heap.size = w.heap.size + 1 + 1 := by simp
  refine ⟨((Has.new T0 c0 w).alloc _).alloc _, ?_, ?_, (((Below.refl _ w).alloc (Nat.le_refl _) _).alloc (by omega) _).alloc (by omega) _⟩
  · rw [← e1]; exact (Has.new T1 c1 _).alloc _
  · rw [← e2]; exact Has.new T2 c2 _
theorem add_off (B j : Nat) : (⟨B, 0, none⟩ : Addr).add j = ⟨B, j, none⟩ := by unfold Addr.add; split <;> simp_all
theorem zero80 (w : World) : Sem.run Tryz.prog (zeroValue 177) w = .ok (.agg (cw (List.replicate 80 0))) w := by kernel_rfl
theorem sha1Spread_any (m : Nat → Int) (w : World) : Calls Tryz.prog 126 #[.agg (c16 m)] w fun e w' => e = .returned (.agg (cw (spl m 80))) ∧ Below w.heap.size w w' := by
  have H0 : Hid (∀ Z : Array Value, _) := fun Z => has3 w 141 177 177 (c16 m) Z Z
  obtain ⟨R, hR⟩ : ∃ R, R = cw (spl m 80) := ⟨_, rfl⟩
  have HR := Lib.hid hR
  rw [← hR]
  clear hR
  have hz := zero80
  have HE : Hid (∀ Z, Z = cw (List.replicate 80 0) → (Z.toList.take 0 ++ ((c16 m).toList ++ Z.toList.drop (0 + (c16 m).toList.length))).toArray = cw (sz m 16)) := by
    rintro _ rfl; exact sz_16 m
  generalize hZ : cw (List.replicate 80 0) = Z at hz
  have HZ := Lib.hid hZ
  clear hZ
  unfold c16
  go_enter Tryz.func126, Tryz.ntmps126
  go_wp2_with fail
  refine ext_tail 2 (by kernel_rfl) (by kernel_rfl) ?_
  simp only [List.take_succ_cons, List.take_zero, List.drop_succ_cons, List.drop_zero]
  repeat (go_big_quiet_step ((fail)))
  refine wpQuiet_nil ?_
  rintro _ ⟨v, hv⟩
  subst hv
  have HA := Lib.hid ((H0.out Z).1.below v.below)
  have HO := Lib.hid ((H0.out Z).2.1.below v.below)
  have HW := Lib.hid ((H0.out Z).2.2.1.below v.below)
  have HB := Lib.hid ((H0.out Z).2.2.2.trans (v.below.mono (H0.out Z).2.2.2.size))
  generalize v.to = w5 at HA HO HW HB ⊢
  refine wpList_copy_own rfl (.tmp 5) (.tmp 6) _ _ rfl 136 Tryz.underlying144 (by kernel_rfl) (w.heap.size + 1 + 1) 0 80 80 ⟨w.heap.size, 0, none⟩ 16 16 rfl rfl Z 177 HW.out (c16 m).toList rfl ?_ ?_ ?_ ?_
  · intro j v hj
    rw [add_off]
    exact HA.out.cell (by simpa using hj)
  · rw [← HZ.out, cw_size]; simp [c16]
  · intro v hv
    have := c16_one m
    rw [← Array.all_toList, List.all_eq_true] at this
    exact this v hv
  rw [HE.out Z HZ.out.symm]
  have HW6 := Lib.hid (HW.out.row (cw (sz m 16)))
  have HO6 := Lib.hid (HO.out.rowOther (g := w.heap.size + 1 + 1) (by omega) (cw (sz m 16)))
  have HB6 := Lib.hid (below_setRow (g := w.heap.size + 1 + 1) HB.out (by omega) (cw (sz m 16)))
  clear HA HO HW HB hz
  generalize w5.setRow (w.heap.size + 1 + 1) (cw (sz m 16)) = w6 at HW6 HO6 HB6 ⊢
  clear v
  go_wp2_with fail
  go_loopw [4] (fun i wr => ∃ k : Nat, i = .int .i64 k ∧ 16 ≤ k ∧ k ≤ 80 ∧ Hid (Has 177 Z (w.heap.size + 1) wr) ∧ Hid (Has 177 (cw (sz m k)) (w.heap.size + 1 + 1) wr) ∧ Hid (Below w.heap.size w wr)) (fun i _ => 80 - (RowKit.intOf i).toNat)
  case atStart => exact ⟨16, rfl, by omega, by omega, HO6.out, HW6.out, HB6.out⟩
  case round =>
    clear HW6 HO6 HB6
    obtain ⟨k, rfl, hk16, hk, HO, HW, HB⟩ := hrel
    by_cases hlt : k < 80
    · have hc3 := HW.out.cell (cw_at _ (j := k - 3) (by rw [sz_length m hk]; omega))
      have hc8 := HW.out.cell (cw_at _ (j := k - 8) (by rw [sz_length m hk]; omega))
      have hc14 := HW.out.cell (cw_at _ (j := k - 14) (by rw [sz_length m hk]; omega))
      have hc16 := HW.out.cell (cw_at _ (j := k - 16) (by rw [sz_length m hk]; omega))
      have hc0 := HW.out.cell (cw_at _ (j := k) (by rw [sz_length m hk]; omega))
      have hf0 := HW.out.frozen (j := k)
      rw [sz_at m (by omega)] at hc3 hc8 hc14 hc16
      have HN : Hid (∀ W, Has 177 (cw (sz m k)) (w.heap.size + 1 + 1) W → Has 177 (cw (sz m (k + 1))) (w.heap.size + 1 + 1) (W.setCell ⟨w.heap.size + 1 + 1, k, none⟩ (.int .u32 (rl (bits .xor .u32 (bits .xor .u32 (bits .xor .u32 ((spl m k).getD (k - 3) 0) ((spl m k).getD (k - 8) 0)) ((spl m k).getD (k - 14) 0)) ((spl m k).getD (k - 16) 0)) 1)))) := fun W h => by
        rw [← sz_next m hk16 hlt, ← cw_set]
        exact h.set _
      generalize (spl m k).getD (k - 3) 0 = x3 at hc3 HN
      generalize (spl m k).getD (k - 8) 0 = x8 at hc8 HN
      generalize (spl m k).getD (k - 14) 0 = x14 at hc14 HN
      generalize (spl m k).getD (k - 16) 0 = x16 at hc16 HN
      generalize (sz m k).getD k 0 = x0 at hc0
      have HRO := Lib.hid (fun X W => rot_any X 1 (by omega) W)
      have fc3 : ∀ x : Ext wr, x.to.cell? ⟨w.heap.size + 1 + 1, k - 3, none⟩ = _ := fun x => ext_cell x hc3
      have fc8 : ∀ x : Ext wr, x.to.cell? ⟨w.heap.size + 1 + 1, k - 8, none⟩ = _ := fun x => ext_cell x hc8
      have fc14 : ∀ x : Ext wr, x.to.cell? ⟨w.heap.size + 1 + 1, k - 14, none⟩ = _ := fun x => ext_cell x hc14
      have fc16 : ∀ x : Ext wr, x.to.cell? ⟨w.heap.size + 1 + 1, k - 16, none⟩ = _ := fun x => ext_cell x hc16
      have hne := extSome wr
      have HC0 := Lib.hid hc0
      have HF0 := Lib.hid hf0
      have hi16 : 16 ≤ (k : Int) := by omega
      clear hc3 hc8 hc14 hc16 hc0 hf0
      go_wp2_with fail
      refine ext_tail 22 (by kernel_rfl) (by kernel_rfl) ?_
      simp only [List.take_succ_cons, List.take_zero, List.drop_succ_cons, List.drop_zero]
      repeat (go_big_quiet_step ((go_at_call 128; with_reducible exact ext_same _ (HRO.out _ _))))
      refine wpQuiet_nil ?_
      rintro _ ⟨v, hv⟩
      subst hv
      have hc1 := ext_cell v HC0.out
      have hf1 := ext_frozen v HC0.out HF0.out
      have HW1 := Lib.hid (HN.out _ (HW.out.below v.below))
      have HO1 := Lib.hid ((HO.out.below v.below).other (a := ⟨w.heap.size + 1 + 1, k, none⟩) (show w.heap.size + 1 ≠ w.heap.size + 1 + 1 by omega) (.int .u32 (rl (bits .xor .u32 (bits .xor .u32 (bits .xor .u32 x3 x8) x14) x16) 1)))
      have HB1 := Lib.hid ((HB.out.trans (v.below.mono HB.out.size)).setCell (p := ⟨w.heap.size + 1 + 1, k, none⟩) (show w.heap.size ≤ w.heap.size + 1 + 1 by omega) (.int .u32 (rl (bits .xor .u32 (bits .xor .u32 (bits .xor .u32 x3 x8) x14) x16) 1)))
      clear fc3 fc8 fc14 fc16 hne
      generalize v.to = w7 at hc1 hf1 HW1 HO1 HB1 ⊢
      go_wp2_with fail
      exact ⟨⟨k + 1, by go_num, by omega, by omega, HO1.out, HW1.out, HB1.out⟩, by simp [RowKit.intOf]; omega⟩
    · obtain rfl : k = 80 := by omega
      have hW := HW.out
      rw [sz_end, ← HR.out] at hW
      have HW2 := Lib.hid hW
      have HB2 := Lib.hid (below_setRow (g := w.heap.size + 1) HB.out (by omega) R)
      have HR2 := Lib.hid (HO.out.row R)
      have HP : Hid (R.all (·.oneCell') = true ∧ R.size = 80 ∧ Z.size = 80) := by rw [HR.out, ← HZ.out]; exact ⟨cw_one _, by rw [cw_size, spl_length], by rw [cw_size, List.length_replicate]⟩
      clear HW hW
      go_wp2_with (first | (refine wpList_load_row rfl 177 _ rfl (w.heap.size + 1 + 1) rfl 177 _ (0, 0) _ HW2.out Tryz.underlying177 rfl (by rw [HP.out.2.1]; kernel_rfl) ?_) | (refine wpList_store_row rfl 177 _ _ rfl (w.heap.size + 1) _ rfl rfl 177 _ HO.out (by rw [HP.out.2.1]; kernel_rfl) (HP.out.2.2.trans HP.out.2.1.symm) HP.out.1 ?_))
      exact bodyPost_ret (results_cell_row Tryz.results126 _ _ (w.heap.size + 1) 177 _ (0, 0) _ rfl HR2.out Tryz.underlying177 rfl (by rw [HP.out.2.1]; kernel_rfl)) rfl ⟨rfl, HB2.out⟩
end Go.Proofs.YtolnpfcncmcacaaGreatDoor.Dn
namespace Go.Proofs.YtolnpfcncmcacaaGreatDoor.Dn
open Go.RowKit Go.Lib By Dg
def c5 (q : Q5) : Array Value := #[.int .u32 q.1, .int .u32 q.2.1, .int .u32 q.2.2.1, .int .u32 q.2.2.2.1, .int .u32 q.2.2.2.2]
theorem c5_one (q : Q5) : (c5 q).all (·.oneCell') = true := by simp [c5, Value.oneCell']
theorem ad_four (a b c d e : Int) : ad (ad (ad (ad a b) c) d) e = ((a + b + c + d) % 4294967296 + e) % 4294967296 := by unfold ad; omega
def adk5 (q r : Q5) (k : Nat) : Q5 := (if 0 < k then ad q.1 r.1 else q.1, if 1 < k then ad q.2.1 r.2.1 else q.2.1, if 2 < k then ad q.2.2.1 r.2.2.1 else q.2.2.1, if 3 < k then ad q.2.2.2.1 r.2.2.2.1 else q.2.2.2.1, if 4 < k then ad q.2.2.2.2 r.2.2.2.2 else q.2.2.2.2)
def wt (m : Nat → Int) (t : Nat) : Int := (spl m 80).getD t 0
theorem sha1Add_any (q : Q5) (m : Nat → Int) (w : World) : Calls Tryz.prog 93 #[.agg (c5 q), .agg (c16 m)] w fun e w' => e = .returned (.agg (c5 (sc m q))) ∧ Below w.heap.size w w' := by
  obtain ⟨R, hR⟩ : ∃ R, R = c5 (sc m q) := ⟨_, rfl⟩
  have HR := Lib.hid hR
  rw [← hR]
  clear hR
  have H0 := Lib.hid (fun c2 c3 => has4 w 137 141 137 137 (c5 q) (c16 m) c2 c3)
  have HSP := Lib.hid (fun W => sha1Spread_any m W)
  have hz := zero80
  have HZ : Hid ((cw (List.replicate 80 0)).size = (cw (spl m 80)).size) := by show _ = _; rw [cw_size, cw_size, spl_length, List.length_replicate]
  generalize cw (List.replicate 80 0) = Z at hz HZ
  unfold c5
  rw [show c16 m = #[.int .u32 (m 0), .int .u32 (m 1), .int .u32 (m 2), .int .u32 (m 3), .int .u32 (m 4), .int .u32 (m 5), .int .u32 (m 6), .int .u32 (m 7), .int .u32 (m 8), .int .u32 (m 9), .int .u32 (m 10), .int .u32 (m 11), .int .u32 (m 12), .int .u32 (m 13), .int .u32 (m 14), .int .u32 (m 15)] from rfl]
  go_enter Tryz.func93, Tryz.ntmps93
  go_wp2_with fail
  refine (HSP.out _).mono ?_
  rintro r w1 ⟨rfl, hb⟩
  have HA1 := Lib.hid ((H0.out (c5 (0, 0, 0, 0, 0)) (c5 q)).1.below hb)
  have HZ1 := Lib.hid ((H0.out (c5 (0, 0, 0, 0, 0)) (c5 q)).2.2.1.below hb)
  have HW1 := Lib.hid ((H0.out (c5 (0, 0, 0, 0, 0)) (c5 q)).2.2.2.1.below hb)
  have hB0 := (H0.out (c5 (0, 0, 0, 0, 0)) (c5 q)).2.2.2.2
  have HB1 := Lib.hid (hB0.trans (hb.mono hB0.size))
  have hlt := HW1.out.lt
  clear hb hB0
  have HA2 := Lib.hid ((HA1.out.alloc (.cells Z 177)).rowOther (g := w1.heap.size) (by omega) (cw (spl m 80)))
  have HZ2 := Lib.hid ((HZ1.out.alloc (.cells Z 177)).rowOther (g := w1.heap.size) (by omega) (cw (spl m 80)))
  have HW2 := Lib.hid ((HW1.out.alloc (.cells Z 177)).rowOther (g := w1.heap.size) (by omega) (cw (spl m 80)))
  have HN1 := Lib.hid (Has.new 177 Z w1)
  have HS2 := Lib.hid (HN1.out.row (cw (spl m 80)))
  have HB2 := Lib.hid (below_setRow (g := w1.heap.size) (HB1.out.alloc (by omega) (.cells Z 177)) (by omega) (cw (spl m 80)))
  go_wp2_with (refine wpList_store_row rfl 177 _ _ rfl w1.heap.size (cw (spl m 80)) rfl rfl 177 _ HN1.out (by rw [cw_size, spl_length]; kernel_rfl) HZ.out (cw_one _) ?_)
  generalize hN : w1.heap.size = N at HA2 HZ2 HW2 HS2 HB2 hlt ⊢
  generalize (w1.alloc (.cells Z 177)).setRow N (cw (spl m 80)) = w2 at HA2 HZ2 HW2 HS2 HB2 ⊢
  clear HA1 HZ1 HW1 HB1 HN1 hN hz HZ H0 HSP
  go_loopw [15] (fun i wr => ∃ k : Nat, i = .int .i64 k ∧ k ≤ 80 ∧ Hid (Has 137 (c5 q) w.heap.size wr) ∧ Hid (Has 177 (cw (spl m 80)) N wr) ∧ Hid (Has 137 (c5 (0, 0, 0, 0, 0)) (w.heap.size + 1 + 1) wr) ∧ Hid (Has 137 (c5 (sr (wt m) q k)) (w.heap.size + 1 + 1 + 1) wr) ∧ Hid (Below w.heap.size w wr)) (fun i _ => 80 - (RowKit.intOf i).toNat)
  case atStart => exact ⟨0, rfl, by omega, HA2.out, HS2.out, HZ2.out, HW2.out, HB2.out⟩
  case round =>
    clear HA2 HZ2 HW2 HS2 HB2
    obtain ⟨k, rfl, hk, HA, HM, HZ, HW, HB⟩ := hrel
    by_cases hlt8 : k < 80
    · obtain ⟨⟨a, b, c, d, e⟩, hq⟩ : ∃ r, r = sr (wt m) q k := ⟨_, rfl⟩
      have HN : Hid (c5 (sr (wt m) q (k + 1)) = c5 (ss (wt m) k (a, b, c, d, e))) := by show _ = _; rw [hq]; rfl
      rw [← hq] at HW
      clear hq
      have HMX := Lib.hid (fun W => sha1Mix_any k a b c d e W hlt8)
      have hi2 : (k : Int) < 80 := by omega
      go_wp2_with (refine wpList_load_row rfl 137 _ rfl (w.heap.size + 1 + 1 + 1) rfl 137 _ (0, 0) _ HW.out Tryz.underlying137 rfl (by kernel_rfl) ?_)
      refine (HMX.out _).mono ?_
      rintro r w2 ⟨rfl, hb2⟩
      have HB2 := Lib.hid (HB.out.trans (hb2.mono HB.out.size))
      have HA2 := Lib.hid (HA.out.below hb2)
      have HM2 := Lib.hid (HM.out.below hb2)
      have HZ2 := Lib.hid (HZ.out.below hb2)
      have HW2 := Lib.hid (HW.out.below hb2)
      clear hb2 HA HM HZ HW HB HMX
      have HN2 : Hid (c5 (sr (wt m) q (k + 1)) = c5 (((rl a 5 + sf k b c d + e + wt m k) % 4294967296 + sk k) % 4294967296, a, rl b 30, c, d)) := by
        show _ = _
        rw [HN.out, ← ad_four]
        rfl
      have hw0 := HW2.out.cell (j := 0) (v := .int .u32 a) rfl
      have hw1 := HW2.out.cell (j := 1) (v := .int .u32 b) rfl
      have hw2 := HW2.out.cell (j := 2) (v := .int .u32 c) rfl
      have hw3 := HW2.out.cell (j := 3) (v := .int .u32 d) rfl
      have hw4 := HW2.out.cell (j := 4) (v := .int .u32 e) rfl
      have hm := HM2.out.cell (cw_at _ (j := k) (by rw [spl_length]; exact hlt8))
      change _ = some (Value.int .u32 (wt m k)) at hm
      generalize sf k b c d = f at HN2 ⊢
      generalize wt m k = x at hm HN2
      generalize sk k = y at HN2 ⊢
      have HRO := Lib.hid (fun X W => rot_any X 5 (by omega) W)
      have HRP := Lib.hid (fun X W => rot_any X 30 (by omega) W)
      have fw0 : ∀ x : Ext w2, x.to.cell? ⟨w.heap.size + 1 + 1 + 1, 0, none⟩ = _ := fun x => ext_cell x hw0
      have fw4 : ∀ x : Ext w2, x.to.cell? ⟨w.heap.size + 1 + 1 + 1, 4, none⟩ = _ := fun x => ext_cell x hw4
      have fm : ∀ x : Ext w2, x.to.cell? ⟨N, k, none⟩ = _ := fun x => ext_cell x hm
      have hne := extSome w2
      have HQ0 := Lib.hid hw0
      have HQ := Lib.hid hw1
      have HQ2 := Lib.hid hw2
      have HQ3 := Lib.hid hw3
      clear hw0 hw1 hw2 hw3 hw4 hm
      go_wp2_with fail
      refine ext_region (by kernel_rfl) (by kernel_rfl) ?_
      repeat (go_big_quiet_step ((go_at_call 128; with_reducible exact ext_same _ (HRO.out _ _))))
      refine wpQuiet_nil ?_
      rintro _ ⟨v, hv⟩
      subst hv
      have HA5 := Lib.hid (HA2.out.below v.below)
      have HM5 := Lib.hid (HM2.out.below v.below)
      have HZ5 := Lib.hid (HZ2.out.below v.below)
      have HW5 := Lib.hid (HW2.out.below v.below)
      have HB5 := Lib.hid (HB2.out.trans (v.below.mono HB2.out.size))
      have hw0 := ext_cell v HQ0.out
      have hw1 := ext_cell v HQ.out
      have hw2 := ext_cell v HQ2.out
      have hw3 := ext_cell v HQ3.out
      generalize ((rl a 5 + f + e + x) % 4294967296 + y) % 4294967296 = t at HN2 ⊢
      generalize v.to = w5 at HA5 HM5 HZ5 HW5 HB5 hw0 hw1 hw2 hw3 ⊢
      clear fw0 fw4 fm hne HQ0 HQ HQ2 HQ3 HRO v HA2 HM2 HZ2 HW2 HB2
      have fw0 : ∀ x : Ext w5, x.to.cell? ⟨w.heap.size + 1 + 1 + 1, 0, none⟩ = _ := fun x => ext_cell x hw0
      have fw1 : ∀ x : Ext w5, x.to.cell? ⟨w.heap.size + 1 + 1 + 1, 1, none⟩ = _ := fun x => ext_cell x hw1
      have fw2 : ∀ x : Ext w5, x.to.cell? ⟨w.heap.size + 1 + 1 + 1, 2, none⟩ = _ := fun x => ext_cell x hw2
      have fw3 : ∀ x : Ext w5, x.to.cell? ⟨w.heap.size + 1 + 1 + 1, 3, none⟩ = _ := fun x => ext_cell x hw3
      have hne := extSome w5
      clear hw0 hw1 hw2 hw3
      go_wp2_with fail
      refine ext_tail 11 (by kernel_rfl) (by kernel_rfl) ?_
      simp only [List.take_succ_cons, List.take_zero, List.drop_succ_cons, List.drop_zero]
      repeat (go_big_quiet_step ((go_at_call 128; with_reducible exact ext_same _ (HRP.out _ _))))
      refine wpQuiet_nil ?_
      rintro _ ⟨v, hv⟩
      subst hv
      have HA6 := Lib.hid ((HA5.out.below v.below).rowOther (g := w.heap.size + 1 + 1 + 1) (by omega) (c5 (t, a, rl b 30, c, d)))
      have HM6 := Lib.hid ((HM5.out.below v.below).rowOther (g := w.heap.size + 1 + 1 + 1) (by omega) (c5 (t, a, rl b 30, c, d)))
      have HZ6 := Lib.hid ((HZ5.out.below v.below).rowOther (g := w.heap.size + 1 + 1 + 1) (by omega) (c5 (t, a, rl b 30, c, d)))
      have HW5b := Lib.hid (HW5.out.below v.below)
      have HW6 := Lib.hid (HW5b.out.row (c5 (t, a, rl b 30, c, d)))
      have HB6 := Lib.hid (below_setRow (g := w.heap.size + 1 + 1 + 1) (HB5.out.trans (v.below.mono HB5.out.size)) (by omega) (c5 (t, a, rl b 30, c, d)))
      generalize v.to = w7 at HA6 HM6 HZ6 HW5b HW6 HB6 ⊢
      clear fw0 fw1 fw2 fw3 hne v
      go_wp2_with (refine wpList_store_row rfl 137 _ _ rfl (w.heap.size + 1 + 1 + 1) _ rfl rfl 137 _ HW5b.out (by kernel_rfl) rfl (c5_one (t, a, rl b 30, c, d)) ?_)
      exact ⟨⟨k + 1, by go_num, by omega, HA6.out, HM6.out, HZ6.out, by rw [HN2.out]; exact HW6.out, HB6.out⟩, by simp [RowKit.intOf]; omega⟩
    · obtain rfl : k = 80 := by omega
      have HE : Hid (R = c5 (adk5 q (sr (wt m) q 80) 5)) := by
        show _ = _
        rw [HR.out]; rfl
      generalize sr (wt m) q 80 = r at HW HE
      go_wp2_with fail
      clear HM
      go_loopw [50] (fun i wr => ∃ k : Nat, i = .int .i64 k ∧ k ≤ 5 ∧ Hid (Has 137 (c5 (adk5 q r k)) w.heap.size wr) ∧ Hid (Has 137 (c5 (0, 0, 0, 0, 0)) (w.heap.size + 1 + 1) wr) ∧ Hid (Has 137 (c5 r) (w.heap.size + 1 + 1 + 1) wr) ∧ Hid (Below w.heap.size w wr)) (fun i _ => 5 - (RowKit.intOf i).toNat)
      case atStart => exact ⟨0, rfl, by omega, HA.out, HZ.out, HW.out, HB.out⟩
      case round =>
        clear HA HZ HW HB
        rename_i wr0 _
        obtain ⟨k, rfl, hk, HA, HZ, HW, HB⟩ := hrel
        have h5 : k = 0 ∨ k = 1 ∨ k = 2 ∨ k = 3 ∨ k = 4 ∨ k = 5 := by omega
        rcases h5 with rfl | rfl | rfl | rfl | rfl | rfl
        · have ha := HA.out.cell (j := 0) (v := .int .u32 q.1) rfl
          have hf := HA.out.frozen (j := 0)
          have hw := HW.out.cell (j := 0) (v := .int .u32 r.1) rfl
          have HN : Hid (∀ W, Has 137 (c5 (adk5 q r 0)) w.heap.size W → Has 137 (c5 (adk5 q r 1)) w.heap.size (W.setCell ⟨w.heap.size, 0, none⟩ (.int .u32 ((q.1 + r.1) % 4294967296)))) := fun W h => h.set _
          have HDr := Lib.hid (below_drewN wr)
          go_wp2_with fail
          go_region
          go_wp2_with fail
          exact ⟨⟨1, by go_num, by omega, HN.out _ (HA.out.drewN 1), (HZ.out.drewN 1).other (a := ⟨w.heap.size, 0, none⟩) (show w.heap.size + 1 + 1 ≠ w.heap.size by omega) _, (HW.out.drewN 1).other (a := ⟨w.heap.size, 0, none⟩) (show w.heap.size + 1 + 1 + 1 ≠ w.heap.size by omega) _, (HB.out.trans ((HDr.out 1).mono HB.out.size)).setCell (by simp) _⟩, by simp [RowKit.intOf]⟩
        · have ha := HA.out.cell (j := 1) (v := .int .u32 q.2.1) rfl
          have hf := HA.out.frozen (j := 1)
          have hw := HW.out.cell (j := 1) (v := .int .u32 r.2.1) rfl
          have HN : Hid (∀ W, Has 137 (c5 (adk5 q r 1)) w.heap.size W → Has 137 (c5 (adk5 q r 2)) w.heap.size (W.setCell ⟨w.heap.size, 1, none⟩ (.int .u32 ((q.2.1 + r.2.1) % 4294967296)))) := fun W h => h.set _
          have HDr := Lib.hid (below_drewN wr)
          go_wp2_with fail
          go_region
          go_wp2_with fail
          exact ⟨⟨2, by go_num, by omega, HN.out _ (HA.out.drewN 1), (HZ.out.drewN 1).other (a := ⟨w.heap.size, 1, none⟩) (show w.heap.size + 1 + 1 ≠ w.heap.size by omega) _, (HW.out.drewN 1).other (a := ⟨w.heap.size, 1, none⟩) (show w.heap.size + 1 + 1 + 1 ≠ w.heap.size by omega) _, (HB.out.trans ((HDr.out 1).mono HB.out.size)).setCell (by simp) _⟩, by simp [RowKit.intOf]⟩
        · have ha := HA.out.cell (j := 2) (v := .int .u32 q.2.2.1) rfl
          have hf := HA.out.frozen (j := 2)
          have hw := HW.out.cell (j := 2) (v := .int .u32 r.2.2.1) rfl
          have HN : Hid (∀ W, Has 137 (c5 (adk5 q r 2)) w.heap.size W → Has 137 (c5 (adk5 q r 3)) w.heap.size (W.setCell ⟨w.heap.size, 2, none⟩ (.int .u32 ((q.2.2.1 + r.2.2.1) % 4294967296)))) := fun W h => h.set _
          have HDr := Lib.hid (below_drewN wr)
          go_wp2_with fail
          go_region
          go_wp2_with fail
          exact ⟨⟨3, by go_num, by omega, HN.out _ (HA.out.drewN 1), (HZ.out.drewN 1).other (a := ⟨w.heap.size, 2, none⟩) (show w.heap.size + 1 + 1 ≠ w.heap.size by omega) _, (HW.out.drewN 1).other (a := ⟨w.heap.size, 2, none⟩) (show w.heap.size + 1 + 1 + 1 ≠ w.heap.size by omega) _, (HB.out.trans ((HDr.out 1).mono HB.out.size)).setCell (by simp) _⟩, by simp [RowKit.intOf]⟩
        · have ha := HA.out.cell (j := 3) (v := .int .u32 q.2.2.2.1) rfl
          have hf := HA.out.frozen (j := 3)
          have hw := HW.out.cell (j := 3) (v := .int .u32 r.2.2.2.1) rfl
          have HN : Hid (∀ W, Has 137 (c5 (adk5 q r 3)) w.heap.size W → Has 137 (c5 (adk5 q r 4)) w.heap.size (W.setCell ⟨w.heap.size, 3, none⟩ (.int .u32 ((q.2.2.2.1 + r.2.2.2.1) % 4294967296)))) := fun W h => h.set _
          have HDr := Lib.hid (below_drewN wr)
          go_wp2_with fail
          go_region
          go_wp2_with fail
          exact ⟨⟨4, by go_num, by omega, HN.out _ (HA.out.drewN 1), (HZ.out.drewN 1).other (a := ⟨w.heap.size, 3, none⟩) (show w.heap.size + 1 + 1 ≠ w.heap.size by omega) _, (HW.out.drewN 1).other (a := ⟨w.heap.size, 3, none⟩) (show w.heap.size + 1 + 1 + 1 ≠ w.heap.size by omega) _, (HB.out.trans ((HDr.out 1).mono HB.out.size)).setCell (by simp) _⟩, by simp [RowKit.intOf]⟩
        · have ha := HA.out.cell (j := 4) (v := .int .u32 q.2.2.2.2) rfl
          have hf := HA.out.frozen (j := 4)
          have hw := HW.out.cell (j := 4) (v := .int .u32 r.2.2.2.2) rfl
          have HN : Hid (∀ W, Has 137 (c5 (adk5 q r 4)) w.heap.size W → Has 137 (c5 (adk5 q r 5)) w.heap.size (W.setCell ⟨w.heap.size, 4, none⟩ (.int .u32 ((q.2.2.2.2 + r.2.2.2.2) % 4294967296)))) := fun W h => h.set _
          have HDr := Lib.hid (below_drewN wr)
          go_wp2_with fail
          go_region
          go_wp2_with fail
          exact ⟨⟨5, by go_num, by omega, HN.out _ (HA.out.drewN 1), (HZ.out.drewN 1).other (a := ⟨w.heap.size, 4, none⟩) (show w.heap.size + 1 + 1 ≠ w.heap.size by omega) _, (HW.out.drewN 1).other (a := ⟨w.heap.size, 4, none⟩) (show w.heap.size + 1 + 1 + 1 ≠ w.heap.size by omega) _, (HB.out.trans ((HDr.out 1).mono HB.out.size)).setCell (by simp) _⟩, by simp [RowKit.intOf]⟩
        · have HB2 := Lib.hid (below_setRow (g := w.heap.size + 1 + 1) HB.out (by omega) (c5 (adk5 q r 5)))
          have HR2 := Lib.hid (HZ.out.row (c5 (adk5 q r 5)))
          have HA2 := HA.out
          rw [← HE.out] at HB2 HR2 HA2
          have HO : Hid (R.all (·.oneCell') = true ∧ R.size = 5) := by rw [HE.out]; exact ⟨c5_one _, rfl⟩
          have HA3 := Lib.hid HA2
          clear HA2
          go_wp2_with (first | (refine wpList_load_row rfl 137 _ rfl w.heap.size rfl 137 _ (0, 0) _ HA3.out Tryz.underlying137 rfl (by rw [HO.out.2]; kernel_rfl) ?_) | (refine wpList_store_row rfl 137 _ _ rfl (w.heap.size + 1 + 1) _ rfl rfl 137 _ HZ.out (by rw [HO.out.2]; kernel_rfl) HO.out.2.symm HO.out.1 ?_))
          exact bodyPost_ret (results_cell_row Tryz.results93 _ _ (w.heap.size + 1 + 1) 137 _ (0, 0) _ rfl HR2.out Tryz.underlying137 rfl (by rw [HO.out.2]; kernel_rfl)) rfl ⟨rfl, HB2.out⟩
end Go.Proofs.YtolnpfcncmcacaaGreatDoor.Dn
namespace Go.Proofs.YtolnpfcncmcacaaGreatDoor.Dn
open Go.RowKit Go.Lib By Dg
theorem filled (g : Bool) (s : ByteArray) : (s ++ fil g s.size).data.toList = fl g s.data.toList := by
  rw [append_list, ← len_size s]
  simp [fil, fl]
theorem filled_size (g : Bool) (s : ByteArray) : (s ++ fil g s.size).size = 64 * ch s.size := by
  rw [Lib.size_eq, filled, fl_ch, len_size]
theorem ws5_cell (q : Q5) : ∀ j, j < (ws5 q).length → (c5 q)[j]? = some (.int .u32 ((ws5 q).getD j 0)) := by
  intro j hj
  have : j = 0 ∨ j = 1 ∨ j = 2 ∨ j = 3 ∨ j = 4 := by have : j < 5 := hj; omega
  rcases this with rfl | rfl | rfl | rfl | rfl <;> rfl
theorem sha1_any (s : ByteArray) (w : World) (hs : s.size ≤ 100000) : Calls Tryz.prog 60 #[.string s] w fun e w' => e = .returned (.string ⟨(sha1 s.data.toList).toArray⟩) ∧ Below w.heap.size w w' := by
  have HFil := Lib.hid (fun W => filling_any true s.size W hs)
  have hF2 := filled_size true s
  have HF := Lib.hid (filled true s)
  have hc := ch_le hs
  have hs2 : s.size ≤ 100000 := hs
  have HB0 := Lib.hid (fun o => (Below.refl _ w).alloc (Nat.le_refl _) o)
  have H0 := Lib.hid (Has.new 137 (c5 (sd (fl true s.data.toList) 0)) w)
  generalize hfi : fil true s.size = fi at hF2 HF HFil
  clear hfi
  generalize hn : ch s.size = n at hF2 hc
  have HN := Lib.hid hn
  clear hn
  have hfs : fi.size ≤ 200000 := by rw [ByteArray.size_append] at hF2; omega
  go_enter Tryz.func60, Tryz.ntmps60
  go_wp2_with fail
  refine (HFil.out _).mono ?_
  rintro r w1 ⟨rfl, hb⟩
  have H1 := Lib.hid (H0.out.below hb)
  have HB1 := Lib.hid ((HB0.out _).trans (hb.mono (HB0.out _).size))
  clear hb H0 HB0
  generalize hFF : s ++ fi = F at HF
  have HFF := Lib.hid hFF
  have hFs : F.size = 64 * n := by rw [← hFF]; exact hF2
  have hdv : (F.size : Int) / 64 = (n : Int) := by omega
  have hF3 : F.size ≤ 200000 := by omega
  have HFs := Lib.hid hFs
  have hn2 : (n : Int) ≤ 2000 := by omega
  clear hFs hF2
  go_wp2_with fail
  clear hFF
  go_loopw [15] (fun i wr => ∃ k : Nat, i = .int .i64 k ∧ k ≤ n ∧ Hid (Has 137 (c5 (sd (fl true s.data.toList) k)) w.heap.size wr) ∧ Hid (Below w.heap.size w wr)) (fun i _ => n - (RowKit.intOf i).toNat)
  case atStart => exact ⟨0, rfl, by omega, H1.out, HB1.out⟩
  case round =>
    clear H1 HB1
    obtain ⟨k, rfl, hk, HA, HB⟩ := hrel
    by_cases hlt : k < n
    · obtain ⟨q, hq⟩ : ∃ q, q = sd (fl true s.data.toList) k := ⟨_, rfl⟩
      have HQ : Hid (sd (fl true s.data.toList) (k + 1) = sc (fun j => wd true (fl true s.data.toList) (64 * k + 4 * j)) q) := by show _ = _; rw [hq]; rfl
      rw [← hq] at HA
      clear hq
      have HWD : Hid (∀ W, Calls Tryz.prog 94 #[.int .i64 1, .string F, .int .i64 k] W fun e w' => e = .returned (.agg (c16 (fun j => wd true (fl true s.data.toList) (64 * k + 4 * j)))) ∧ Below W.heap.size W w') := fun W => by
        have := words_any true F k W (by have := HFs.out; omega) hF3
        rw [HF.out] at this
        exact this
      generalize (fun j => wd true (fl true s.data.toList) (64 * k + 4 * j)) = m at HWD HQ
      have HMA : Hid (∀ x : Ext wr, Calls Tryz.prog 93 #[.agg #[.int .u32 q.1, .int .u32 q.2.1, .int .u32 q.2.2.1, .int .u32 q.2.2.2.1, .int .u32 q.2.2.2.2], .agg (c16 m)] x.to fun e w' => e = .returned (.agg (c5 (sc m q))) ∧ Below x.to.heap.size x.to w') := fun x => sha1Add_any q m x.to
      have f0 : ∀ x : Ext wr, x.to.cell? ⟨w.heap.size, 0, none⟩ = _ := fun x => ext_cell x (HA.out.cell (j := 0) (v := .int .u32 q.1) rfl)
      have f1 : ∀ x : Ext wr, x.to.cell? ⟨w.heap.size, 1, none⟩ = _ := fun x => ext_cell x (HA.out.cell (j := 1) (v := .int .u32 q.2.1) rfl)
      have f2 : ∀ x : Ext wr, x.to.cell? ⟨w.heap.size, 2, none⟩ = _ := fun x => ext_cell x (HA.out.cell (j := 2) (v := .int .u32 q.2.2.1) rfl)
      have f3 : ∀ x : Ext wr, x.to.cell? ⟨w.heap.size, 3, none⟩ = _ := fun x => ext_cell x (HA.out.cell (j := 3) (v := .int .u32 q.2.2.2.1) rfl)
      have f4 : ∀ x : Ext wr, x.to.cell? ⟨w.heap.size, 4, none⟩ = _ := fun x => ext_cell x (HA.out.cell (j := 4) (v := .int .u32 q.2.2.2.2) rfl)
      have hne := extSome wr
      have HL : Hid (c5 (sc m q) = c5 (sc m q)) := rfl
      have HN2 := Lib.hid hlt
      clear hc hfs hF3
      go_wp2_with fail
      refine ext_tail 5 (by kernel_rfl) (by kernel_rfl) ?_
      simp only [List.take_succ_cons, List.take_zero, List.drop_succ_cons, List.drop_zero]
      repeat (go_big_quiet_step (first | (go_at_call 94; with_reducible exact ext_call _ (HWD.out _)) | (go_at_call 93; with_reducible exact ext_call _ (HMA.out _))))
      refine wpQuiet_nil ?_
      rintro _ ⟨v, hv⟩
      subst hv
      have HA1 := Lib.hid (HA.out.below v.below)
      have HA2 := Lib.hid (HA1.out.row (c5 (sc m q)))
      have HB2 := Lib.hid (below_setRow (g := w.heap.size) (HB.out.trans (v.below.mono HB.out.size)) (Nat.le_refl _) (c5 (sc m q)))
      generalize v.to = w5 at HA1 HA2 HB2 ⊢
      clear v f0 f1 f2 f3 f4 hne HMA HWD
      go_wp2_with (refine wpList_store_row rfl 137 _ _ rfl w.heap.size _ rfl rfl 137 _ HA1.out (by kernel_rfl) rfl (c5_one _) ?_)
      exact ⟨⟨k + 1, by go_num, by omega, by rw [HQ.out]; exact HA2.out, HB2.out⟩, by simp [RowKit.intOf]; omega⟩
    · obtain rfl : k = n := by omega
      have HPW := Lib.hid (fun W hB hl => putWords_any true (ws5 (sd (fl true s.data.toList) k)) w.heap.size 5 W (show 5 ≤ 100 by omega) (sd_w _ _) hB hl)
      have HE : Hid (outp true (ws5 (sd (fl true s.data.toList) k)) = sha1 s.data.toList) := by show _ = _; rw [sha1, len_size, HN.out]
      go_wp2_with fail
      refine (HPW.out _ (fun j hj => HA.out.cell (ws5_cell _ j hj)) HA.out.lt).mono ?_
      rintro r w3 ⟨rfl, hb3⟩
      have HB3 := Lib.hid (HB.out.trans (hb3.mono HB.out.size))
      clear hb3
      rw [HE.out]
      go_wp2_with fail
      go_ret
      exact ⟨rfl, HB3.out⟩
end Go.Proofs.YtolnpfcncmcacaaGreatDoor.Dn
