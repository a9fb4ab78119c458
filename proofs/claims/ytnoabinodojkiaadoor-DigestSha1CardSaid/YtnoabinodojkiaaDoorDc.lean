/- MD5's and SHA-1's steps and sums as plain functions. No condition. -/
import Derived.Test.YtnoabinodojkiaaDoorDa
namespace Go.Proofs.YtnoabinodojkiaaDoor.Dg
open Go By

abbrev Q := Int × Int × Int × Int
abbrev Q5 := Int × Int × Int × Int × Int
def sines : List Int := [3614090360, 3905402710, 606105819, 3250441966, 4118548399, 1200080426, 2821735955, 4249261313, 1770035416, 2336552879, 4294925233, 2304563134, 1804603682, 4254626195, 2792965006, 1236535329, 4129170786, 3225465664, 643717713, 3921069994, 3593408605, 38016083, 3634488961, 3889429448, 568446438, 3275163606, 4107603335, 1163531501, 2850285829, 4243563512, 1735328473, 2368359562, 4294588738, 2272392833, 1839030562, 4259657740, 2763975236, 1272893353, 4139469664, 3200236656, 681279174, 3936430074, 3572445317, 76029189, 3654602809, 3873151461, 530742520, 3299628645, 4096336452, 1126891415, 2878612391, 4237533241, 1700485571, 2399980690, 4293915773, 2240044497, 1873313359, 4264355552, 2734768916, 1309151649, 4149444226, 3174756917, 718787259, 3951481745]
def turnsL : List Nat := [7, 12, 17, 22, 5, 9, 14, 20, 4, 11, 16, 23, 6, 10, 15, 21]
def kk (i : Nat) : Int := sines.getD i 0
def rr (i : Nat) : Nat := turnsL.getD (i / 16 * 4 + i % 4) 0
def mf (i : Nat) (b c d : Int) : Int := if i / 16 = 0 then io (an b c) (an (nt b) d) else if i / 16 = 1 then io (an d b) (an (nt d) c) else if i / 16 = 2 then xo (xo b c) d else xo c (io b (nt d))
def mg (i : Nat) : Nat := if i / 16 = 0 then i else if i / 16 = 1 then (5 * i + 1) % 16 else if i / 16 = 2 then (3 * i + 5) % 16 else 7 * i % 16
theorem mg_lt {i : Nat} (h : i < 64) : mg i < 16 := by
  unfold mg
  split
  · omega
  split
  · omega
  split <;> omega
def ms (m : Nat → Int) (i : Nat) (q : Q) : Q := (q.2.2.2, ad q.2.1 (rl (ad (ad (ad q.1 (mf i q.2.1 q.2.2.1 q.2.2.2)) (kk i)) (m (mg i))) (rr i)), q.2.1, q.2.2.1)
def mr (m : Nat → Int) (q : Q) : Nat → Q
  | 0 => q
  | i + 1 => ms m i (mr m q i)
def ad4 (q r : Q) : Q := (ad q.1 r.1, ad q.2.1 r.2.1, ad q.2.2.1 r.2.2.1, ad q.2.2.2 r.2.2.2)
def mc (m : Nat → Int) (q : Q) : Q := ad4 q (mr m q 64)
def md (F : List UInt8) : Nat → Q
  | 0 => (1732584193, 4023233417, 2562383102, 271733878)
  | n + 1 => mc (fun j => wd false F (64 * n + 4 * j)) (md F n)
def outp (g : Bool) (l : List Int) : List UInt8 := l.flatMap fun x => pb g x.toNat 4
def ws4 (q : Q) : List Int := [q.1, q.2.1, q.2.2.1, q.2.2.2]
def ws5 (q : Q5) : List Int := [q.1, q.2.1, q.2.2.1, q.2.2.2.1, q.2.2.2.2]
def md5 (l : List UInt8) : List UInt8 := outp false (ws4 (md (fl false l) (ch l.length)))

/-- The first t words of the eighty. -/
def spl (m : Nat → Int) : Nat → List Int
  | 0 => []
  | t + 1 => spl m t ++ [if t < 16 then m t else rl (xo (xo (xo ((spl m t).getD (t - 3) 0) ((spl m t).getD (t - 8) 0)) ((spl m t).getD (t - 14) 0)) ((spl m t).getD (t - 16) 0)) 1]
theorem spl_length (m : Nat → Int) (t : Nat) : (spl m t).length = t := by
  induction t with
  | zero => rfl
  | succ t ih => simp [spl, ih]
theorem spl_more (m : Nat → Int) {t j : Nat} (h : j < t) (n : Nat) : (spl m (t + n)).getD j 0 = (spl m t).getD j 0 := by
  induction n with
  | zero => rfl
  | succ n ih =>
    show (spl m (t + n) ++ _).getD j 0 = _
    rw [List.getD_eq_getElem?_getD, List.getElem?_append_left (by rw [spl_length]; omega), ← List.getD_eq_getElem?_getD, ih]
def sf (t : Nat) (b c d : Int) : Int := if t / 20 = 0 then io (an b c) (an (nt b) d) else if t / 20 = 1 then xo (xo b c) d else if t / 20 = 2 then io (io (an b c) (an b d)) (an c d) else xo (xo b c) d
def sk (t : Nat) : Int := if t / 20 = 0 then 1518500249 else if t / 20 = 1 then 1859775393 else if t / 20 = 2 then 2400959708 else 3395469782
def ss (w : Nat → Int) (t : Nat) (q : Q5) : Q5 := (ad (ad (ad (ad (rl q.1 5) (sf t q.2.1 q.2.2.1 q.2.2.2.1)) q.2.2.2.2) (w t)) (sk t), q.1, rl q.2.1 30, q.2.2.1, q.2.2.2.1)
def sr (w : Nat → Int) (q : Q5) : Nat → Q5
  | 0 => q
  | t + 1 => ss w t (sr w q t)
def ad5 (q r : Q5) : Q5 := (ad q.1 r.1, ad q.2.1 r.2.1, ad q.2.2.1 r.2.2.1, ad q.2.2.2.1 r.2.2.2.1, ad q.2.2.2.2 r.2.2.2.2)
def sc (m : Nat → Int) (q : Q5) : Q5 := ad5 q (sr (fun t => (spl m 80).getD t 0) q 80)
def sd (F : List UInt8) : Nat → Q5
  | 0 => (1732584193, 4023233417, 2562383102, 271733878, 3285377520)
  | n + 1 => sc (fun j => wd true F (64 * n + 4 * j)) (sd F n)
def sha1 (l : List UInt8) : List UInt8 := outp true (ws5 (sd (fl true l) (ch l.length)))

/-- Whatever is a word. -/
def W32 (x : Int) : Prop := 0 ≤ x ∧ x < 4294967296
theorem ad_w (a b : Int) : W32 (ad a b) := ⟨Int.emod_nonneg _ (by decide), Int.emod_lt_of_pos _ (by decide)⟩
theorem md_w (F : List UInt8) (n : Nat) : ∀ x ∈ ws4 (md F n), W32 x := by
  cases n with
  | zero =>
    intro x hx
    simp only [ws4, md, List.mem_cons, List.not_mem_nil, or_false] at hx
    rcases hx with rfl | rfl | rfl | rfl <;> constructor <;> decide
  | succ n =>
    intro x hx
    simp only [ws4, md, mc, ad4, List.mem_cons, List.not_mem_nil, or_false] at hx
    rcases hx with rfl | rfl | rfl | rfl <;> exact ad_w _ _
theorem sd_w (F : List UInt8) (n : Nat) : ∀ x ∈ ws5 (sd F n), W32 x := by
  cases n with
  | zero =>
    intro x hx
    simp only [ws5, sd, List.mem_cons, List.not_mem_nil, or_false] at hx
    rcases hx with rfl | rfl | rfl | rfl | rfl <;> constructor <;> decide
  | succ n =>
    intro x hx
    simp only [ws5, sd, sc, ad5, List.mem_cons, List.not_mem_nil, or_false] at hx
    rcases hx with rfl | rfl | rfl | rfl | rfl <;> exact ad_w _ _
theorem outp_length (g : Bool) (l : List Int) : (outp g l).length = 4 * l.length := by
  induction l with
  | nil => rfl
  | cons a l ih => simp only [outp, List.flatMap_cons, List.length_append, pb_length, List.length_cons] at ih ⊢; omega
theorem md5_length (l : List UInt8) : (md5 l).length = 16 := by rw [md5, outp_length]; rfl
theorem sha1_length (l : List UInt8) : (sha1 l).length = 20 := by rw [sha1, outp_length]; rfl

/-- A byte as two digits. -/
def dg (n : Nat) : UInt8 := u (if n < 10 then 48 + n else 87 + n)
def hx : List UInt8 → List UInt8
  | [] => []
  | c :: l => dg (c.toNat / 16) :: dg (c.toNat % 16) :: hx l
theorem hx_length (l : List UInt8) : (hx l).length = 2 * l.length := by
  induction l with
  | nil => rfl
  | cons c l ih => simp only [hx, List.length_cons, ih]; omega
theorem hx_append (a b : List UInt8) : hx (a ++ b) = hx a ++ hx b := by
  induction a with
  | nil => rfl
  | cons c l ih => simp only [List.cons_append, hx, ih]
theorem dg_inj {a b : Nat} (ha : a < 16) (hb : b < 16) (h : dg a = dg b) : a = b := by
  unfold dg at h
  have := congrArg UInt8.toNat h
  rw [u_nat (by split <;> omega), u_nat (by split <;> omega)] at this
  split at this <;> split at this <;> omega
theorem hx_inj : ∀ {a b : List UInt8}, hx a = hx b → a = b
  | [], [], _ => rfl
  | [], _ :: _, h => by simp [hx] at h
  | _ :: _, [], h => by simp [hx] at h
  | c :: a, d :: b, h => by
    simp only [hx, List.cons.injEq] at h
    have h1 := dg_inj (by have := UInt8.toNat_lt c; omega) (by have := UInt8.toNat_lt d; omega) h.1
    have h2 := dg_inj (by omega) (by omega) h.2.1
    rw [eq_of_nat (show c.toNat = d.toNat by omega), hx_inj h.2.2]
theorem hx_digit : ∀ (l : List UInt8) (c : UInt8), c ∈ hx l → (48 ≤ c.toNat ∧ c.toNat ≤ 57) ∨ (97 ≤ c.toNat ∧ c.toNat ≤ 102)
  | [], _, h => by simp [hx] at h
  | x :: l, c, h => by
    have D : ∀ n, n < 16 → (48 ≤ (dg n).toNat ∧ (dg n).toNat ≤ 57) ∨ (97 ≤ (dg n).toNat ∧ (dg n).toNat ≤ 102) := by
      intro n hn
      unfold dg
      split
      · rw [u_nat (by omega)]; omega
      · rw [u_nat (by omega)]; omega
    simp only [hx, List.mem_cons] at h
    rcases h with rfl | rfl | h
    · exact D _ (by have := UInt8.toNat_lt x; omega)
    · exact D _ (by omega)
    · exact hx_digit l c h
end Go.Proofs.YtnoabinodojkiaaDoor.Dg
