/- Contracts of what turns words: shift, RotateLeft32, turn, md5Mix, sha1Mix, turns, table. No condition beyond what each theorem's head says. -/
import Derived.Test.YtnoabinodojkiaaDoorDc
import Derived.Test.YtnoabinodojkiaaDoorProg
import Derived.WalkKit
import Derived.WalkSpells
import Derived.WalkLawsBesides
import Derived.BigQuiet
import Derived.Deep.QuietTactic
import Derived.Great.BuildSlice
import Derived.Lib.Hide
namespace Go.Proofs.YtnoabinodojkiaaDoor
open Go.RowKit Go.Lib By Dg

theorem below_drewN (w : World) (n : Nat) : Below w.heap.size w (w.drewN n) := by
  induction n with
  | zero => exact Below.refl _ _
  | succ n ih => exact ih.drew
theorem bel_one (w : World) (o : Obj) (n : Nat) : Below w.heap.size w ((w.alloc o).drewN n) :=
  ((Below.refl _ w).alloc (Nat.le_refl _) o).trans ((below_drewN _ n).mono (by simp))
theorem shift_any (g : Bool) (i n : Nat) (w : World) (hi : i < n) (hn : n ≤ 8) : Calls Tryd.prog 32 #[.int .i64 (og g), .int .i64 i, .int .i64 n] w fun e w' => e = .returned (.int .i64 (sh g i n : Nat)) ∧ w = w' := by
  cases g with
  | false =>
    have E : Hid (8 * (i : Int) = (sh false i n : Nat)) := by show _ = _; simp [sh]
    have hi2 : (i : Int) < 8 := by omega
    have H : og false = 0 := rfl
    rw [H]
    clear H hi hn
    go_enter Tryd.func32, Tryd.ntmps32
    go_wp2
    go_ret
    exact ⟨by rw [← E.out]; rfl, rfl⟩
  | true =>
    obtain ⟨k, hk⟩ : ∃ k, k = n - 1 - i := ⟨_, rfl⟩
    have E : Hid (8 * ((n : Int) - 1 - i) = (sh true i n : Nat)) := by show _ = _; simp [sh]; omega
    have hi2 : (i : Int) < n := by omega
    have hn2 : (n : Int) ≤ 8 := by omega
    have H : og true = 1 := rfl
    rw [H]
    clear H hi hn hk
    go_enter Tryd.func32, Tryd.ntmps32
    go_wp2
    go_ret
    exact ⟨by rw [← E.out]; rfl, rfl⟩
theorem u64_31 {n : Nat} (hn : n < 32) : bits .and .u64 (n : Int) 31 = n := by
  have := u64_and_nat n 31 (by omega) (by omega)
  rw [show n &&& 31 = n by have := Nat.and_two_pow_sub_one_eq_mod n 5; rw [show (2 : Nat) ^ 5 - 1 = 31 by decide] at this; rw [this]; omega] at this
  exact this
theorem rot_any (x : Int) (n : Nat) (hn : n < 32) (w : World) : Calls Tryd.prog 31 #[.int .u32 x, .int .i64 n] w fun e w' => e = .returned (.int .u32 (rl x n)) ∧ w = w' := by
  have hb := u64_31 hn
  go_enter Tryd.func31, Tryd.ntmps31
  go_wp2
  go_ret
  exact ⟨rfl, rfl⟩
theorem turn_any (x : Int) (n : Nat) (hn : n < 32) (w : World) : Calls Tryd.prog 22 #[.int .u32 x, .int .i64 n] w fun e w' => e = .returned (.int .u32 (rl x n)) ∧ w' = w.drew := by
  go_enter Tryd.func22, Tryd.ntmps22
  go_wp2
  go_region
  go_wp2
  go_ret
  exact ⟨rfl, rfl⟩
theorem div_eq {i c k : Nat} (h : i / k = c) : ((i : Int) / (k : Int) == (c : Int)) = true := by rw [beq_iff_eq]; exact_mod_cast congrArg Nat.cast h
theorem div_ne {i c k : Nat} (h : i / k ≠ c) : ((i : Int) / (k : Int) == (c : Int)) = false := by rw [beq_eq_false_iff_ne]; exact_mod_cast h
abbrev agg4 (q : Q) : Value := .agg #[.int .u32 q.1, .int .u32 q.2.1, .int .u32 q.2.2.1, .int .u32 q.2.2.2]
abbrev agg5 (q : Q5) : Value := .agg #[.int .u32 q.1, .int .u32 q.2.1, .int .u32 q.2.2.1, .int .u32 q.2.2.2.1, .int .u32 q.2.2.2.2]
theorem md5Mix_any (i : Nat) (a b c d : Int) (w : World) (hi : i < 64) : Calls Tryd.prog 30 #[.int .i64 i, .agg #[.int .u32 a, .int .u32 b, .int .u32 c, .int .u32 d]] w fun e w' => e = .returned (.tuple #[.int .u32 (mf i b c d), .int .i64 (mg i : Nat)]) ∧ Below w.heap.size w w' := by
  have hs : IntKind.u32.signed = false := rfl
  have hi2 : (i : Int) < 64 := by omega
  have HB := Lib.hid (fun n => bel_one w (Obj.cells #[.int .u32 a, .int .u32 b, .int .u32 c, .int .u32 d] 29) n)
  by_cases c0 : i / 16 = 0
  · have E : Hid (mf i b c d = io (an b c) (an (nt b) d) ∧ mg i = i) := by constructor <;> simp [mf, mg, c0]
    have f0 := div_eq c0
    clear c0 hi
    go_enter Tryd.func30, Tryd.ntmps30
    go_wp2
    go_quiet (fail)
    go_wp2
    go_ret2
    exact ⟨by rw [E.out.1, E.out.2]; rfl, HB.out _⟩
  have f0 := div_ne c0
  by_cases c1 : i / 16 = 1
  · have E : Hid (mf i b c d = io (an d b) (an (nt d) c) ∧ ((mg i : Nat) : Int) = (5 * (i : Int) + 1) % 16) := by constructor <;> simp [mf, mg, c1]
    have f1 := div_eq c1
    clear c0 c1 hi
    go_enter Tryd.func30, Tryd.ntmps30
    go_wp2
    go_quiet (fail)
    go_wp2
    go_ret2
    exact ⟨by rw [E.out.1, E.out.2]; rfl, HB.out _⟩
  have f1 := div_ne c1
  by_cases c2 : i / 16 = 2
  · have E : Hid (mf i b c d = xo (xo b c) d ∧ ((mg i : Nat) : Int) = (3 * (i : Int) + 5) % 16) := by constructor <;> simp [mf, mg, c2]
    have f2 := div_eq c2
    clear c0 c1 c2 hi
    go_enter Tryd.func30, Tryd.ntmps30
    go_wp2
    go_quiet (fail)
    go_wp2
    go_ret2
    exact ⟨by rw [E.out.1, E.out.2]; rfl, HB.out _⟩
  have f2 := div_ne c2
  have E : Hid (mf i b c d = xo c (io b (nt d)) ∧ ((mg i : Nat) : Int) = (7 * (i : Int)) % 16) := by constructor <;> simp [mf, mg, c0, c1, c2]
  clear c0 c1 c2 hi
  go_enter Tryd.func30, Tryd.ntmps30
  go_wp2
  go_quiet (fail)
  go_wp2
  go_ret2
  exact ⟨by rw [E.out.1, E.out.2]; rfl, HB.out _⟩
end Go.Proofs.YtnoabinodojkiaaDoor
