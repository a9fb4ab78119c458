/- Contracts of sha1Mix and of the document's own small functions: turns, table, word. No condition beyond what each theorem's head says. -/
import Derived.Test.YtnoabinodojkiaaDoorDe
namespace Go.Proofs.YtnoabinodojkiaaDoor
open Go.RowKit Go.Lib By Dg

theorem sha1Mix_any (t : Nat) (a b c d e : Int) (w : World) (hi : t < 80) : Calls Tryd.prog 35 #[.int .i64 t, .agg #[.int .u32 a, .int .u32 b, .int .u32 c, .int .u32 d, .int .u32 e]] w fun e w' => e = .returned (.tuple #[.int .u32 (sf t b c d), .int .u32 (sk t)]) ∧ Below w.heap.size w w' := by
  have hs : IntKind.u32.signed = false := rfl
  have hi2 : (t : Int) < 80 := by omega
  have HB := Lib.hid (fun n => bel_one w (Obj.cells #[.int .u32 a, .int .u32 b, .int .u32 c, .int .u32 d, .int .u32 e] 44) n)
  by_cases c0 : t / 20 = 0
  · have E : Hid (sf t b c d = io (an b c) (an (nt b) d) ∧ sk t = 1518500249) := by constructor <;> simp [sf, sk, c0]
    have f0 := div_eq c0
    clear c0 hi
    go_enter Tryd.func35, Tryd.ntmps35
    go_wp2
    go_quiet (fail)
    go_wp2
    go_ret2
    exact ⟨by rw [E.out.1, E.out.2]; rfl, HB.out _⟩
  have f0 := div_ne c0
  by_cases c1 : t / 20 = 1
  · have E : Hid (sf t b c d = xo (xo b c) d ∧ sk t = 1859775393) := by constructor <;> simp [sf, sk, c1]
    have f1 := div_eq c1
    clear c0 c1 hi
    go_enter Tryd.func35, Tryd.ntmps35
    go_wp2
    go_quiet (fail)
    go_wp2
    go_ret2
    exact ⟨by rw [E.out.1, E.out.2]; rfl, HB.out _⟩
  have f1 := div_ne c1
  by_cases c2 : t / 20 = 2
  · have E : Hid (sf t b c d = io (io (an b c) (an b d)) (an c d) ∧ sk t = 2400959708) := by constructor <;> simp [sf, sk, c2]
    have f2 := div_eq c2
    clear c0 c1 c2 hi
    go_enter Tryd.func35, Tryd.ntmps35
    go_wp2
    go_quiet (fail)
    go_wp2
    go_ret2
    exact ⟨by rw [E.out.1, E.out.2]; rfl, HB.out _⟩
  have f2 := div_ne c2
  have E : Hid (sf t b c d = xo (xo b c) d ∧ sk t = 3395469782) := by constructor <;> simp [sf, sk, c0, c1, c2]
  clear c0 c1 c2 hi
  go_enter Tryd.func35, Tryd.ntmps35
  go_wp2
  go_quiet (fail)
  go_wp2
  go_ret2
  exact ⟨by rw [E.out.1, E.out.2]; rfl, HB.out _⟩
theorem turns_at {j : Nat} (hj : j < 16) : ([Value.int .i64 7, Value.int .i64 12, Value.int .i64 17, Value.int .i64 22, Value.int .i64 5, Value.int .i64 9, Value.int .i64 14, Value.int .i64 20, Value.int .i64 4, Value.int .i64 11, Value.int .i64 16, Value.int .i64 23, Value.int .i64 6, Value.int .i64 10, Value.int .i64 15, Value.int .i64 21] : List Value)[j]? = some (.int .i64 ((turnsL.getD j 0 : Nat) : Int)) := by
  have : j = 0 ∨ j = 1 ∨ j = 2 ∨ j = 3 ∨ j = 4 ∨ j = 5 ∨ j = 6 ∨ j = 7 ∨ j = 8 ∨ j = 9 ∨ j = 10 ∨ j = 11 ∨ j = 12 ∨ j = 13 ∨ j = 14 ∨ j = 15 := by omega
  rcases this with rfl | rfl | rfl | rfl | rfl | rfl | rfl | rfl | rfl | rfl | rfl | rfl | rfl | rfl | rfl | rfl <;> rfl
theorem turns_any (i : Nat) (w : World) (hi : i < 64) : Calls Tryd.prog 23 #[.int .i64 i] w fun e w' => e = .returned (.int .i64 (rr i : Nat)) ∧ Below w.heap.size w w' := by
  have hi2 : (i : Int) < 64 := by omega
  have hx : ([Value.int .i64 7, Value.int .i64 12, Value.int .i64 17, Value.int .i64 22, Value.int .i64 5, Value.int .i64 9, Value.int .i64 14, Value.int .i64 20, Value.int .i64 4, Value.int .i64 11, Value.int .i64 16, Value.int .i64 23, Value.int .i64 6, Value.int .i64 10, Value.int .i64 15, Value.int .i64 21] : List Value)[i / 16 * 4 + i % 4]? = some (.int .i64 ((rr i : Nat) : Int)) := turns_at (by omega)
  have HB := Lib.hid (fun o => (Below.refl _ w).alloc (Nat.le_refl _) o)
  generalize hr : rr i = r at hx
  clear hr
  go_enter Tryd.func23, Tryd.ntmps23
  go_wp2
  go_ret
  exact ⟨rfl, HB.out _⟩
/-- The document's table: a new slice of its 64 numbers. -/
def TabP (w : World) (e : Ending) (w' : World) : Prop := ∃ B, e = .returned (.slice (some ⟨B, 0, none⟩) 64 64) ∧ w'.heap[B]? = some (.cells (sines.map (Value.int .u32)).toArray 28 (0, 0)) ∧ w.heap.size ≤ B ∧ Below w.heap.size w w'
theorem tab_end (w : World) : TabP w (.returned (.slice (some ⟨w.heap.size, 0, none⟩) 64 64)) (w.alloc (.cells (sines.map (Value.int .u32)).toArray 28)) :=
  ⟨_, rfl, heap_alloc_new w _, Nat.le_refl _, (Below.refl _ w).alloc (Nat.le_refl _) _⟩
theorem table_any (w : World) : Calls Tryd.prog 19 #[] w (TabP w) := by
  go_enter Tryd.func19, Tryd.ntmps19
  go_wp2_with (refine wpList_buildFlat rfl 36 28 64 _ rfl .u32 sines Tryd.underlying36 (by kernel_rfl) (by kernel_rfl) rfl (by decide) (by decide) (by kernel_rfl) ?_)
  go_ret
  exact tab_end w
theorem word_any (g : Bool) (l : List UInt8) (B p c : Nat) (w : World) (hp : p + 4 ≤ l.length) (hB : ∀ j, j < l.length → w.cell? ⟨B, j, none⟩ = some (.int .u8 (nb l j : Nat))) : Calls Tryd.prog 21 #[.slice (some ⟨B, p, none⟩) 4 c, .bool (!g)] w fun e w' => e = .returned (.int .u32 (wd g l p)) ∧ Below w.heap.size w w' := by
  have h0 := hB p (by omega)
  have h1 := hB (p + 1) (by omega)
  have h2 := hB (p + 2) (by omega)
  have h3 := hB (p + 3) (by omega)
  have b0 := nb_lt l p
  have b1 := nb_lt l (p + 1)
  have b2 := nb_lt l (p + 2)
  have b3 := nb_lt l (p + 3)
  have HB := Lib.hid (below_drewN w)
  cases g with
  | false =>
    have E : Hid (w4 (nb l p) (nb l (p + 1)) (nb l (p + 2)) (nb l (p + 3)) = wd false l p) := by
      show _ = _
      simp only [wd, Bool.false_eq_true, if_false]
    generalize wd false l p = x at E
    generalize nb l p = y0 at h0 b0 E
    generalize nb l (p + 1) = y1 at h1 b1 E
    generalize nb l (p + 2) = y2 at h2 b2 E
    generalize nb l (p + 3) = y3 at h3 b3 E
    clear hB hp
    show Calls _ _ #[_, .bool true] _ _
    go_enter Tryd.func21, Tryd.ntmps21
    go_wp2_with fail
    go_quiet (fail)
    go_wp2_with fail
    go_ret
    exact ⟨by rw [← E.out]; rfl, HB.out _⟩
  | true =>
    have E : Hid (w4 (nb l (p + 3)) (nb l (p + 2)) (nb l (p + 1)) (nb l p) = wd true l p) := by
      show _ = _
      simp only [wd, if_true]
    generalize wd true l p = x at E
    generalize nb l p = y0 at h0 b0 E
    generalize nb l (p + 1) = y1 at h1 b1 E
    generalize nb l (p + 2) = y2 at h2 b2 E
    generalize nb l (p + 3) = y3 at h3 b3 E
    clear hB hp
    show Calls _ _ #[_, .bool false] _ _
    go_enter Tryd.func21, Tryd.ntmps21
    go_wp2_with fail
    go_quiet (fail)
    go_wp2_with fail
    go_ret
    exact ⟨by rw [← E.out]; rfl, HB.out _⟩
end Go.Proofs.YtnoabinodojkiaaDoor
