/- Contracts of package escape's small functions and of the document's own small answers for layer 2. No condition beyond what each theorem's head says. -/
import Derived.Test.YthhmdkdpfeofjaaGreatDoorBld
import Derived.Test.YthhmdkdpfeofjaaGreatDoorGly
import Derived.Deep.QuietTactic
import Derived.Test.YthhmdkdpfeofjaaGreatDoorEsp
namespace Go.Proofs.YthhmdkdpfeofjaaGreatDoor
open Go.RowKit Go.Lib By Esc

set_option maxRecDepth 100000 in
theorem below_drewN (w : World) (n : Nat) : Below w.heap.size w (w.drewN n) := by
  induction n with
  | zero => exact Below.refl _ _
  | succ n ih => exact ih.drew
set_option maxRecDepth 100000 in
theorem isEdge_any (s : ByteArray) (i : Nat) (w : World) (hs : s.size ≤ 1048576) (hi : i ≤ s.size) :
    Calls Tryz.prog 46 #[.string s, .int .i64 i] w fun e w' => e = .returned (.bool (decide (i = 0 ∨ i + 3 = s.size))) ∧ w = w' := by
  by_cases h0 : i = 0
  · subst h0
    go_enter Tryz.func46, Tryz.ntmps46
    go_wp2
    go_ret
    exact ⟨by simp, rfl⟩
  · have E : Hid (decide (i = 0 ∨ i + 3 = s.size) = ((i : Int) + 3 == s.size)) := by
      show _ = _
      rw [Bool.eq_iff_iff]; simp; omega
    have f0 : ((i : Int) == 0) = false := by rw [beq_eq_false_iff_ne]; omega
    have hi2 : (i : Int) ≤ 1048576 := by omega
    clear h0
    go_enter Tryz.func46, Tryz.ntmps46
    go_wp2
    go_ret
    exact ⟨by rw [E.out]; rfl, rfl⟩
def barV : Array Value := #[.int .u8 32, .int .u8 34, .int .u8 38, .int .u8 39, .int .u8 47, .int .u8 58, .int .u8 60, .int .u8 62, .int .u8 64]
set_option maxRecDepth 100000 in
theorem barAt {k : Nat} (hk : k < 9) (w : World) : (Instr.index 65 (.agg #[.int .u8 32, .int .u8 34, .int .u8 38, .int .u8 39, .int .u8 47, .int .u8 58, .int .u8 60, .int .u8 62, .int .u8 64]) (.int .i64 k)).run Tryz.prog w = .ok (.int .u8 (barL.getD k 0 : Nat)) w := by
  have : k = 0 ∨ k = 1 ∨ k = 2 ∨ k = 3 ∨ k = 4 ∨ k = 5 ∨ k = 6 ∨ k = 7 ∨ k = 8 := by omega
  rcases this with rfl | rfl | rfl | rfl | rfl | rfl | rfl | rfl | rfl <;> rfl
set_option maxRecDepth 100000 in
theorem barF_hit {k c : Nat} (hk : k < 9) (h : barL.getD k 0 = c) : barF k c = true := by
  subst h
  have : k = 0 ∨ k = 1 ∨ k = 2 ∨ k = 3 ∨ k = 4 ∨ k = 5 ∨ k = 6 ∨ k = 7 ∨ k = 8 := by omega
  rcases this with rfl | rfl | rfl | rfl | rfl | rfl | rfl | rfl | rfl <;> rfl
set_option maxRecDepth 100000 in
theorem barF_miss {k c : Nat} (hk : k < 9) (h : barL.getD k 0 ≠ c) : barF k c = barF (k + 1) c := by
  have hl : k < barL.length := hk
  have e1 : barL.drop k = barL[k] :: barL.drop (k + 1) := List.drop_eq_getElem_cons hl
  have e2 : barL[k] = barL.getD k 0 := by rw [List.getD_eq_getElem?_getD, List.getElem?_eq_getElem hl]; rfl
  unfold barF
  rw [e1, List.any_cons, e2, beq_eq_false_iff_ne.2 h]
  rfl
set_option maxRecDepth 100000 in
theorem isBarred_any (c : Nat) (w : World) :
    Calls Tryz.prog 27 #[.int .u8 c] w fun e w' => e = .returned (.bool (bar c)) ∧ Below w.heap.size w w' := by
  have H0 : Hid (bar c = barF 0 c) := bar_F c
  have HB : Hid (∀ o : Obj, Below w.heap.size w (w.alloc o)) := fun o => (Below.refl _ w).alloc (Nat.le_refl _) _
  go_enter Tryz.func27, Tryz.ntmps27
  go_wp2_with fail
  go_loopw [8] (fun i wr => ∃ k : Nat, i = .int .i64 k ∧ k ≤ 9 ∧ Hid (bar c = barF k c) ∧ wr = w.alloc (.cells #[.int .u8 32, .int .u8 34, .int .u8 38, .int .u8 39, .int .u8 47, .int .u8 58, .int .u8 60, .int .u8 62, .int .u8 64] 65)) (fun i _ => 9 - (RowKit.intOf i).toNat)
  case atStart => exact ⟨0, rfl, by omega, H0.out, rfl⟩
  case round =>
    obtain ⟨k, rfl, hk, HN, rfl⟩ := hrel
    by_cases hk9 : k < 9
    · have hx := fun w => barAt hk9 w
      by_cases h : barL.getD k 0 = c
      · have E : Hid (bar c = true) := HN.out.trans (barF_hit hk9 h)
        rw [h] at hx
        clear HN h H0
        go_wp2_with fail
        go_ret
        exact ⟨by rw [E.out]; rfl, HB.out _⟩
      · have E : Hid (bar c = barF (k + 1) c) := HN.out.trans (barF_miss hk9 h)
        generalize hy : barL.getD k 0 = y at h hx
        have f : ((c : Int) == (y : Int)) = false := by rw [beq_eq_false_iff_ne]; omega
        clear HN h H0 hy
        go_wp2_with fail
        exact ⟨⟨k + 1, by go_num, by omega, E.out, trivial⟩, by simp [RowKit.intOf]; omega⟩
    · obtain rfl : k = 9 := by omega
      have E : Hid (bar c = false) := HN.out
      clear HN H0
      go_wp2_with fail
      go_ret
      exact ⟨by rw [E.out]; rfl, HB.out _⟩
set_option maxRecDepth 100000 in
theorem bytes_any (w : World) : Calls Tryz.prog 39 #[] w fun e w' => e = .returned (.string BS) ∧ w = w' := by
  go_enter Tryz.func39, Tryz.ntmps39
  go_wp2
  go_ret
  exact ⟨rfl, rfl⟩
/-- The ten texts of two digits, in a new list. -/
def DigP (w : World) (e : Ending) (w' : World) : Prop := ∃ B, e = .returned (.slice (some ⟨B, 0, none⟩) 10 10) ∧ (∀ k, k < 10 → w'.cell? ⟨B, k, none⟩ = some (.string (dtx k))) ∧ Below w.heap.size w w'
set_option maxRecDepth 100000 in
theorem digits_any (w : World) : Calls Tryz.prog 41 #[] w (DigP w) := by
  have HD : Hid (∀ w' : World, w' = w.alloc (.cells #[.string ⟨#[50, 48]⟩, .string ⟨#[50, 50]⟩, .string ⟨#[50, 54]⟩, .string ⟨#[50, 55]⟩, .string ⟨#[50, 102]⟩, .string ⟨#[51, 97]⟩, .string ⟨#[51, 99]⟩, .string ⟨#[51, 101]⟩, .string ⟨#[52, 48]⟩, .string ⟨#[53, 99]⟩] 9) → DigP w (.returned (.slice (some ⟨w.heap.size, 0, none⟩) 10 10)) w') := by
    rintro w' rfl
    refine ⟨_, rfl, fun k hk => ?_, (Below.refl _ w).alloc (Nat.le_refl _) _⟩
    rw [Lib.cell_of_heap (heap_alloc_new w _)]
    have : k = 0 ∨ k = 1 ∨ k = 2 ∨ k = 3 ∨ k = 4 ∨ k = 5 ∨ k = 6 ∨ k = 7 ∨ k = 8 ∨ k = 9 := by omega
    rcases this with rfl | rfl | rfl | rfl | rfl | rfl | rfl | rfl | rfl | rfl <;> rfl
  go_enter Tryz.func41, Tryz.ntmps41
  go_wp2_with fail
  go_ret
  exact HD.out _ rfl

end Go.Proofs.YthhmdkdpfeofjaaGreatDoor
