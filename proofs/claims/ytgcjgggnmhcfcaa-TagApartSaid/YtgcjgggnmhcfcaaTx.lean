/- Contracts of tag.Kid, Attr at the element of the laws' first line. No condition. -/
import Derived.Test.YtgcjgggnmhcfcaaTv
namespace Go.Proofs.Ytgcjgggnmhcfcaa
open Go.RowKit Go.Lib Go.Shelf Tg

/-- The first line's element as a value: its attributes in block g, its kid in block h. -/
def lv (g cap h : Nat) : Value := .agg #[.string ⟨#[97]⟩, .string ⟨#[98]⟩, .slice (some ⟨g, 0, none⟩) 1 cap, .string ⟨#[]⟩, .slice (some ⟨h, 0, none⟩) 1 1]
set_option maxRecDepth 100000 in
set_option maxHeartbeats 4000000 in
theorem attr_yes (g cap h : Nat) (w : World) (c0 : w.cell? ⟨g, 0, none⟩ = some (.string ⟨#[99]⟩)) (c1 : w.cell? ⟨g, 1, none⟩ = some (.string ⟨#[100, 39]⟩)) :
    Calls Try.prog 19 #[.agg #[.string ⟨#[97]⟩, .string ⟨#[98]⟩, .slice (some ⟨g, 0, none⟩) 1 cap, .string ⟨#[]⟩, .slice (some ⟨h, 0, none⟩) 1 1], .string ⟨#[99]⟩] w fun r w' => r = .returned (.string ⟨#[100, 39]⟩) ∧ Below w.heap.size w w' := by
  have C := Lib.hid (fun W => clone_any ⟨#[100, 39]⟩ W (by decide))
  have d0 := cell_alloc c0 (.cells #[.string ⟨#[97]⟩, .string ⟨#[98]⟩, .slice (some ⟨g, 0, none⟩) 1 cap, .string ⟨#[]⟩, .slice (some ⟨h, 0, none⟩) 1 1] 25)
  have d1 := cell_alloc c1 (.cells #[.string ⟨#[97]⟩, .string ⟨#[98]⟩, .slice (some ⟨g, 0, none⟩) 1 cap, .string ⟨#[]⟩, .slice (some ⟨h, 0, none⟩) 1 1] 25)
  go_enter Try.func19, Try.ntmps19
  go_wp2_with fail
  refine wp_loop_rounds 1 ?_
  rw [rounds_succ]
  go_wp2_with fail
  refine (C.out _).mono ?_
  rintro r w1 ⟨rfl, hb⟩
  have HB : Hid (Below w.heap.size w w1) := (((Below.refl _ w).alloc (Nat.le_refl _) _).alloc (by simp) _).trans (hb.mono (by simp; omega))
  clear hb
  go_wp2_with fail
  go_ret
  exact ⟨rfl, HB.out⟩
set_option maxRecDepth 100000 in
set_option maxHeartbeats 4000000 in
theorem attr_no (g cap h : Nat) (w : World) (c0 : w.cell? ⟨g, 0, none⟩ = some (.string ⟨#[99]⟩)) (c1 : w.cell? ⟨g, 1, none⟩ = some (.string ⟨#[100, 39]⟩)) :
    Calls Try.prog 19 #[.agg #[.string ⟨#[97]⟩, .string ⟨#[98]⟩, .slice (some ⟨g, 0, none⟩) 1 cap, .string ⟨#[]⟩, .slice (some ⟨h, 0, none⟩) 1 1], .string ⟨#[120]⟩] w fun r w' => r = .returned (.string ⟨#[]⟩) ∧ Below w.heap.size w w' := by
  have d0 := cell_alloc c0 (.cells #[.string ⟨#[97]⟩, .string ⟨#[98]⟩, .slice (some ⟨g, 0, none⟩) 1 cap, .string ⟨#[]⟩, .slice (some ⟨h, 0, none⟩) 1 1] 25)
  have d1 := cell_alloc c1 (.cells #[.string ⟨#[97]⟩, .string ⟨#[98]⟩, .slice (some ⟨g, 0, none⟩) 1 cap, .string ⟨#[]⟩, .slice (some ⟨h, 0, none⟩) 1 1] 25)
  have HB : Hid (∀ o, Below w.heap.size w ((w.alloc (.cells #[.string ⟨#[97]⟩, .string ⟨#[98]⟩, .slice (some ⟨g, 0, none⟩) 1 cap, .string ⟨#[]⟩, .slice (some ⟨h, 0, none⟩) 1 1] 25)).alloc o)) := fun o => ((Below.refl _ w).alloc (Nat.le_refl _) _).alloc (by simp) o
  go_enter Try.func19, Try.ntmps19
  go_wp2_with fail
  refine wp_loop_rounds 2 ?_
  rw [rounds_succ]
  go_wp2_with fail
  rw [rounds_succ]
  go_wp2_with fail
  go_ret
  exact ⟨rfl, HB.out _⟩
/-- A kid's five cells. -/
def KidC (h : Nat) (w : World) : Prop := w.heap[h]? = some (.cells #[.string ⟨#[97]⟩, .string ⟨#[107]⟩, .slice none 0 0, .string ⟨#[60]⟩, .slice none 0 0] 25 (0, 0))
set_option maxRecDepth 100000 in
set_option maxHeartbeats 4000000 in
theorem kid_yes (g cap h : Nat) (w : World) (hk : KidC h w) :
    Calls Try.prog 18 #[.agg #[.string ⟨#[97]⟩, .string ⟨#[98]⟩, .slice (some ⟨g, 0, none⟩) 1 cap, .string ⟨#[]⟩, .slice (some ⟨h, 0, none⟩) 1 1], .string ⟨#[97]⟩, .string ⟨#[107]⟩] w
      fun r w' => r = .returned (.tuple #[.agg #[.string ⟨#[97]⟩, .string ⟨#[107]⟩, .slice none 0 0, .string ⟨#[60]⟩, .slice none 0 0], .bool true]) ∧ Below w.heap.size w w' := by
  have C := Lib.hid (fun W => twin_live W)
  obtain ⟨c0, c1, c2, c3, c4⟩ := bx5 hk
  have hl := heap_lt hk
  have HW0 : Hid (Below w.heap.size w ((w.alloc (.cells #[.string ⟨#[97]⟩, .string ⟨#[98]⟩, .slice (some ⟨g, 0, none⟩) 1 cap, .string ⟨#[]⟩, .slice (some ⟨h, 0, none⟩) 1 1] 25)).alloc (.cells #[.string ⟨#[]⟩, .string ⟨#[]⟩, .slice none 0 0, .string ⟨#[]⟩, .slice none 0 0] 25))) := ((Below.refl _ w).alloc (Nat.le_refl _) _).alloc (by simp) _
  have HY0 : Hid (((w.alloc (.cells #[.string ⟨#[97]⟩, .string ⟨#[98]⟩, .slice (some ⟨g, 0, none⟩) 1 cap, .string ⟨#[]⟩, .slice (some ⟨h, 0, none⟩) 1 1] 25)).alloc (.cells #[.string ⟨#[]⟩, .string ⟨#[]⟩, .slice none 0 0, .string ⟨#[]⟩, .slice none 0 0] 25)).heap[w.heap.size + 1]? = some (.cells #[.string ⟨#[]⟩, .string ⟨#[]⟩, .slice none 0 0, .string ⟨#[]⟩, .slice none 0 0] 25 (0, 0))) := by
    have := box_new (w.alloc (.cells #[.string ⟨#[97]⟩, .string ⟨#[98]⟩, .slice (some ⟨g, 0, none⟩) 1 cap, .string ⟨#[]⟩, .slice (some ⟨h, 0, none⟩) 1 1] 25)) #[.string ⟨#[]⟩, .string ⟨#[]⟩, .slice none 0 0, .string ⟨#[]⟩, .slice none 0 0] 25
    show _ = _
    simpa using this
  have e0 := cell_alloc (cell_alloc c0 (.cells #[.string ⟨#[97]⟩, .string ⟨#[98]⟩, .slice (some ⟨g, 0, none⟩) 1 cap, .string ⟨#[]⟩, .slice (some ⟨h, 0, none⟩) 1 1] 25)) (.cells #[.string ⟨#[]⟩, .string ⟨#[]⟩, .slice none 0 0, .string ⟨#[]⟩, .slice none 0 0] 25)
  have e1 := cell_alloc (cell_alloc c1 (.cells #[.string ⟨#[97]⟩, .string ⟨#[98]⟩, .slice (some ⟨g, 0, none⟩) 1 cap, .string ⟨#[]⟩, .slice (some ⟨h, 0, none⟩) 1 1] 25)) (.cells #[.string ⟨#[]⟩, .string ⟨#[]⟩, .slice none 0 0, .string ⟨#[]⟩, .slice none 0 0] 25)
  have e2 := cell_alloc (cell_alloc c2 (.cells #[.string ⟨#[97]⟩, .string ⟨#[98]⟩, .slice (some ⟨g, 0, none⟩) 1 cap, .string ⟨#[]⟩, .slice (some ⟨h, 0, none⟩) 1 1] 25)) (.cells #[.string ⟨#[]⟩, .string ⟨#[]⟩, .slice none 0 0, .string ⟨#[]⟩, .slice none 0 0] 25)
  have e3 := cell_alloc (cell_alloc c3 (.cells #[.string ⟨#[97]⟩, .string ⟨#[98]⟩, .slice (some ⟨g, 0, none⟩) 1 cap, .string ⟨#[]⟩, .slice (some ⟨h, 0, none⟩) 1 1] 25)) (.cells #[.string ⟨#[]⟩, .string ⟨#[]⟩, .slice none 0 0, .string ⟨#[]⟩, .slice none 0 0] 25)
  have e4 := cell_alloc (cell_alloc c4 (.cells #[.string ⟨#[97]⟩, .string ⟨#[98]⟩, .slice (some ⟨g, 0, none⟩) 1 cap, .string ⟨#[]⟩, .slice (some ⟨h, 0, none⟩) 1 1] 25)) (.cells #[.string ⟨#[]⟩, .string ⟨#[]⟩, .slice none 0 0, .string ⟨#[]⟩, .slice none 0 0] 25)
  go_enter Try.func18, Try.ntmps18
  go_wp2_with fail
  refine wp_loop_rounds 1 ?_
  rw [rounds_succ]
  go_wp2_with fail
  refine (C.out _).mono ?_
  rintro r w1 ⟨rfl, hb⟩
  have HB : Hid (Below w.heap.size w w1) := (HW0.out.alloc (by simp; omega) _).trans (hb.mono (by simp; omega))
  have HY1 := Lib.hid ((hb.block (w.heap.size + 1) (by simp)).trans ((Below.heap_alloc _ _ _ (heap_lt HY0.out)).trans HY0.out))
  obtain ⟨q0, q1, q2, q3, q4⟩ := bx5 HY1.out
  have p0 := Lib.frozen_of_heap HY1.out 0
  have p1 := Lib.frozen_of_heap HY1.out 1
  have p2 := Lib.frozen_of_heap HY1.out 2
  have p3 := Lib.frozen_of_heap HY1.out 3
  have p4 := Lib.frozen_of_heap HY1.out 4
  clear hb c0 c1 c2 c3 c4 e0 e1 e2 e3 e4 HW0 HY0
  go_wp2_with fail
  exact bodyPost_ret (v := .tuple #[.agg #[.string ⟨#[97]⟩, .string ⟨#[107]⟩, .slice none 0 0, .string ⟨#[60]⟩, .slice none 0 0], .bool true]) (by simp [results, Try.results18, go_sem, q0, q1, q2, q3, q4]) rfl
    ⟨rfl, ((((HB.out.setCell (Nat.le_succ _) _).setCell (Nat.le_succ _) _).setCell (Nat.le_succ _) _).setCell (Nat.le_succ _) _).setCell (Nat.le_succ _) _⟩
set_option maxRecDepth 100000 in
set_option maxHeartbeats 4000000 in
theorem kid_no (g cap h : Nat) (w : World) (hk : KidC h w) :
    Calls Try.prog 18 #[.agg #[.string ⟨#[97]⟩, .string ⟨#[98]⟩, .slice (some ⟨g, 0, none⟩) 1 cap, .string ⟨#[]⟩, .slice (some ⟨h, 0, none⟩) 1 1], .string ⟨#[122]⟩, .string ⟨#[107]⟩] w
      fun r w' => r = .returned (.tuple #[.agg #[.string ⟨#[]⟩, .string ⟨#[]⟩, .slice none 0 0, .string ⟨#[]⟩, .slice none 0 0], .bool false]) ∧ Below w.heap.size w w' := by
  obtain ⟨c0, c1, c2, c3, c4⟩ := bx5 hk
  have hl := heap_lt hk
  have HW0 : Hid (∀ o, Below w.heap.size w (((w.alloc (.cells #[.string ⟨#[97]⟩, .string ⟨#[98]⟩, .slice (some ⟨g, 0, none⟩) 1 cap, .string ⟨#[]⟩, .slice (some ⟨h, 0, none⟩) 1 1] 25)).alloc (.cells #[.string ⟨#[]⟩, .string ⟨#[]⟩, .slice none 0 0, .string ⟨#[]⟩, .slice none 0 0] 25)).alloc o)) := fun o => (((Below.refl _ w).alloc (Nat.le_refl _) _).alloc (by simp) _).alloc (by simp; omega) o
  have e0 := cell_alloc (cell_alloc c0 (.cells #[.string ⟨#[97]⟩, .string ⟨#[98]⟩, .slice (some ⟨g, 0, none⟩) 1 cap, .string ⟨#[]⟩, .slice (some ⟨h, 0, none⟩) 1 1] 25)) (.cells #[.string ⟨#[]⟩, .string ⟨#[]⟩, .slice none 0 0, .string ⟨#[]⟩, .slice none 0 0] 25)
  have e1 := cell_alloc (cell_alloc c1 (.cells #[.string ⟨#[97]⟩, .string ⟨#[98]⟩, .slice (some ⟨g, 0, none⟩) 1 cap, .string ⟨#[]⟩, .slice (some ⟨h, 0, none⟩) 1 1] 25)) (.cells #[.string ⟨#[]⟩, .string ⟨#[]⟩, .slice none 0 0, .string ⟨#[]⟩, .slice none 0 0] 25)
  have e2 := cell_alloc (cell_alloc c2 (.cells #[.string ⟨#[97]⟩, .string ⟨#[98]⟩, .slice (some ⟨g, 0, none⟩) 1 cap, .string ⟨#[]⟩, .slice (some ⟨h, 0, none⟩) 1 1] 25)) (.cells #[.string ⟨#[]⟩, .string ⟨#[]⟩, .slice none 0 0, .string ⟨#[]⟩, .slice none 0 0] 25)
  have e3 := cell_alloc (cell_alloc c3 (.cells #[.string ⟨#[97]⟩, .string ⟨#[98]⟩, .slice (some ⟨g, 0, none⟩) 1 cap, .string ⟨#[]⟩, .slice (some ⟨h, 0, none⟩) 1 1] 25)) (.cells #[.string ⟨#[]⟩, .string ⟨#[]⟩, .slice none 0 0, .string ⟨#[]⟩, .slice none 0 0] 25)
  have e4 := cell_alloc (cell_alloc c4 (.cells #[.string ⟨#[97]⟩, .string ⟨#[98]⟩, .slice (some ⟨g, 0, none⟩) 1 cap, .string ⟨#[]⟩, .slice (some ⟨h, 0, none⟩) 1 1] 25)) (.cells #[.string ⟨#[]⟩, .string ⟨#[]⟩, .slice none 0 0, .string ⟨#[]⟩, .slice none 0 0] 25)
  go_enter Try.func18, Try.ntmps18
  go_wp2_with fail
  refine wp_loop_rounds 2 ?_
  rw [rounds_succ]
  go_wp2_with fail
  rw [rounds_succ]
  go_wp2_with fail
  exact bodyPost_ret (v := .tuple #[.agg #[.string ⟨#[]⟩, .string ⟨#[]⟩, .slice none 0 0, .string ⟨#[]⟩, .slice none 0 0], .bool false]) (by simp [results, Try.results18, go_sem]) rfl
    ⟨rfl, HW0.out _⟩
end Go.Proofs.Ytgcjgggnmhcfcaa
