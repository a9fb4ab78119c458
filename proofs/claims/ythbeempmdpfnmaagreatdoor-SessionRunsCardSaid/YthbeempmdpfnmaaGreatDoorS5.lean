/- Contracts: isUpward, isPassword. Condition: the table of steps holds what the program's text lays. -/
import Derived.Test.YthbeempmdpfnmaaGreatDoorS2
namespace Go.Proofs.YthbeempmdpfnmaaGreatDoor.T
open Go.RowKit Go.Lib

structure Gs (w : World) : Prop where
  c0 : w.cell? ⟨0, 0, none⟩ = some (.int .i64 5)
  c1 : w.cell? ⟨0, 1, none⟩ = some (.int .i64 13)
  c2 : w.cell? ⟨0, 2, none⟩ = some (.int .i64 5)
  c3 : w.cell? ⟨0, 3, none⟩ = some (.int .i64 14)
  c4 : w.cell? ⟨0, 4, none⟩ = some (.int .i64 5)
  c5 : w.cell? ⟨0, 5, none⟩ = some (.int .i64 16)
  c6 : w.cell? ⟨0, 6, none⟩ = some (.int .i64 5)
  c7 : w.cell? ⟨0, 7, none⟩ = some (.int .i64 18)
  c8 : w.cell? ⟨0, 8, none⟩ = some (.int .i64 5)
  c9 : w.cell? ⟨0, 9, none⟩ = some (.int .i64 19)
  c10 : w.cell? ⟨0, 10, none⟩ = some (.int .i64 5)
  c11 : w.cell? ⟨0, 11, none⟩ = some (.int .i64 25)
  c12 : w.cell? ⟨0, 12, none⟩ = some (.int .i64 5)
  c13 : w.cell? ⟨0, 13, none⟩ = some (.int .i64 27)
  c14 : w.cell? ⟨0, 14, none⟩ = some (.int .i64 5)
  c15 : w.cell? ⟨0, 15, none⟩ = some (.int .i64 29)
theorem Gs.pos {w : World} (h : Gs w) : 0 < w.heap.size := World.block_lt_of_cell? _ _ h.c0
theorem Gs.below {w w' : World} (h : Gs w) (hb : Below w.heap.size w w') : Gs w' :=
  ⟨(hb.cell (p := ⟨_, 0, none⟩) h.pos).trans h.c0, (hb.cell (p := ⟨_, 1, none⟩) h.pos).trans h.c1, (hb.cell (p := ⟨_, 2, none⟩) h.pos).trans h.c2, (hb.cell (p := ⟨_, 3, none⟩) h.pos).trans h.c3, (hb.cell (p := ⟨_, 4, none⟩) h.pos).trans h.c4, (hb.cell (p := ⟨_, 5, none⟩) h.pos).trans h.c5, (hb.cell (p := ⟨_, 6, none⟩) h.pos).trans h.c6, (hb.cell (p := ⟨_, 7, none⟩) h.pos).trans h.c7, (hb.cell (p := ⟨_, 8, none⟩) h.pos).trans h.c8, (hb.cell (p := ⟨_, 9, none⟩) h.pos).trans h.c9, (hb.cell (p := ⟨_, 10, none⟩) h.pos).trans h.c10, (hb.cell (p := ⟨_, 11, none⟩) h.pos).trans h.c11, (hb.cell (p := ⟨_, 12, none⟩) h.pos).trans h.c12, (hb.cell (p := ⟨_, 13, none⟩) h.pos).trans h.c13, (hb.cell (p := ⟨_, 14, none⟩) h.pos).trans h.c14, (hb.cell (p := ⟨_, 15, none⟩) h.pos).trans h.c15⟩
set_option maxRecDepth 100000 in
set_option maxHeartbeats 8000000 in
theorem isUpward_no (p k : Int) (w : World) (hG : Gs w) (hp : (p == 5) = false) : Calls Tryz.prog 40 #[.agg #[.int .i64 p, .int .i64 k]] w (Gives (.bool false) w) := by
  obtain ⟨HX, HB⟩ := bxOne w #[.int .i64 p, .int .i64 k] 69
  obtain ⟨c0, c1, c2, c3, c4, c5, c6, c7, c8, c9, c10, c11, c12, c13, c14, c15⟩ := hG.below HB.out
  clear hG
  have x0 : (w.alloc (.cells #[.int .i64 p, .int .i64 k] 69)).cell? ⟨w.heap.size, 0, none⟩ = some (.int .i64 p) := by rw [Lib.cell_of_heap HX.out]; rfl
  have x1 : (w.alloc (.cells #[.int .i64 p, .int .i64 k] 69)).cell? ⟨w.heap.size, 1, none⟩ = some (.int .i64 k) := by rw [Lib.cell_of_heap HX.out]; rfl
  go_enter Tryz.func40, Tryz.ntmps40
  go_wp2_with fail
  go_loopw [6] (fun i wr => Hid (wr.heap[w.heap.size]? = some (.cells #[.int .i64 p, .int .i64 k] 69 (0, 0))) ∧ Hid (Below w.heap.size w wr) ∧ ((i = .int .i64 0 ∧ Hid True) ∨ (i = .int .i64 1 ∧ Hid True) ∨ (i = .int .i64 2 ∧ Hid True) ∨ (i = .int .i64 3 ∧ Hid True) ∨ (i = .int .i64 4 ∧ Hid True) ∨ (i = .int .i64 5 ∧ Hid True) ∨ (i = .int .i64 6 ∧ Hid True) ∨ (i = .int .i64 7 ∧ Hid True) ∨ (i = .int .i64 8 ∧ Hid True))) (fun i _ => 8 - (RowKit.intOf i).toNat)
  case atStart => exact ⟨HX, HB, .inl ⟨rfl, trivial⟩⟩
  case round =>
    clear x0 x1 HX HB
    obtain ⟨HX, HB, hrel⟩ := hrel
    have x0 : wr.cell? ⟨w.heap.size, 0, none⟩ = some (.int .i64 p) := by rw [Lib.cell_of_heap HX.out]; rfl
    have x1 : wr.cell? ⟨w.heap.size, 1, none⟩ = some (.int .i64 k) := by rw [Lib.cell_of_heap HX.out]; rfl
    have hlt : w.heap.size < wr.heap.size := heap_lt HX.out
    have ix0 : ∀ W : World, (Instr.index 84 (Value.agg (#[.int .i64 5, .int .i64 13, .int .i64 5, .int .i64 14, .int .i64 5, .int .i64 16, .int .i64 5, .int .i64 18, .int .i64 5, .int .i64 19, .int .i64 5, .int .i64 25, .int .i64 5, .int .i64 27, .int .i64 5, .int .i64 29] : Array Value)) (.int .i64 0)).run Tryz.prog W = .ok (.agg #[.int .i64 5, .int .i64 13]) W := fun W => rfl
    have ix1 : ∀ W : World, (Instr.index 84 (Value.agg (#[.int .i64 5, .int .i64 13, .int .i64 5, .int .i64 14, .int .i64 5, .int .i64 16, .int .i64 5, .int .i64 18, .int .i64 5, .int .i64 19, .int .i64 5, .int .i64 25, .int .i64 5, .int .i64 27, .int .i64 5, .int .i64 29] : Array Value)) (.int .i64 1)).run Tryz.prog W = .ok (.agg #[.int .i64 5, .int .i64 14]) W := fun W => rfl
    have ix2 : ∀ W : World, (Instr.index 84 (Value.agg (#[.int .i64 5, .int .i64 13, .int .i64 5, .int .i64 14, .int .i64 5, .int .i64 16, .int .i64 5, .int .i64 18, .int .i64 5, .int .i64 19, .int .i64 5, .int .i64 25, .int .i64 5, .int .i64 27, .int .i64 5, .int .i64 29] : Array Value)) (.int .i64 2)).run Tryz.prog W = .ok (.agg #[.int .i64 5, .int .i64 16]) W := fun W => rfl
    have ix3 : ∀ W : World, (Instr.index 84 (Value.agg (#[.int .i64 5, .int .i64 13, .int .i64 5, .int .i64 14, .int .i64 5, .int .i64 16, .int .i64 5, .int .i64 18, .int .i64 5, .int .i64 19, .int .i64 5, .int .i64 25, .int .i64 5, .int .i64 27, .int .i64 5, .int .i64 29] : Array Value)) (.int .i64 3)).run Tryz.prog W = .ok (.agg #[.int .i64 5, .int .i64 18]) W := fun W => rfl
    have ix4 : ∀ W : World, (Instr.index 84 (Value.agg (#[.int .i64 5, .int .i64 13, .int .i64 5, .int .i64 14, .int .i64 5, .int .i64 16, .int .i64 5, .int .i64 18, .int .i64 5, .int .i64 19, .int .i64 5, .int .i64 25, .int .i64 5, .int .i64 27, .int .i64 5, .int .i64 29] : Array Value)) (.int .i64 4)).run Tryz.prog W = .ok (.agg #[.int .i64 5, .int .i64 19]) W := fun W => rfl
    have ix5 : ∀ W : World, (Instr.index 84 (Value.agg (#[.int .i64 5, .int .i64 13, .int .i64 5, .int .i64 14, .int .i64 5, .int .i64 16, .int .i64 5, .int .i64 18, .int .i64 5, .int .i64 19, .int .i64 5, .int .i64 25, .int .i64 5, .int .i64 27, .int .i64 5, .int .i64 29] : Array Value)) (.int .i64 5)).run Tryz.prog W = .ok (.agg #[.int .i64 5, .int .i64 25]) W := fun W => rfl
    have ix6 : ∀ W : World, (Instr.index 84 (Value.agg (#[.int .i64 5, .int .i64 13, .int .i64 5, .int .i64 14, .int .i64 5, .int .i64 16, .int .i64 5, .int .i64 18, .int .i64 5, .int .i64 19, .int .i64 5, .int .i64 25, .int .i64 5, .int .i64 27, .int .i64 5, .int .i64 29] : Array Value)) (.int .i64 6)).run Tryz.prog W = .ok (.agg #[.int .i64 5, .int .i64 27]) W := fun W => rfl
    have ix7 : ∀ W : World, (Instr.index 84 (Value.agg (#[.int .i64 5, .int .i64 13, .int .i64 5, .int .i64 14, .int .i64 5, .int .i64 16, .int .i64 5, .int .i64 18, .int .i64 5, .int .i64 19, .int .i64 5, .int .i64 25, .int .i64 5, .int .i64 27, .int .i64 5, .int .i64 29] : Array Value)) (.int .i64 7)).run Tryz.prog W = .ok (.agg #[.int .i64 5, .int .i64 29]) W := fun W => rfl
    rcases hrel with ⟨rfl, H0⟩ | ⟨rfl, H1⟩ | ⟨rfl, H2⟩ | ⟨rfl, H3⟩ | ⟨rfl, H4⟩ | ⟨rfl, H5⟩ | ⟨rfl, H6⟩ | ⟨rfl, H7⟩ | ⟨rfl, H8⟩
    · obtain ⟨HY2, HB2⟩ := bxOne wr #[.int .i64 5, .int .i64 13] 69
      go_wp2_with fail
      exact ⟨⟨kpB HB2.out HX, Lib.hid (HB.out.trans (HB2.out.mono HB.out.size)), .inr (.inl ⟨rfl, trivial⟩)⟩, by decide⟩
    · obtain ⟨HY2, HB2⟩ := bxOne wr #[.int .i64 5, .int .i64 14] 69
      go_wp2_with fail
      exact ⟨⟨kpB HB2.out HX, Lib.hid (HB.out.trans (HB2.out.mono HB.out.size)), .inr (.inr (.inl ⟨rfl, trivial⟩))⟩, by decide⟩
    · obtain ⟨HY2, HB2⟩ := bxOne wr #[.int .i64 5, .int .i64 16] 69
      go_wp2_with fail
      exact ⟨⟨kpB HB2.out HX, Lib.hid (HB.out.trans (HB2.out.mono HB.out.size)), .inr (.inr (.inr (.inl ⟨rfl, trivial⟩)))⟩, by decide⟩
    · obtain ⟨HY2, HB2⟩ := bxOne wr #[.int .i64 5, .int .i64 18] 69
      go_wp2_with fail
      exact ⟨⟨kpB HB2.out HX, Lib.hid (HB.out.trans (HB2.out.mono HB.out.size)), .inr (.inr (.inr (.inr (.inl ⟨rfl, trivial⟩))))⟩, by decide⟩
    · obtain ⟨HY2, HB2⟩ := bxOne wr #[.int .i64 5, .int .i64 19] 69
      go_wp2_with fail
      exact ⟨⟨kpB HB2.out HX, Lib.hid (HB.out.trans (HB2.out.mono HB.out.size)), .inr (.inr (.inr (.inr (.inr (.inl ⟨rfl, trivial⟩)))))⟩, by decide⟩
    · obtain ⟨HY2, HB2⟩ := bxOne wr #[.int .i64 5, .int .i64 25] 69
      go_wp2_with fail
      exact ⟨⟨kpB HB2.out HX, Lib.hid (HB.out.trans (HB2.out.mono HB.out.size)), .inr (.inr (.inr (.inr (.inr (.inr (.inl ⟨rfl, trivial⟩))))))⟩, by decide⟩
    · obtain ⟨HY2, HB2⟩ := bxOne wr #[.int .i64 5, .int .i64 27] 69
      go_wp2_with fail
      exact ⟨⟨kpB HB2.out HX, Lib.hid (HB.out.trans (HB2.out.mono HB.out.size)), .inr (.inr (.inr (.inr (.inr (.inr (.inr (.inl ⟨rfl, trivial⟩)))))))⟩, by decide⟩
    · obtain ⟨HY2, HB2⟩ := bxOne wr #[.int .i64 5, .int .i64 29] 69
      go_wp2_with fail
      exact ⟨⟨kpB HB2.out HX, Lib.hid (HB.out.trans (HB2.out.mono HB.out.size)), .inr (.inr (.inr (.inr (.inr (.inr (.inr (.inr ⟨rfl, trivial⟩)))))))⟩, by decide⟩
    · go_wp2_with fail
      go_ret
      exact ⟨rfl, HB.out⟩
set_option maxRecDepth 100000 in
set_option maxHeartbeats 8000000 in
theorem isUpward_yes (k : Int) (w : World) (hG : Gs w) : Calls Tryz.prog 40 #[.agg #[.int .i64 5, .int .i64 k]] w (Gives (.bool (upK k)) w) := by
  obtain ⟨HX, HB⟩ := bxOne w #[.int .i64 5, .int .i64 k] 69
  obtain ⟨c0, c1, c2, c3, c4, c5, c6, c7, c8, c9, c10, c11, c12, c13, c14, c15⟩ := hG.below HB.out
  clear hG
  have x0 : (w.alloc (.cells #[.int .i64 5, .int .i64 k] 69)).cell? ⟨w.heap.size, 0, none⟩ = some (.int .i64 5) := by rw [Lib.cell_of_heap HX.out]; rfl
  have x1 : (w.alloc (.cells #[.int .i64 5, .int .i64 k] 69)).cell? ⟨w.heap.size, 1, none⟩ = some (.int .i64 k) := by rw [Lib.cell_of_heap HX.out]; rfl
  have HY : Hid (∀ j : Nat, k = 13 ∨ k = 14 ∨ k = 16 ∨ k = 18 ∨ k = 19 ∨ k = 25 ∨ k = 27 ∨ k = 29 → upK k = true) := fun j h => by unfold upK; rcases h with h | h | h | h | h | h | h | h <;> (subst h; rfl)
  have HN : Hid ((k == 13) = false → (k == 14) = false → (k == 16) = false → (k == 18) = false → (k == 19) = false → (k == 25) = false → (k == 27) = false → (k == 29) = false → upK k = false) := fun h0 h1 h2 h3 h4 h5 h6 h7 => by unfold upK; rw [h0, h1, h2, h3, h4, h5, h6, h7]; rfl
  generalize upK k = ANS at HY HN ⊢
  go_enter Tryz.func40, Tryz.ntmps40
  go_wp2_with fail
  go_loopw [6] (fun i wr => Hid (wr.heap[w.heap.size]? = some (.cells #[.int .i64 5, .int .i64 k] 69 (0, 0))) ∧ Hid (Below w.heap.size w wr) ∧ ((i = .int .i64 0 ∧ Hid (True)) ∨ (i = .int .i64 1 ∧ Hid (True ∧ (k == 13) = false)) ∨ (i = .int .i64 2 ∧ Hid (True ∧ (k == 13) = false ∧ (k == 14) = false)) ∨ (i = .int .i64 3 ∧ Hid (True ∧ (k == 13) = false ∧ (k == 14) = false ∧ (k == 16) = false)) ∨ (i = .int .i64 4 ∧ Hid (True ∧ (k == 13) = false ∧ (k == 14) = false ∧ (k == 16) = false ∧ (k == 18) = false)) ∨ (i = .int .i64 5 ∧ Hid (True ∧ (k == 13) = false ∧ (k == 14) = false ∧ (k == 16) = false ∧ (k == 18) = false ∧ (k == 19) = false)) ∨ (i = .int .i64 6 ∧ Hid (True ∧ (k == 13) = false ∧ (k == 14) = false ∧ (k == 16) = false ∧ (k == 18) = false ∧ (k == 19) = false ∧ (k == 25) = false)) ∨ (i = .int .i64 7 ∧ Hid (True ∧ (k == 13) = false ∧ (k == 14) = false ∧ (k == 16) = false ∧ (k == 18) = false ∧ (k == 19) = false ∧ (k == 25) = false ∧ (k == 27) = false)) ∨ (i = .int .i64 8 ∧ Hid (True ∧ (k == 13) = false ∧ (k == 14) = false ∧ (k == 16) = false ∧ (k == 18) = false ∧ (k == 19) = false ∧ (k == 25) = false ∧ (k == 27) = false ∧ (k == 29) = false)))) (fun i _ => 8 - (RowKit.intOf i).toNat)
  case atStart => exact ⟨HX, HB, .inl ⟨rfl, trivial⟩⟩
  case round =>
    clear x0 x1 HX HB
    obtain ⟨HX, HB, hrel⟩ := hrel
    have x0 : wr.cell? ⟨w.heap.size, 0, none⟩ = some (.int .i64 5) := by rw [Lib.cell_of_heap HX.out]; rfl
    have x1 : wr.cell? ⟨w.heap.size, 1, none⟩ = some (.int .i64 k) := by rw [Lib.cell_of_heap HX.out]; rfl
    have hlt : w.heap.size < wr.heap.size := heap_lt HX.out
    have ix0 : ∀ W : World, (Instr.index 84 (Value.agg (#[.int .i64 5, .int .i64 13, .int .i64 5, .int .i64 14, .int .i64 5, .int .i64 16, .int .i64 5, .int .i64 18, .int .i64 5, .int .i64 19, .int .i64 5, .int .i64 25, .int .i64 5, .int .i64 27, .int .i64 5, .int .i64 29] : Array Value)) (.int .i64 0)).run Tryz.prog W = .ok (.agg #[.int .i64 5, .int .i64 13]) W := fun W => rfl
    have ix1 : ∀ W : World, (Instr.index 84 (Value.agg (#[.int .i64 5, .int .i64 13, .int .i64 5, .int .i64 14, .int .i64 5, .int .i64 16, .int .i64 5, .int .i64 18, .int .i64 5, .int .i64 19, .int .i64 5, .int .i64 25, .int .i64 5, .int .i64 27, .int .i64 5, .int .i64 29] : Array Value)) (.int .i64 1)).run Tryz.prog W = .ok (.agg #[.int .i64 5, .int .i64 14]) W := fun W => rfl
    have ix2 : ∀ W : World, (Instr.index 84 (Value.agg (#[.int .i64 5, .int .i64 13, .int .i64 5, .int .i64 14, .int .i64 5, .int .i64 16, .int .i64 5, .int .i64 18, .int .i64 5, .int .i64 19, .int .i64 5, .int .i64 25, .int .i64 5, .int .i64 27, .int .i64 5, .int .i64 29] : Array Value)) (.int .i64 2)).run Tryz.prog W = .ok (.agg #[.int .i64 5, .int .i64 16]) W := fun W => rfl
    have ix3 : ∀ W : World, (Instr.index 84 (Value.agg (#[.int .i64 5, .int .i64 13, .int .i64 5, .int .i64 14, .int .i64 5, .int .i64 16, .int .i64 5, .int .i64 18, .int .i64 5, .int .i64 19, .int .i64 5, .int .i64 25, .int .i64 5, .int .i64 27, .int .i64 5, .int .i64 29] : Array Value)) (.int .i64 3)).run Tryz.prog W = .ok (.agg #[.int .i64 5, .int .i64 18]) W := fun W => rfl
    have ix4 : ∀ W : World, (Instr.index 84 (Value.agg (#[.int .i64 5, .int .i64 13, .int .i64 5, .int .i64 14, .int .i64 5, .int .i64 16, .int .i64 5, .int .i64 18, .int .i64 5, .int .i64 19, .int .i64 5, .int .i64 25, .int .i64 5, .int .i64 27, .int .i64 5, .int .i64 29] : Array Value)) (.int .i64 4)).run Tryz.prog W = .ok (.agg #[.int .i64 5, .int .i64 19]) W := fun W => rfl
    have ix5 : ∀ W : World, (Instr.index 84 (Value.agg (#[.int .i64 5, .int .i64 13, .int .i64 5, .int .i64 14, .int .i64 5, .int .i64 16, .int .i64 5, .int .i64 18, .int .i64 5, .int .i64 19, .int .i64 5, .int .i64 25, .int .i64 5, .int .i64 27, .int .i64 5, .int .i64 29] : Array Value)) (.int .i64 5)).run Tryz.prog W = .ok (.agg #[.int .i64 5, .int .i64 25]) W := fun W => rfl
    have ix6 : ∀ W : World, (Instr.index 84 (Value.agg (#[.int .i64 5, .int .i64 13, .int .i64 5, .int .i64 14, .int .i64 5, .int .i64 16, .int .i64 5, .int .i64 18, .int .i64 5, .int .i64 19, .int .i64 5, .int .i64 25, .int .i64 5, .int .i64 27, .int .i64 5, .int .i64 29] : Array Value)) (.int .i64 6)).run Tryz.prog W = .ok (.agg #[.int .i64 5, .int .i64 27]) W := fun W => rfl
    have ix7 : ∀ W : World, (Instr.index 84 (Value.agg (#[.int .i64 5, .int .i64 13, .int .i64 5, .int .i64 14, .int .i64 5, .int .i64 16, .int .i64 5, .int .i64 18, .int .i64 5, .int .i64 19, .int .i64 5, .int .i64 25, .int .i64 5, .int .i64 27, .int .i64 5, .int .i64 29] : Array Value)) (.int .i64 7)).run Tryz.prog W = .ok (.agg #[.int .i64 5, .int .i64 29]) W := fun W => rfl
    rcases hrel with ⟨rfl, H0⟩ | ⟨rfl, H1⟩ | ⟨rfl, H2⟩ | ⟨rfl, H3⟩ | ⟨rfl, H4⟩ | ⟨rfl, H5⟩ | ⟨rfl, H6⟩ | ⟨rfl, H7⟩ | ⟨rfl, H8⟩
    · by_cases hk : k = 13
      · have HA := HY.out 0 (by omega)
        subst hk HA
        obtain ⟨HY2, HB2⟩ := bxOne wr #[.int .i64 5, .int .i64 13] 69
        go_wp2_with fail
        go_ret
        exact ⟨rfl, HB.out.trans (HB2.out.mono HB.out.size)⟩
      · have hk := beq_eq_false_iff_ne.2 hk
        obtain ⟨HY2, HB2⟩ := bxOne wr #[.int .i64 5, .int .i64 13] 69
        go_wp2_with fail
        exact ⟨⟨kpB HB2.out HX, Lib.hid (HB.out.trans (HB2.out.mono HB.out.size)), .inr (.inl ⟨rfl, ⟨trivial, hk⟩⟩)⟩, by decide⟩
    · by_cases hk : k = 14
      · have HA := HY.out 0 (by omega)
        subst hk HA
        obtain ⟨HY2, HB2⟩ := bxOne wr #[.int .i64 5, .int .i64 14] 69
        go_wp2_with fail
        go_ret
        exact ⟨rfl, HB.out.trans (HB2.out.mono HB.out.size)⟩
      · have hk := beq_eq_false_iff_ne.2 hk
        obtain ⟨HY2, HB2⟩ := bxOne wr #[.int .i64 5, .int .i64 14] 69
        go_wp2_with fail
        exact ⟨⟨kpB HB2.out HX, Lib.hid (HB.out.trans (HB2.out.mono HB.out.size)), .inr (.inr (.inl ⟨rfl, ⟨trivial, H1.out.2, hk⟩⟩))⟩, by decide⟩
    · by_cases hk : k = 16
      · have HA := HY.out 0 (by omega)
        subst hk HA
        obtain ⟨HY2, HB2⟩ := bxOne wr #[.int .i64 5, .int .i64 16] 69
        go_wp2_with fail
        go_ret
        exact ⟨rfl, HB.out.trans (HB2.out.mono HB.out.size)⟩
      · have hk := beq_eq_false_iff_ne.2 hk
        obtain ⟨HY2, HB2⟩ := bxOne wr #[.int .i64 5, .int .i64 16] 69
        go_wp2_with fail
        exact ⟨⟨kpB HB2.out HX, Lib.hid (HB.out.trans (HB2.out.mono HB.out.size)), .inr (.inr (.inr (.inl ⟨rfl, ⟨trivial, H2.out.2.1, H2.out.2.2, hk⟩⟩)))⟩, by decide⟩
    · by_cases hk : k = 18
      · have HA := HY.out 0 (by omega)
        subst hk HA
        obtain ⟨HY2, HB2⟩ := bxOne wr #[.int .i64 5, .int .i64 18] 69
        go_wp2_with fail
        go_ret
        exact ⟨rfl, HB.out.trans (HB2.out.mono HB.out.size)⟩
      · have hk := beq_eq_false_iff_ne.2 hk
        obtain ⟨HY2, HB2⟩ := bxOne wr #[.int .i64 5, .int .i64 18] 69
        go_wp2_with fail
        exact ⟨⟨kpB HB2.out HX, Lib.hid (HB.out.trans (HB2.out.mono HB.out.size)), .inr (.inr (.inr (.inr (.inl ⟨rfl, ⟨trivial, H3.out.2.1, H3.out.2.2.1, H3.out.2.2.2, hk⟩⟩))))⟩, by decide⟩
    · by_cases hk : k = 19
      · have HA := HY.out 0 (by omega)
        subst hk HA
        obtain ⟨HY2, HB2⟩ := bxOne wr #[.int .i64 5, .int .i64 19] 69
        go_wp2_with fail
        go_ret
        exact ⟨rfl, HB.out.trans (HB2.out.mono HB.out.size)⟩
      · have hk := beq_eq_false_iff_ne.2 hk
        obtain ⟨HY2, HB2⟩ := bxOne wr #[.int .i64 5, .int .i64 19] 69
        go_wp2_with fail
        exact ⟨⟨kpB HB2.out HX, Lib.hid (HB.out.trans (HB2.out.mono HB.out.size)), .inr (.inr (.inr (.inr (.inr (.inl ⟨rfl, ⟨trivial, H4.out.2.1, H4.out.2.2.1, H4.out.2.2.2.1, H4.out.2.2.2.2, hk⟩⟩)))))⟩, by decide⟩
    · by_cases hk : k = 25
      · have HA := HY.out 0 (by omega)
        subst hk HA
        obtain ⟨HY2, HB2⟩ := bxOne wr #[.int .i64 5, .int .i64 25] 69
        go_wp2_with fail
        go_ret
        exact ⟨rfl, HB.out.trans (HB2.out.mono HB.out.size)⟩
      · have hk := beq_eq_false_iff_ne.2 hk
        obtain ⟨HY2, HB2⟩ := bxOne wr #[.int .i64 5, .int .i64 25] 69
        go_wp2_with fail
        exact ⟨⟨kpB HB2.out HX, Lib.hid (HB.out.trans (HB2.out.mono HB.out.size)), .inr (.inr (.inr (.inr (.inr (.inr (.inl ⟨rfl, ⟨trivial, H5.out.2.1, H5.out.2.2.1, H5.out.2.2.2.1, H5.out.2.2.2.2.1, H5.out.2.2.2.2.2, hk⟩⟩))))))⟩, by decide⟩
    · by_cases hk : k = 27
      · have HA := HY.out 0 (by omega)
        subst hk HA
        obtain ⟨HY2, HB2⟩ := bxOne wr #[.int .i64 5, .int .i64 27] 69
        go_wp2_with fail
        go_ret
        exact ⟨rfl, HB.out.trans (HB2.out.mono HB.out.size)⟩
      · have hk := beq_eq_false_iff_ne.2 hk
        obtain ⟨HY2, HB2⟩ := bxOne wr #[.int .i64 5, .int .i64 27] 69
        go_wp2_with fail
        exact ⟨⟨kpB HB2.out HX, Lib.hid (HB.out.trans (HB2.out.mono HB.out.size)), .inr (.inr (.inr (.inr (.inr (.inr (.inr (.inl ⟨rfl, ⟨trivial, H6.out.2.1, H6.out.2.2.1, H6.out.2.2.2.1, H6.out.2.2.2.2.1, H6.out.2.2.2.2.2.1, H6.out.2.2.2.2.2.2, hk⟩⟩)))))))⟩, by decide⟩
    · by_cases hk : k = 29
      · have HA := HY.out 0 (by omega)
        subst hk HA
        obtain ⟨HY2, HB2⟩ := bxOne wr #[.int .i64 5, .int .i64 29] 69
        go_wp2_with fail
        go_ret
        exact ⟨rfl, HB.out.trans (HB2.out.mono HB.out.size)⟩
      · have hk := beq_eq_false_iff_ne.2 hk
        obtain ⟨HY2, HB2⟩ := bxOne wr #[.int .i64 5, .int .i64 29] 69
        go_wp2_with fail
        exact ⟨⟨kpB HB2.out HX, Lib.hid (HB.out.trans (HB2.out.mono HB.out.size)), .inr (.inr (.inr (.inr (.inr (.inr (.inr (.inr ⟨rfl, ⟨trivial, H7.out.2.1, H7.out.2.2.1, H7.out.2.2.2.1, H7.out.2.2.2.2.1, H7.out.2.2.2.2.2.1, H7.out.2.2.2.2.2.2.1, H7.out.2.2.2.2.2.2.2, hk⟩⟩)))))))⟩, by decide⟩
    · have HA := HN.out H8.out.2.1 H8.out.2.2.1 H8.out.2.2.2.1 H8.out.2.2.2.2.1 H8.out.2.2.2.2.2.1 H8.out.2.2.2.2.2.2.1 H8.out.2.2.2.2.2.2.2.1 H8.out.2.2.2.2.2.2.2.2
      subst HA
      go_wp2_with fail
      go_ret
      exact ⟨rfl, HB.out⟩
end Go.Proofs.YthbeempmdpfnmaaGreatDoor.T
