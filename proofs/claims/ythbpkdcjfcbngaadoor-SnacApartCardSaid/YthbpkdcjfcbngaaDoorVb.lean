/- Contracts: a head's numbers as an array (headOf, fits, put), whatever the snac. Condition: the table of widths holds what the program's text lays. -/
import Derived.Test.YthbpkdcjfcbngaaDoorVa
import Derived.OwnWalk
namespace Go.Proofs.YthbpkdcjfcbngaaDoor
open Go.RowKit Go.Lib

theorem heap_lt {w : World} {b : Nat} {o : Obj} (h : w.heap[b]? = some o) : b < w.heap.size := (Array.getElem?_eq_some_iff.1 h).1
theorem box_new (w : World) (cs : Array Value) (t : TypeId) : (w.alloc (.cells cs t)).heap[w.heap.size]? = some (.cells cs t (0, 0)) := heap_alloc_new w _
/-- What the laid variable is asked for. -/
structure Gd (w : World) : Prop where
  c0 : w.cell? ⟨0, 0, none⟩ = some (.int .i64 2)
  c1 : w.cell? ⟨0, 1, none⟩ = some (.int .i64 2)
  c2 : w.cell? ⟨0, 2, none⟩ = some (.int .i64 2)
  c3 : w.cell? ⟨0, 3, none⟩ = some (.int .i64 4)
theorem Gd.pos {w : World} (h : Gd w) : 0 < w.heap.size := World.block_lt_of_cell? _ _ h.c0
theorem Gd.below {w w' : World} (h : Gd w) (hb : Below w.heap.size w w') : Gd w' :=
  ⟨(hb.cell (p := ⟨_, 0, none⟩) h.pos).trans h.c0, (hb.cell (p := ⟨_, 1, none⟩) h.pos).trans h.c1, (hb.cell (p := ⟨_, 2, none⟩) h.pos).trans h.c2, (hb.cell (p := ⟨_, 3, none⟩) h.pos).trans h.c3⟩
theorem bx4 {w : World} {b : Nat} {v0 v1 v2 v3 : Value} {t : TypeId} (h : w.heap[b]? = some (.cells #[v0, v1, v2, v3] t (0, 0))) :
    (w.cell? ⟨b, 0, none⟩ = some v0 ∧ w.cell? ⟨b, 1, none⟩ = some v1 ∧ w.cell? ⟨b, 2, none⟩ = some v2 ∧ w.cell? ⟨b, 3, none⟩ = some v3) ∧ w.frozen? ⟨b, 0, none⟩ = false ∧ w.frozen? ⟨b, 1, none⟩ = false ∧ w.frozen? ⟨b, 2, none⟩ = false ∧ w.frozen? ⟨b, 3, none⟩ = false := by
  refine ⟨⟨?_, ?_, ?_, ?_⟩, ?_, ?_, ?_, ?_⟩
  iterate 4 (rw [Lib.cell_of_heap h]; rfl)
  all_goals simp [World.frozen?, h]
theorem bx5 {w : World} {b : Nat} {v0 v1 v2 v3 v4 : Value} {t : TypeId} (h : w.heap[b]? = some (.cells #[v0, v1, v2, v3, v4] t (0, 0))) :
    w.cell? ⟨b, 0, none⟩ = some v0 ∧ w.cell? ⟨b, 1, none⟩ = some v1 ∧ w.cell? ⟨b, 2, none⟩ = some v2 ∧ w.cell? ⟨b, 3, none⟩ = some v3 ∧ w.cell? ⟨b, 4, none⟩ = some v4 := by
  refine ⟨?_, ?_, ?_, ?_, ?_⟩
  all_goals (rw [Lib.cell_of_heap h]; rfl)
set_option maxRecDepth 100000 in
set_option maxHeartbeats 2000000 in
theorem headOf_any (f s g r : Int) (b : ByteArray) (w : World) : Calls Tryd.prog 17 #[.agg #[.int .i64 f, .int .i64 s, .int .i64 g, .int .i64 r, .string b]] w (Gives (.agg #[.int .i64 f, .int .i64 s, .int .i64 g, .int .i64 r]) w) := by
  have HB : Hid (∀ a c, Below w.heap.size w ((w.alloc (.cells a 23)).alloc (.cells c 42))) := fun a c => ((Below.refl _ w).alloc (Nat.le_refl _) _).alloc (by simp) _
  have HX : Hid (((w.alloc (.cells #[.int .i64 f, .int .i64 s, .int .i64 g, .int .i64 r, .string b] 23)).alloc (.cells #[.int .i64 f, .int .i64 s, .int .i64 g, .int .i64 r] 42)).heap[w.heap.size + 1]? = some (.cells #[.int .i64 f, .int .i64 s, .int .i64 g, .int .i64 r] 42 (0, 0))) := by
    have := box_new (w.alloc (.cells #[.int .i64 f, .int .i64 s, .int .i64 g, .int .i64 r, .string b] 23)) #[.int .i64 f, .int .i64 s, .int .i64 g, .int .i64 r] 42
    show _ = _
    simpa using this
  go_enter Tryd.func17, Tryd.ntmps17
  go_wp2_with fail
  exact bodyPost_ret (results_cell_row Tryd.results17 _ _ (w.heap.size + 1) 42 _ (0, 0) _ rfl HX.out Tryd.underlying42 rfl (by kernel_rfl)) rfl ⟨rfl, HB.out _ _⟩
set_option maxRecDepth 100000 in
set_option maxHeartbeats 8000000 in
theorem fits_any (f s g r : Int) (w : World) (hG : Gd w) : Calls Tryd.prog 23 #[.agg #[.int .i64 f, .int .i64 s, .int .i64 g, .int .i64 r]] w (Gives (.bool (fit f s g r)) w) := by
  have HB : Hid (Below w.heap.size w (w.alloc (.cells #[.int .i64 f, .int .i64 s, .int .i64 g, .int .i64 r] 42))) := (Below.refl _ w).alloc (Nat.le_refl _) _
  obtain ⟨k0, k1, k2, k3⟩ := hG.below HB.out
  clear hG
  have HY : Hid ((0 ≤ f ∧ f ≤ 65535) ∧ (0 ≤ s ∧ s ≤ 65535) ∧ (0 ≤ g ∧ g ≤ 65535) ∧ (0 ≤ r ∧ r ≤ 4294967295) → fit f s g r = true) := fun h => fit_iff.2 h
  have HN : Hid (¬ ((0 ≤ f ∧ f ≤ 65535) ∧ (0 ≤ s ∧ s ≤ 65535) ∧ (0 ≤ g ∧ g ≤ 65535) ∧ 0 ≤ r ∧ r ≤ 4294967295) → fit f s g r = false) := fun h => fit_no h
  generalize fit f s g r = ANS at HY HN ⊢
  go_enter Tryd.func23, Tryd.ntmps23
  go_wp2_with fail
  go_loopw [6] (fun i wr => wr = w.alloc (.cells #[.int .i64 f, .int .i64 s, .int .i64 g, .int .i64 r] 42) ∧ ((i = .int .i64 0 ∧ Hid (True)) ∨ (i = .int .i64 1 ∧ Hid (True ∧ (0 ≤ f ∧ f ≤ 65535))) ∨ (i = .int .i64 2 ∧ Hid (True ∧ (0 ≤ f ∧ f ≤ 65535) ∧ (0 ≤ s ∧ s ≤ 65535))) ∨ (i = .int .i64 3 ∧ Hid (True ∧ (0 ≤ f ∧ f ≤ 65535) ∧ (0 ≤ s ∧ s ≤ 65535) ∧ (0 ≤ g ∧ g ≤ 65535))) ∨ (i = .int .i64 4 ∧ Hid (True ∧ (0 ≤ f ∧ f ≤ 65535) ∧ (0 ≤ s ∧ s ≤ 65535) ∧ (0 ≤ g ∧ g ≤ 65535) ∧ (0 ≤ r ∧ r ≤ 4294967295))))) (fun i _ => 4 - (RowKit.intOf i).toNat)
  case atStart => exact ⟨rfl, .inl ⟨rfl, trivial⟩⟩
  case round =>
    obtain ⟨rfl, hrel⟩ := hrel
    have ix0 : ∀ W : World, (Instr.index 42 (Value.agg (#[.int .i64 f, .int .i64 s, .int .i64 g, .int .i64 r] : Array Value)) (.int .i64 0)).run Tryd.prog W = .ok (.int .i64 f) W := fun W => rfl
    have ix1 : ∀ W : World, (Instr.index 42 (Value.agg (#[.int .i64 f, .int .i64 s, .int .i64 g, .int .i64 r] : Array Value)) (.int .i64 1)).run Tryd.prog W = .ok (.int .i64 s) W := fun W => rfl
    have ix2 : ∀ W : World, (Instr.index 42 (Value.agg (#[.int .i64 f, .int .i64 s, .int .i64 g, .int .i64 r] : Array Value)) (.int .i64 2)).run Tryd.prog W = .ok (.int .i64 g) W := fun W => rfl
    have ix3 : ∀ W : World, (Instr.index 42 (Value.agg (#[.int .i64 f, .int .i64 s, .int .i64 g, .int .i64 r] : Array Value)) (.int .i64 3)).run Tryd.prog W = .ok (.int .i64 r) W := fun W => rfl
    rcases hrel with ⟨rfl, H0⟩ | ⟨rfl, H1⟩ | ⟨rfl, H2⟩ | ⟨rfl, H3⟩ | ⟨rfl, H4⟩
    · by_cases h1 : f < 0
      · have q1 : ¬ (0 ≤ f ∧ f ≤ 65535) := by omega
        have HQ := Lib.hid q1
        clear q1
        go_wp2_with fail
        go_ret
        exact ⟨by rw [HN.out (fun h => HQ.out h.1)]; rfl, HB.out⟩
      · by_cases h2 : 65536 ≤ f
        · have HQ : Hid (¬ (0 ≤ f ∧ f ≤ 65535)) := fun h => by omega
          go_wp2_with fail
          go_ret
          exact ⟨by rw [HN.out (fun h => HQ.out h.1)]; rfl, HB.out⟩
        · have HQ : Hid (0 ≤ f ∧ f ≤ 65535) := ⟨by omega, by omega⟩
          go_wp2_with fail
          exact ⟨⟨trivial, .inr (.inl ⟨rfl, by have h0 := H0.out; have h1 := HQ.out; show _ ∧ _; simp only [true_and] at h0 ⊢; exact h1⟩)⟩, by decide⟩
    · by_cases h1 : s < 0
      · have q1 : ¬ (0 ≤ s ∧ s ≤ 65535) := by omega
        have HQ := Lib.hid q1
        clear q1
        go_wp2_with fail
        go_ret
        exact ⟨by rw [HN.out (fun h => HQ.out h.2.1)]; rfl, HB.out⟩
      · by_cases h2 : 65536 ≤ s
        · have HQ : Hid (¬ (0 ≤ s ∧ s ≤ 65535)) := fun h => by omega
          go_wp2_with fail
          go_ret
          exact ⟨by rw [HN.out (fun h => HQ.out h.2.1)]; rfl, HB.out⟩
        · have HQ : Hid (0 ≤ s ∧ s ≤ 65535) := ⟨by omega, by omega⟩
          go_wp2_with fail
          exact ⟨⟨trivial, .inr (.inr (.inl ⟨rfl, by have h0 := H1.out; have h1 := HQ.out; show _ ∧ _; simp only [true_and] at h0 ⊢; exact ⟨h0, h1⟩⟩))⟩, by decide⟩
    · by_cases h1 : g < 0
      · have q1 : ¬ (0 ≤ g ∧ g ≤ 65535) := by omega
        have HQ := Lib.hid q1
        clear q1
        go_wp2_with fail
        go_ret
        exact ⟨by rw [HN.out (fun h => HQ.out h.2.2.1)]; rfl, HB.out⟩
      · by_cases h2 : 65536 ≤ g
        · have HQ : Hid (¬ (0 ≤ g ∧ g ≤ 65535)) := fun h => by omega
          go_wp2_with fail
          go_ret
          exact ⟨by rw [HN.out (fun h => HQ.out h.2.2.1)]; rfl, HB.out⟩
        · have HQ : Hid (0 ≤ g ∧ g ≤ 65535) := ⟨by omega, by omega⟩
          go_wp2_with fail
          exact ⟨⟨trivial, .inr (.inr (.inr (.inl ⟨rfl, by have h0 := H2.out; have h1 := HQ.out; show _ ∧ _; simp only [true_and] at h0 ⊢; exact ⟨h0.1, h0.2, h1⟩⟩)))⟩, by decide⟩
    · by_cases h1 : r < 0
      · have q1 : ¬ (0 ≤ r ∧ r ≤ 4294967295) := by omega
        have HQ := Lib.hid q1
        clear q1
        go_wp2_with fail
        go_ret
        exact ⟨by rw [HN.out (fun h => HQ.out h.2.2.2)]; rfl, HB.out⟩
      · by_cases h2 : 4294967296 ≤ r
        · have HQ : Hid (¬ (0 ≤ r ∧ r ≤ 4294967295)) := fun h => by omega
          go_wp2_with fail
          go_ret
          exact ⟨by rw [HN.out (fun h => HQ.out h.2.2.2)]; rfl, HB.out⟩
        · have HQ : Hid (0 ≤ r ∧ r ≤ 4294967295) := ⟨by omega, by omega⟩
          go_wp2_with fail
          exact ⟨⟨trivial, .inr (.inr (.inr (.inr (⟨rfl, by have h0 := H3.out; have h1 := HQ.out; show _ ∧ _; simp only [true_and] at h0 ⊢; exact ⟨h0.1, h0.2.1, h0.2.2, h1⟩⟩))))⟩, by decide⟩
    · go_wp2_with fail
      go_ret
      exact ⟨by rw [HY.out (by have h0 := H4.out; simp only [true_and] at h0; exact h0)]; rfl, HB.out⟩
end Go.Proofs.YthbpkdcjfcbngaaDoor
