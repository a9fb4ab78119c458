/- Contracts of package snac's small functions. Conditions: those of each theorem's head. -/
import Derived.Test.YtiodjaeonoheiaaGreatDoorVz
import Derived.Test.YtiodjaeonoheiaaGreatDoorTc
import Derived.OwnWalk
set_option maxRecDepth 100000
set_option maxHeartbeats 8000000
namespace Go.Proofs.YtiodjaeonoheiaaGreatDoor.T.Q
open Go.RowKit Go.Lib
theorem heap_lt {w : World} {b : Nat} {o : Obj} (h : w.heap[b]? = some o) : b < w.heap.size := (Array.getElem?_eq_some_iff.1 h).1
theorem box_new (w : World) (cs : Array Value) (t : TypeId) : (w.alloc (.cells cs t)).heap[w.heap.size]? = some (.cells cs t (0, 0)) := heap_alloc_new w _
structure Gd (w : World) : Prop where
  c0 : w.cell? ⟨1, 0, none⟩ = some (.int .i64 2)
  c1 : w.cell? ⟨1, 1, none⟩ = some (.int .i64 2)
  c2 : w.cell? ⟨1, 2, none⟩ = some (.int .i64 2)
  c3 : w.cell? ⟨1, 3, none⟩ = some (.int .i64 4)
theorem Gd.pos {w : World} (h : Gd w) : 1 < w.heap.size := World.block_lt_of_cell? _ _ h.c0
theorem Gd.below {w w' : World} (h : Gd w) (hb : Below w.heap.size w w') : Gd w' :=
  ⟨(hb.cell (p := ⟨_, 0, none⟩) h.pos).trans h.c0, (hb.cell (p := ⟨_, 1, none⟩) h.pos).trans h.c1, (hb.cell (p := ⟨_, 2, none⟩) h.pos).trans h.c2, (hb.cell (p := ⟨_, 3, none⟩) h.pos).trans h.c3⟩
theorem bx4 {w : World} {b : Nat} {v0 v1 v2 v3 : Value} {t : TypeId} (h : w.heap[b]? = some (.cells #[v0, v1, v2, v3] t (0, 0))) :
    (w.cell? ⟨b, 0, none⟩ = some v0 ∧ w.cell? ⟨b, 1, none⟩ = some v1 ∧ w.cell? ⟨b, 2, none⟩ = some v2 ∧ w.cell? ⟨b, 3, none⟩ = some v3) ∧ w.frozen? ⟨b, 0, none⟩ = false ∧ w.frozen? ⟨b, 1, none⟩ = false ∧ w.frozen? ⟨b, 2, none⟩ = false ∧ w.frozen? ⟨b, 3, none⟩ = false := by
  refine ⟨⟨?_, ?_, ?_, ?_⟩, ?_, ?_, ?_, ?_⟩
  iterate 4 (rw [Lib.cell_of_heap h]; rfl)
  all_goals simp [World.frozen?, h]
theorem bx5 {w : World} {b : Nat} {v0 v1 v2 v3 v4 : Value} {t : TypeId} (h : w.heap[b]? = some (.cells #[v0, v1, v2, v3, v4] t (0, 0))) :
    w.cell? ⟨b, 0, none⟩ = some v0 ∧ w.cell? ⟨b, 1, none⟩ = some v1 ∧ w.cell? ⟨b, 2, none⟩ = some v2 ∧ w.cell? ⟨b, 3, none⟩ = some v3 ∧ w.cell? ⟨b, 4, none⟩ = some v4 := by
  refine ⟨?_, ?_, ?_, ?_, ?_⟩
  all_goals (rw [Lib.cell_of_heap h]; rfl)
theorem headOf_any (f s g r : Int) (b : ByteArray) (w : World) : Calls Tryz.prog 44 #[.agg #[.int .i64 f, .int .i64 s, .int .i64 g, .int .i64 r, .string b]] w (Gives (.agg #[.int .i64 f, .int .i64 s, .int .i64 g, .int .i64 r]) w) := by
  have HB : Hid (∀ a c, Below w.heap.size w ((w.alloc (.cells a 54)).alloc (.cells c 84))) := fun a c => ((Below.refl _ w).alloc (Nat.le_refl _) _).alloc (by simp) _
  have HX : Hid (((w.alloc (.cells #[.int .i64 f, .int .i64 s, .int .i64 g, .int .i64 r, .string b] 54)).alloc (.cells #[.int .i64 f, .int .i64 s, .int .i64 g, .int .i64 r] 84)).heap[w.heap.size + 1]? = some (.cells #[.int .i64 f, .int .i64 s, .int .i64 g, .int .i64 r] 84 (0, 0))) := by
    have := box_new (w.alloc (.cells #[.int .i64 f, .int .i64 s, .int .i64 g, .int .i64 r, .string b] 54)) #[.int .i64 f, .int .i64 s, .int .i64 g, .int .i64 r] 84
    show _ = _
    simpa using this
  go_enter Tryz.func44, Tryz.ntmps44
  go_wp2_with fail
  exact bodyPost_ret (results_cell_row Tryz.results44 _ _ (w.heap.size + 1) 84 _ (0, 0) _ rfl HX.out Tryz.underlying84 rfl (by kernel_rfl)) rfl ⟨rfl, HB.out _ _⟩
theorem fits_any (f s g r : Int) (w : World) (hG : Gd w) : Calls Tryz.prog 82 #[.agg #[.int .i64 f, .int .i64 s, .int .i64 g, .int .i64 r]] w (Gives (.bool (fit f s g r)) w) := by
  have HB : Hid (Below w.heap.size w (w.alloc (.cells #[.int .i64 f, .int .i64 s, .int .i64 g, .int .i64 r] 84))) := (Below.refl _ w).alloc (Nat.le_refl _) _
  obtain ⟨k0, k1, k2, k3⟩ := hG.below HB.out
  clear hG
  have HY : Hid ((0 ≤ f ∧ f ≤ 65535) ∧ (0 ≤ s ∧ s ≤ 65535) ∧ (0 ≤ g ∧ g ≤ 65535) ∧ (0 ≤ r ∧ r ≤ 4294967295) → fit f s g r = true) := fun h => fit_iff.2 h
  have HN : Hid (¬ ((0 ≤ f ∧ f ≤ 65535) ∧ (0 ≤ s ∧ s ≤ 65535) ∧ (0 ≤ g ∧ g ≤ 65535) ∧ 0 ≤ r ∧ r ≤ 4294967295) → fit f s g r = false) := fun h => fit_no h
  generalize fit f s g r = ANS at HY HN ⊢
  go_enter Tryz.func82, Tryz.ntmps82
  go_wp2_with fail
  go_loopw [6] (fun i wr => wr = w.alloc (.cells #[.int .i64 f, .int .i64 s, .int .i64 g, .int .i64 r] 84) ∧ ((i = .int .i64 0 ∧ Hid (True)) ∨ (i = .int .i64 1 ∧ Hid (True ∧ (0 ≤ f ∧ f ≤ 65535))) ∨ (i = .int .i64 2 ∧ Hid (True ∧ (0 ≤ f ∧ f ≤ 65535) ∧ (0 ≤ s ∧ s ≤ 65535))) ∨ (i = .int .i64 3 ∧ Hid (True ∧ (0 ≤ f ∧ f ≤ 65535) ∧ (0 ≤ s ∧ s ≤ 65535) ∧ (0 ≤ g ∧ g ≤ 65535))) ∨ (i = .int .i64 4 ∧ Hid (True ∧ (0 ≤ f ∧ f ≤ 65535) ∧ (0 ≤ s ∧ s ≤ 65535) ∧ (0 ≤ g ∧ g ≤ 65535) ∧ (0 ≤ r ∧ r ≤ 4294967295))))) (fun i _ => 4 - (RowKit.intOf i).toNat)
  case atStart => exact ⟨rfl, .inl ⟨rfl, trivial⟩⟩
  case round =>
    obtain ⟨rfl, hrel⟩ := hrel
    have ix0 : ∀ W : World, (Instr.index 84 (Value.agg (#[.int .i64 f, .int .i64 s, .int .i64 g, .int .i64 r] : Array Value)) (.int .i64 0)).run Tryz.prog W = .ok (.int .i64 f) W := fun W => rfl
    have ix1 : ∀ W : World, (Instr.index 84 (Value.agg (#[.int .i64 f, .int .i64 s, .int .i64 g, .int .i64 r] : Array Value)) (.int .i64 1)).run Tryz.prog W = .ok (.int .i64 s) W := fun W => rfl
    have ix2 : ∀ W : World, (Instr.index 84 (Value.agg (#[.int .i64 f, .int .i64 s, .int .i64 g, .int .i64 r] : Array Value)) (.int .i64 2)).run Tryz.prog W = .ok (.int .i64 g) W := fun W => rfl
    have ix3 : ∀ W : World, (Instr.index 84 (Value.agg (#[.int .i64 f, .int .i64 s, .int .i64 g, .int .i64 r] : Array Value)) (.int .i64 3)).run Tryz.prog W = .ok (.int .i64 r) W := fun W => rfl
    rcases hrel with ⟨rfl, H0⟩ | ⟨rfl, H1⟩ | ⟨rfl, H2⟩ | ⟨rfl, H3⟩ | ⟨rfl, H4⟩
    · by_cases h1 : f < 0
      · have q1 : ¬ (0 ≤ f ∧ f ≤ 65535) := by omega
        have HQ := Lib.hid q1
        clear q1
        go_wp2_with fail
        go_ret
        exact ⟨by rw [HN.out (fun h => HQ.out h.1)]; rfl, HB.out⟩
      · by_cases h2 : 65536 ≤ f
        · have HQ : Hid (¬ (0 ≤ f ∧ f ≤ 65535)) := fun h => by omega
          go_wp2_with fail
          go_ret
          exact ⟨by rw [HN.out (fun h => HQ.out h.1)]; rfl, HB.out⟩
        · have HQ : Hid (0 ≤ f ∧ f ≤ 65535) := ⟨by omega, by omega⟩
          go_wp2_with fail
          exact ⟨⟨trivial, .inr (.inl ⟨rfl, by have h0 := H0.out; have h1 := HQ.out; show _ ∧ _; simp only [true_and] at h0 ⊢; exact h1⟩)⟩, by decide⟩
    · by_cases h1 : s < 0
      · have q1 : ¬ (0 ≤ s ∧ s ≤ 65535) := by omega
        have HQ := Lib.hid q1
        clear q1
        go_wp2_with fail
        go_ret
        exact ⟨by rw [HN.out (fun h => HQ.out h.2.1)]; rfl, HB.out⟩
      · by_cases h2 : 65536 ≤ s
        · have HQ : Hid (¬ (0 ≤ s ∧ s ≤ 65535)) := fun h => by omega
          go_wp2_with fail
          go_ret
          exact ⟨by rw [HN.out (fun h => HQ.out h.2.1)]; rfl, HB.out⟩
        · have HQ : Hid (0 ≤ s ∧ s ≤ 65535) := ⟨by omega, by omega⟩
          go_wp2_with fail
          exact ⟨⟨trivial, .inr (.inr (.inl ⟨rfl, by have h0 := H1.out; have h1 := HQ.out; show _ ∧ _; simp only [true_and] at h0 ⊢; exact ⟨h0, h1⟩⟩))⟩, by decide⟩
    · by_cases h1 : g < 0
      · have q1 : ¬ (0 ≤ g ∧ g ≤ 65535) := by omega
        have HQ := Lib.hid q1
        clear q1
        go_wp2_with fail
        go_ret
        exact ⟨by rw [HN.out (fun h => HQ.out h.2.2.1)]; rfl, HB.out⟩
      · by_cases h2 : 65536 ≤ g
        · have HQ : Hid (¬ (0 ≤ g ∧ g ≤ 65535)) := fun h => by omega
          go_wp2_with fail
          go_ret
          exact ⟨by rw [HN.out (fun h => HQ.out h.2.2.1)]; rfl, HB.out⟩
        · have HQ : Hid (0 ≤ g ∧ g ≤ 65535) := ⟨by omega, by omega⟩
          go_wp2_with fail
          exact ⟨⟨trivial, .inr (.inr (.inr (.inl ⟨rfl, by have h0 := H2.out; have h1 := HQ.out; show _ ∧ _; simp only [true_and] at h0 ⊢; exact ⟨h0.1, h0.2, h1⟩⟩)))⟩, by decide⟩
    · by_cases h1 : r < 0
      · have q1 : ¬ (0 ≤ r ∧ r ≤ 4294967295) := by omega
        have HQ := Lib.hid q1
        clear q1
        go_wp2_with fail
        go_ret
        exact ⟨by rw [HN.out (fun h => HQ.out h.2.2.2)]; rfl, HB.out⟩
      · by_cases h2 : 4294967296 ≤ r
        · have HQ : Hid (¬ (0 ≤ r ∧ r ≤ 4294967295)) := fun h => by omega
          go_wp2_with fail
          go_ret
          exact ⟨by rw [HN.out (fun h => HQ.out h.2.2.2)]; rfl, HB.out⟩
        · have HQ : Hid (0 ≤ r ∧ r ≤ 4294967295) := ⟨by omega, by omega⟩
          go_wp2_with fail
          exact ⟨⟨trivial, .inr (.inr (.inr (.inr (⟨rfl, by have h0 := H3.out; have h1 := HQ.out; show _ ∧ _; simp only [true_and] at h0 ⊢; exact ⟨h0.1, h0.2.1, h0.2.2, h1⟩⟩))))⟩, by decide⟩
    · go_wp2_with fail
      go_ret
      exact ⟨by rw [HY.out (by have h0 := H4.out; simp only [true_and] at h0; exact h0)]; rfl, HB.out⟩
end Go.Proofs.YtiodjaeonoheiaaGreatDoor.T.Q
namespace Go.Proofs.YtiodjaeonoheiaaGreatDoor.T.Q
open Go.RowKit Go.Lib
theorem nil_app (a : ByteArray) : (⟨#[]⟩ : ByteArray) ++ a = a := by
  apply By.bytes_ext
  rw [By.append_list]
  rfl
theorem Gd.all {w : World} (h : Gd w) : ∀ W, Below w.heap.size w W → Gd W := fun _ hb => h.below hb
theorem hput_any (f s g r : Int) (w : World) (hG : Gd w) : Calls Tryz.prog 45 #[.agg #[.int .i64 f, .int .i64 s, .int .i64 g, .int .i64 r]] w (Gives (.string (hdS f s g r)) w) := by
  have HB : Hid (Below w.heap.size w (w.alloc (.cells #[.int .i64 f, .int .i64 s, .int .i64 g, .int .i64 r] 84))) := (Below.refl _ w).alloc (Nat.le_refl _) _
  have HG := Lib.hid hG.all
  clear hG
  have C0 := Lib.hid (fun W => int_any f 2 W)
  have z0 := intS_len f 2
  have C1 := Lib.hid (fun W => int_any s 2 W)
  have z1 := intS_len s 2
  have C2 := Lib.hid (fun W => int_any g 2 W)
  have z2 := intS_len g 2
  have C3 := Lib.hid (fun W => int_any r 4 W)
  have z3 := intS_len r 4
  unfold hdS
  generalize intS f 2 = A0 at C0 z0 ⊢
  generalize intE f 2 = E0 at C0
  generalize intS s 2 = A1 at C1 z1 ⊢
  generalize intE s 2 = E1 at C1
  generalize intS g 2 = A2 at C2 z2 ⊢
  generalize intE g 2 = E2 at C2
  generalize intS r 4 = A3 at C3 z3 ⊢
  generalize intE r 4 = E3 at C3
  have HE : Hid ((⟨#[]⟩ : ByteArray) ++ A0 = A0) := nil_app A0
  go_enter Tryz.func45, Tryz.ntmps45
  go_wp2_with fail
  go_loopw [3, 9] (fun b i wr => Hid (Below w.heap.size w wr) ∧ ((i = .int .i64 0 ∧ b = .string ⟨#[]⟩) ∨ (i = .int .i64 1 ∧ b = .string A0) ∨ (i = .int .i64 2 ∧ b = .string (A0 ++ A1)) ∨ (i = .int .i64 3 ∧ b = .string (A0 ++ A1 ++ A2)) ∨ (i = .int .i64 4 ∧ b = .string (A0 ++ A1 ++ A2 ++ A3)))) (fun _ i _ => 4 - (RowKit.intOf i).toNat)
  case atStart => exact ⟨HB.out, .inl ⟨rfl, rfl⟩⟩
  case round =>
    clear HB
    obtain ⟨HB, hrel⟩ := hrel
    have ix0 : ∀ W : World, (Instr.index 84 (.agg (#[.int .i64 f, .int .i64 s, .int .i64 g, .int .i64 r] : Array Value)) (.int .i64 0)).run Tryz.prog W = .ok (.int .i64 f) W := fun W => rfl
    have ix1 : ∀ W : World, (Instr.index 84 (.agg (#[.int .i64 f, .int .i64 s, .int .i64 g, .int .i64 r] : Array Value)) (.int .i64 1)).run Tryz.prog W = .ok (.int .i64 s) W := fun W => rfl
    have ix2 : ∀ W : World, (Instr.index 84 (.agg (#[.int .i64 f, .int .i64 s, .int .i64 g, .int .i64 r] : Array Value)) (.int .i64 2)).run Tryz.prog W = .ok (.int .i64 g) W := fun W => rfl
    have ix3 : ∀ W : World, (Instr.index 84 (.agg (#[.int .i64 f, .int .i64 s, .int .i64 g, .int .i64 r] : Array Value)) (.int .i64 3)).run Tryz.prog W = .ok (.int .i64 r) W := fun W => rfl
    rcases hrel with ⟨rfl, rfl⟩ | ⟨rfl, rfl⟩ | ⟨rfl, rfl⟩ | ⟨rfl, rfl⟩ | ⟨rfl, rfl⟩
    · obtain ⟨k0, k1, k2, k3⟩ := HG.out _ HB.out
      go_wp2_with fail
      refine (C0.out _).mono ?_
      rintro e w1 ⟨rfl, hb⟩
      have HB1 := trB HB hb
      clear hb k0 k1 k2 k3 HB
      go_wp2_with fail
      exact ⟨⟨HB1.out, .inr (.inl ⟨rfl, by rw [HE.out]⟩)⟩, by decide⟩
    · obtain ⟨k0, k1, k2, k3⟩ := HG.out _ HB.out
      go_wp2_with fail
      refine (C1.out _).mono ?_
      rintro e w1 ⟨rfl, hb⟩
      have HB1 := trB HB hb
      clear hb k0 k1 k2 k3 HB
      go_wp2_with fail
      exact ⟨⟨HB1.out, .inr (.inr (.inl ⟨rfl, rfl⟩))⟩, by decide⟩
    · obtain ⟨k0, k1, k2, k3⟩ := HG.out _ HB.out
      go_wp2_with fail
      refine (C2.out _).mono ?_
      rintro e w1 ⟨rfl, hb⟩
      have HB1 := trB HB hb
      clear hb k0 k1 k2 k3 HB
      go_wp2_with fail
      exact ⟨⟨HB1.out, .inr (.inr (.inr (.inl ⟨rfl, rfl⟩)))⟩, by decide⟩
    · obtain ⟨k0, k1, k2, k3⟩ := HG.out _ HB.out
      go_wp2_with fail
      refine (C3.out _).mono ?_
      rintro e w1 ⟨rfl, hb⟩
      have HB1 := trB HB hb
      clear hb k0 k1 k2 k3 HB
      go_wp2_with fail
      exact ⟨⟨HB1.out, .inr (.inr (.inr (.inr (⟨rfl, rfl⟩))))⟩, by decide⟩
    · go_wp2_with fail
      go_ret
      exact ⟨rfl, HB.out⟩
end Go.Proofs.YtiodjaeonoheiaaGreatDoor.T.Q
namespace Go.Proofs.YtiodjaeonoheiaaGreatDoor.T.Q
open Go.RowKit Go.Lib
section
variable {w : World} {b : Nat} {v0 v1 v2 v3 : Value} {t : TypeId}
theorem st0 (h : w.heap[b]? = some (.cells #[v0, v1, v2, v3] t (0, 0))) (u : Value) : (w.setCell ⟨b, 0, none⟩ u).heap[b]? = some (.cells #[u, v1, v2, v3] t (0, 0)) := by
  simp [World.setCell, Array.getElem?_modify, h]
theorem st1 (h : w.heap[b]? = some (.cells #[v0, v1, v2, v3] t (0, 0))) (u : Value) : (w.setCell ⟨b, 1, none⟩ u).heap[b]? = some (.cells #[v0, u, v2, v3] t (0, 0)) := by
  simp [World.setCell, Array.getElem?_modify, h]
theorem st2 (h : w.heap[b]? = some (.cells #[v0, v1, v2, v3] t (0, 0))) (u : Value) : (w.setCell ⟨b, 2, none⟩ u).heap[b]? = some (.cells #[v0, v1, u, v3] t (0, 0)) := by
  simp [World.setCell, Array.getElem?_modify, h]
theorem st3 (h : w.heap[b]? = some (.cells #[v0, v1, v2, v3] t (0, 0))) (u : Value) : (w.setCell ⟨b, 3, none⟩ u).heap[b]? = some (.cells #[v0, v1, v2, u] t (0, 0)) := by
  simp [World.setCell, Array.getElem?_modify, h]
theorem st_other {c k : Nat} {o : Obj} (h : w.heap[b]? = some o) (hn : c ≠ b) (u : Value) : (w.setCell ⟨c, k, none⟩ u).heap[b]? = some o := by
  rw [← h]
  simp [World.setCell, Array.getElem?_modify, hn]
end
theorem cut_num (s : ByteArray) (K : Nat) (hK : wid K = true) (i : Nat) (h : i + K ≤ s.size) : numV ((s.extract i s.size).extract 0 K) = n2 s i (i + K) ∧ numE ((s.extract i s.size).extract 0 K) = 0 := by
  have e : (s.extract i s.size).extract 0 K = s.extract i (i + K) := by
    apply By.bytes_ext
    rw [By.extract_cut, By.extract_drop, By.extract_cut, List.drop_zero, List.drop_take, Nat.add_sub_cancel_left]
  have hz : (s.extract i (i + K)).size = K := by rw [cut_size s i (i + K) h]; omega
  rw [e]
  unfold numV numE n2
  rw [hz, if_pos hK, if_pos hK]
  exact ⟨rfl, rfl⟩
theorem cut_cut (s : ByteArray) (i K : Nat) : (s.extract i s.size).extract K (s.extract i s.size).size = s.extract (i + K) s.size := by
  apply By.bytes_ext
  rw [By.extract_drop, By.extract_drop, By.extract_drop, List.drop_drop]
theorem ext_all (s : ByteArray) : s.extract 0 s.size = s := by
  apply By.bytes_ext
  rw [By.extract_drop, List.drop_zero]
theorem readHead_any (s : ByteArray) (w : World) (hs : 10 ≤ s.size) (hm : s.size ≤ 140737488351232) (hG : Gd w) : Calls Tryz.prog 94 #[.string s] w (Gives (.agg #[.int .i64 (n2 s 0 2), .int .i64 (n2 s 2 4), .int .i64 (n2 s 4 6), .int .i64 (n2 s 6 10)]) w) := by
  have HG := Lib.hid hG.all
  clear hG
  obtain ⟨HZ, HX, HY⟩ := bxTwo w #[.int .i64 0, .int .i64 0, .int .i64 0, .int .i64 0] 84 #[.int .i64 0, .int .i64 0, .int .i64 0, .int .i64 0] 84
  have D0 : Hid (∀ W, Calls Tryz.prog 112 #[.string ((s.extract 0 s.size).extract 0 2)] W (Pure (.tuple #[.int .i64 (n2 s 0 2), .int .i64 0]) W)) := fun W => by
    have h := num_any ((s.extract 0 s.size).extract 0 2) W
    rw [(cut_num s 2 rfl 0 (by omega)).1, (cut_num s 2 rfl 0 (by omega)).2] at h
    exact h
  have E0 : Hid ((s.extract 0 s.size).extract 2 (s.extract 0 s.size).size = s.extract 2 s.size) := cut_cut s 0 2
  have D1 : Hid (∀ W, Calls Tryz.prog 112 #[.string ((s.extract 2 s.size).extract 0 2)] W (Pure (.tuple #[.int .i64 (n2 s 2 4), .int .i64 0]) W)) := fun W => by
    have h := num_any ((s.extract 2 s.size).extract 0 2) W
    rw [(cut_num s 2 rfl 2 (by omega)).1, (cut_num s 2 rfl 2 (by omega)).2] at h
    exact h
  have E1 : Hid ((s.extract 2 s.size).extract 2 (s.extract 2 s.size).size = s.extract 4 s.size) := cut_cut s 2 2
  have D2 : Hid (∀ W, Calls Tryz.prog 112 #[.string ((s.extract 4 s.size).extract 0 2)] W (Pure (.tuple #[.int .i64 (n2 s 4 6), .int .i64 0]) W)) := fun W => by
    have h := num_any ((s.extract 4 s.size).extract 0 2) W
    rw [(cut_num s 2 rfl 4 (by omega)).1, (cut_num s 2 rfl 4 (by omega)).2] at h
    exact h
  have E2 : Hid ((s.extract 4 s.size).extract 2 (s.extract 4 s.size).size = s.extract 6 s.size) := cut_cut s 4 2
  have D3 : Hid (∀ W, Calls Tryz.prog 112 #[.string ((s.extract 6 s.size).extract 0 4)] W (Pure (.tuple #[.int .i64 (n2 s 6 10), .int .i64 0]) W)) := fun W => by
    have h := num_any ((s.extract 6 s.size).extract 0 4) W
    rw [(cut_num s 4 rfl 6 (by omega)).1, (cut_num s 4 rfl 6 (by omega)).2] at h
    exact h
  have E3 : Hid ((s.extract 6 s.size).extract 4 (s.extract 6 s.size).size = s.extract 10 s.size) := cut_cut s 6 4
  have z0 : (s.extract 0 s.size).size = s.size - 0 := cut_size s 0 s.size (Nat.le_refl _)
  have z1 : (s.extract 2 s.size).size = s.size - 2 := cut_size s 2 s.size (Nat.le_refl _)
  have z2 : (s.extract 4 s.size).size = s.size - 4 := cut_size s 4 s.size (Nat.le_refl _)
  have z3 : (s.extract 6 s.size).size = s.size - 6 := cut_size s 6 s.size (Nat.le_refl _)
  have z4 : (s.extract 10 s.size).size = s.size - 10 := cut_size s 10 s.size (Nat.le_refl _)
  have SA : Hid (s.extract 0 s.size = s) := ext_all s
  generalize n2 s 0 2 = N0 at D0 ⊢
  generalize n2 s 2 4 = N1 at D1 ⊢
  generalize n2 s 4 6 = N2 at D2 ⊢
  generalize n2 s 6 10 = N3 at D3 ⊢
  generalize s.extract 0 s.size = S0 at D0 E0 SA z0
  generalize s.extract 2 s.size = S1 at D1 E1 E0 z1
  generalize s.extract 4 s.size = S2 at D2 E2 E1 z2
  generalize s.extract 6 s.size = S3 at D3 E3 E2 z3
  generalize s.extract 10 s.size = S4 at E3 z4
  have hSA := SA.out
  clear SA
  subst hSA
  have y1 : 8 ≤ S1.size := by omega
  have y2 : 6 ≤ S2.size := by omega
  have y3 : 4 ≤ S3.size := by omega
  have m1 : S1.size ≤ 140737488351232 := by omega
  have m2 : S2.size ≤ 140737488351232 := by omega
  have m3 : S3.size ≤ 140737488351232 := by omega
  clear z0 z1 z2 z3 z4
  go_enter Tryz.func94, Tryz.ntmps94
  have HW := Lib.hid (HG.out _ HZ.out)
  obtain ⟨k0, k1, k2, k3⟩ := HW.out
  go_wp2_with fail
  clear k0 k1 k2 k3 HW
  go_loopw [0, 7] (fun b i wr => Hid (Below w.heap.size w wr) ∧ Hid (wr.heap[w.heap.size]? = some (.cells #[.int .i64 0, .int .i64 0, .int .i64 0, .int .i64 0] 84 (0, 0))) ∧ ((i = .int .i64 0 ∧ b = .string S0 ∧ Hid (wr.heap[w.heap.size + 1]? = some (.cells #[.int .i64 0, .int .i64 0, .int .i64 0, .int .i64 0] 84 (0, 0)))) ∨ (i = .int .i64 1 ∧ b = .string S1 ∧ Hid (wr.heap[w.heap.size + 1]? = some (.cells #[.int .i64 N0, .int .i64 0, .int .i64 0, .int .i64 0] 84 (0, 0)))) ∨ (i = .int .i64 2 ∧ b = .string S2 ∧ Hid (wr.heap[w.heap.size + 1]? = some (.cells #[.int .i64 N0, .int .i64 N1, .int .i64 0, .int .i64 0] 84 (0, 0)))) ∨ (i = .int .i64 3 ∧ b = .string S3 ∧ Hid (wr.heap[w.heap.size + 1]? = some (.cells #[.int .i64 N0, .int .i64 N1, .int .i64 N2, .int .i64 0] 84 (0, 0)))) ∨ (i = .int .i64 4 ∧ b = .string S4 ∧ Hid (wr.heap[w.heap.size + 1]? = some (.cells #[.int .i64 N0, .int .i64 N1, .int .i64 N2, .int .i64 N3] 84 (0, 0)))))) (fun _ i _ => 4 - (RowKit.intOf i).toNat)
  case atStart => exact ⟨HZ.out, HX.out, .inl ⟨rfl, rfl, HY.out⟩⟩
  case round =>
    clear HZ HX HY
    obtain ⟨HB, HX, hrel⟩ := hrel
    have ix0 : ∀ W : World, (Instr.index 125 (.agg (#[.int .i64 2, .int .i64 2, .int .i64 2, .int .i64 4] : Array Value)) (.int .i64 0)).run Tryz.prog W = .ok (.int .i64 2) W := fun W => rfl
    have ix1 : ∀ W : World, (Instr.index 125 (.agg (#[.int .i64 2, .int .i64 2, .int .i64 2, .int .i64 4] : Array Value)) (.int .i64 1)).run Tryz.prog W = .ok (.int .i64 2) W := fun W => rfl
    have ix2 : ∀ W : World, (Instr.index 125 (.agg (#[.int .i64 2, .int .i64 2, .int .i64 2, .int .i64 4] : Array Value)) (.int .i64 2)).run Tryz.prog W = .ok (.int .i64 2) W := fun W => rfl
    have ix3 : ∀ W : World, (Instr.index 125 (.agg (#[.int .i64 2, .int .i64 2, .int .i64 2, .int .i64 4] : Array Value)) (.int .i64 3)).run Tryz.prog W = .ok (.int .i64 4) W := fun W => rfl
    rcases hrel with ⟨rfl, rfl, HY⟩ | ⟨rfl, rfl, HY⟩ | ⟨rfl, rfl, HY⟩ | ⟨rfl, rfl, HY⟩ | ⟨rfl, rfl, HY⟩
    · have hcells := bx4 HY.out
      obtain ⟨⟨c0, c1, c2, c3⟩, f0, f1, f2, f3⟩ := hcells
      have HB2 : Hid (Below w.heap.size w (wr.setCell ⟨w.heap.size + 1, 0, none⟩ (.int .i64 N0))) := HB.out.setCell (Nat.le_succ _) _
      have HX2 := Lib.hid (st_other (k := 0) HX.out (Nat.succ_ne_self _) (.int .i64 N0))
      have HY2 := Lib.hid (st0 HY.out (.int .i64 N0))
      go_wp2_with fail
      refine (D0.out _).mono ?_
      rintro e w1 ⟨rfl, hw⟩
      have hw := hw.symm
      subst hw
      go_wp2_with fail
      exact ⟨⟨HB2.out, HX2.out, .inr (.inl ⟨rfl, by rw [E0.out], HY2.out⟩)⟩, by decide⟩
    · have hcells := bx4 HY.out
      obtain ⟨⟨c0, c1, c2, c3⟩, f0, f1, f2, f3⟩ := hcells
      have HB2 : Hid (Below w.heap.size w (wr.setCell ⟨w.heap.size + 1, 1, none⟩ (.int .i64 N1))) := HB.out.setCell (Nat.le_succ _) _
      have HX2 := Lib.hid (st_other (k := 1) HX.out (Nat.succ_ne_self _) (.int .i64 N1))
      have HY2 := Lib.hid (st1 HY.out (.int .i64 N1))
      go_wp2_with fail
      refine (D1.out _).mono ?_
      rintro e w1 ⟨rfl, hw⟩
      have hw := hw.symm
      subst hw
      go_wp2_with fail
      exact ⟨⟨HB2.out, HX2.out, .inr (.inr (.inl ⟨rfl, by rw [E1.out], HY2.out⟩))⟩, by decide⟩
    · have hcells := bx4 HY.out
      obtain ⟨⟨c0, c1, c2, c3⟩, f0, f1, f2, f3⟩ := hcells
      have HB2 : Hid (Below w.heap.size w (wr.setCell ⟨w.heap.size + 1, 2, none⟩ (.int .i64 N2))) := HB.out.setCell (Nat.le_succ _) _
      have HX2 := Lib.hid (st_other (k := 2) HX.out (Nat.succ_ne_self _) (.int .i64 N2))
      have HY2 := Lib.hid (st2 HY.out (.int .i64 N2))
      go_wp2_with fail
      refine (D2.out _).mono ?_
      rintro e w1 ⟨rfl, hw⟩
      have hw := hw.symm
      subst hw
      go_wp2_with fail
      exact ⟨⟨HB2.out, HX2.out, .inr (.inr (.inr (.inl ⟨rfl, by rw [E2.out], HY2.out⟩)))⟩, by decide⟩
    · have hcells := bx4 HY.out
      obtain ⟨⟨c0, c1, c2, c3⟩, f0, f1, f2, f3⟩ := hcells
      have HB2 : Hid (Below w.heap.size w (wr.setCell ⟨w.heap.size + 1, 3, none⟩ (.int .i64 N3))) := HB.out.setCell (Nat.le_succ _) _
      have HX2 := Lib.hid (st_other (k := 3) HX.out (Nat.succ_ne_self _) (.int .i64 N3))
      have HY2 := Lib.hid (st3 HY.out (.int .i64 N3))
      go_wp2_with fail
      refine (D3.out _).mono ?_
      rintro e w1 ⟨rfl, hw⟩
      have hw := hw.symm
      subst hw
      go_wp2_with fail
      exact ⟨⟨HB2.out, HX2.out, .inr (.inr (.inr (.inr (⟨rfl, by rw [E3.out], HY2.out⟩))))⟩, by decide⟩
    · obtain ⟨⟨c0, c1, c2, c3⟩, f0, f1, f2, f3⟩ := bx4 HY.out
      obtain ⟨⟨d0, d1, d2, d3⟩, g0, g1, g2, g3⟩ := bx4 HX.out
      have HR := Lib.hid (st3 (st2 (st1 (st0 HX.out (.int .i64 N0)) (.int .i64 N1)) (.int .i64 N2)) (.int .i64 N3))
      have HB2 := Lib.hid ((((HB.out.setCell (p := ⟨w.heap.size, 0, none⟩) (Nat.le_refl _) (.int .i64 N0)).setCell (p := ⟨w.heap.size, 1, none⟩) (Nat.le_refl _) (.int .i64 N1)).setCell (p := ⟨w.heap.size, 2, none⟩) (Nat.le_refl _) (.int .i64 N2)).setCell (p := ⟨w.heap.size, 3, none⟩) (Nat.le_refl _) (.int .i64 N3))
      go_wp2_with fail
      exact bodyPost_ret (results_cell_row Tryz.results94 _ _ w.heap.size 84 _ (0, 0) _ rfl HR.out Tryz.underlying84 rfl (by kernel_rfl)) rfl ⟨rfl, HB2.out⟩
end Go.Proofs.YtiodjaeonoheiaaGreatDoor.T.Q
