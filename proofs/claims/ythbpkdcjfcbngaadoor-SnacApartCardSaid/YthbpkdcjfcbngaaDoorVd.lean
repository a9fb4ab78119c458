/- Contract: the numbers that bytes begin with (readHead), of ten bytes at least. Condition: the table of widths holds what the program's text lays. -/
import Derived.Test.YthbpkdcjfcbngaaDoorVc
namespace Go.Proofs.YthbpkdcjfcbngaaDoor
open Go.RowKit Go.Lib

section
variable {w : World} {b : Nat} {v0 v1 v2 v3 : Value} {t : TypeId}
theorem st0 (h : w.heap[b]? = some (.cells #[v0, v1, v2, v3] t (0, 0))) (u : Value) : (w.setCell ⟨b, 0, none⟩ u).heap[b]? = some (.cells #[u, v1, v2, v3] t (0, 0)) := by
  simp [World.setCell, Array.getElem?_modify, h]
theorem st1 (h : w.heap[b]? = some (.cells #[v0, v1, v2, v3] t (0, 0))) (u : Value) : (w.setCell ⟨b, 1, none⟩ u).heap[b]? = some (.cells #[v0, u, v2, v3] t (0, 0)) := by
  simp [World.setCell, Array.getElem?_modify, h]
theorem st2 (h : w.heap[b]? = some (.cells #[v0, v1, v2, v3] t (0, 0))) (u : Value) : (w.setCell ⟨b, 2, none⟩ u).heap[b]? = some (.cells #[v0, v1, u, v3] t (0, 0)) := by
  simp [World.setCell, Array.getElem?_modify, h]
theorem st3 (h : w.heap[b]? = some (.cells #[v0, v1, v2, v3] t (0, 0))) (u : Value) : (w.setCell ⟨b, 3, none⟩ u).heap[b]? = some (.cells #[v0, v1, v2, u] t (0, 0)) := by
  simp [World.setCell, Array.getElem?_modify, h]
theorem st_other {c k : Nat} {o : Obj} (h : w.heap[b]? = some o) (hn : c ≠ b) (u : Value) : (w.setCell ⟨c, k, none⟩ u).heap[b]? = some o := by
  rw [← h]
  simp [World.setCell, Array.getElem?_modify, hn]
end
theorem cut_num (s : ByteArray) (K : Nat) (hK : wid K = true) (i : Nat) (h : i + K ≤ s.size) : numV ((s.extract i s.size).extract 0 K) = n2 s i (i + K) ∧ numE ((s.extract i s.size).extract 0 K) = 0 := by
  have e : (s.extract i s.size).extract 0 K = s.extract i (i + K) := by
    apply By.bytes_ext
    rw [By.extract_cut, By.extract_drop, By.extract_cut, List.drop_zero, List.drop_take, Nat.add_sub_cancel_left]
  have hz : (s.extract i (i + K)).size = K := by rw [cut_size s i (i + K) h]; omega
  rw [e]
  unfold numV numE n2
  rw [hz, if_pos hK, if_pos hK]
  exact ⟨rfl, rfl⟩
theorem cut_cut (s : ByteArray) (i K : Nat) : (s.extract i s.size).extract K (s.extract i s.size).size = s.extract (i + K) s.size := by
  apply By.bytes_ext
  rw [By.extract_drop, By.extract_drop, By.extract_drop, List.drop_drop]
theorem ext_all (s : ByteArray) : s.extract 0 s.size = s := by
  apply By.bytes_ext
  rw [By.extract_drop, List.drop_zero]
set_option maxRecDepth 100000 in
set_option maxHeartbeats 8000000 in
theorem readHead_any (s : ByteArray) (w : World) (hs : 10 ≤ s.size) (hm : s.size ≤ 140737488351232) (hG : Gd w) : Calls Tryd.prog 20 #[.string s] w (Gives (.agg #[.int .i64 (n2 s 0 2), .int .i64 (n2 s 2 4), .int .i64 (n2 s 4 6), .int .i64 (n2 s 6 10)]) w) := by
  have HG := Lib.hid hG.all
  clear hG
  have HZ : Hid (Below w.heap.size w ((w.alloc (.cells #[.int .i64 0, .int .i64 0, .int .i64 0, .int .i64 0] 42)).alloc (.cells #[.int .i64 0, .int .i64 0, .int .i64 0, .int .i64 0] 42))) := ((Below.refl _ w).alloc (Nat.le_refl _) _).alloc (by simp) _
  have HX : Hid (((w.alloc (.cells #[.int .i64 0, .int .i64 0, .int .i64 0, .int .i64 0] 42)).alloc (.cells #[.int .i64 0, .int .i64 0, .int .i64 0, .int .i64 0] 42)).heap[w.heap.size]? = some (.cells #[.int .i64 0, .int .i64 0, .int .i64 0, .int .i64 0] 42 (0, 0))) := (Below.heap_alloc _ _ _ (by simp)).trans (box_new w _ _)
  have HY : Hid (((w.alloc (.cells #[.int .i64 0, .int .i64 0, .int .i64 0, .int .i64 0] 42)).alloc (.cells #[.int .i64 0, .int .i64 0, .int .i64 0, .int .i64 0] 42)).heap[w.heap.size + 1]? = some (.cells #[.int .i64 0, .int .i64 0, .int .i64 0, .int .i64 0] 42 (0, 0))) := by
    have := box_new (w.alloc (.cells #[.int .i64 0, .int .i64 0, .int .i64 0, .int .i64 0] 42)) #[.int .i64 0, .int .i64 0, .int .i64 0, .int .i64 0] 42
    show _ = _
    simpa using this
  have D0 : Hid (∀ W, Calls Tryd.prog 27 #[.string ((s.extract 0 s.size).extract 0 2)] W (Pure (.tuple #[.int .i64 (n2 s 0 2), .int .i64 0]) W)) := fun W => by
    have h := num_any ((s.extract 0 s.size).extract 0 2) W
    rw [(cut_num s 2 rfl 0 (by omega)).1, (cut_num s 2 rfl 0 (by omega)).2] at h
    exact h
  have E0 : Hid ((s.extract 0 s.size).extract 2 (s.extract 0 s.size).size = s.extract 2 s.size) := cut_cut s 0 2
  have D1 : Hid (∀ W, Calls Tryd.prog 27 #[.string ((s.extract 2 s.size).extract 0 2)] W (Pure (.tuple #[.int .i64 (n2 s 2 4), .int .i64 0]) W)) := fun W => by
    have h := num_any ((s.extract 2 s.size).extract 0 2) W
    rw [(cut_num s 2 rfl 2 (by omega)).1, (cut_num s 2 rfl 2 (by omega)).2] at h
    exact h
  have E1 : Hid ((s.extract 2 s.size).extract 2 (s.extract 2 s.size).size = s.extract 4 s.size) := cut_cut s 2 2
  have D2 : Hid (∀ W, Calls Tryd.prog 27 #[.string ((s.extract 4 s.size).extract 0 2)] W (Pure (.tuple #[.int .i64 (n2 s 4 6), .int .i64 0]) W)) := fun W => by
    have h := num_any ((s.extract 4 s.size).extract 0 2) W
    rw [(cut_num s 2 rfl 4 (by omega)).1, (cut_num s 2 rfl 4 (by omega)).2] at h
    exact h
  have E2 : Hid ((s.extract 4 s.size).extract 2 (s.extract 4 s.size).size = s.extract 6 s.size) := cut_cut s 4 2
  have D3 : Hid (∀ W, Calls Tryd.prog 27 #[.string ((s.extract 6 s.size).extract 0 4)] W (Pure (.tuple #[.int .i64 (n2 s 6 10), .int .i64 0]) W)) := fun W => by
    have h := num_any ((s.extract 6 s.size).extract 0 4) W
    rw [(cut_num s 4 rfl 6 (by omega)).1, (cut_num s 4 rfl 6 (by omega)).2] at h
    exact h
  have E3 : Hid ((s.extract 6 s.size).extract 4 (s.extract 6 s.size).size = s.extract 10 s.size) := cut_cut s 6 4
  have z0 : (s.extract 0 s.size).size = s.size - 0 := cut_size s 0 s.size (Nat.le_refl _)
  have z1 : (s.extract 2 s.size).size = s.size - 2 := cut_size s 2 s.size (Nat.le_refl _)
  have z2 : (s.extract 4 s.size).size = s.size - 4 := cut_size s 4 s.size (Nat.le_refl _)
  have z3 : (s.extract 6 s.size).size = s.size - 6 := cut_size s 6 s.size (Nat.le_refl _)
  have z4 : (s.extract 10 s.size).size = s.size - 10 := cut_size s 10 s.size (Nat.le_refl _)
  have SA : Hid (s.extract 0 s.size = s) := ext_all s
  generalize n2 s 0 2 = N0 at D0 ⊢
  generalize n2 s 2 4 = N1 at D1 ⊢
  generalize n2 s 4 6 = N2 at D2 ⊢
  generalize n2 s 6 10 = N3 at D3 ⊢
  generalize s.extract 0 s.size = S0 at D0 E0 SA z0
  generalize s.extract 2 s.size = S1 at D1 E1 E0 z1
  generalize s.extract 4 s.size = S2 at D2 E2 E1 z2
  generalize s.extract 6 s.size = S3 at D3 E3 E2 z3
  generalize s.extract 10 s.size = S4 at E3 z4
  have hSA := SA.out
  clear SA
  subst hSA
  have y1 : 8 ≤ S1.size := by omega
  have y2 : 6 ≤ S2.size := by omega
  have y3 : 4 ≤ S3.size := by omega
  have m1 : S1.size ≤ 140737488351232 := by omega
  have m2 : S2.size ≤ 140737488351232 := by omega
  have m3 : S3.size ≤ 140737488351232 := by omega
  clear z0 z1 z2 z3 z4
  go_enter Tryd.func20, Tryd.ntmps20
  have HW := Lib.hid (HG.out _ HZ.out)
  obtain ⟨k0, k1, k2, k3⟩ := HW.out
  go_wp2_with fail
  clear k0 k1 k2 k3 HW
  go_loopw [0, 7] (fun b i wr => Hid (Below w.heap.size w wr) ∧ Hid (wr.heap[w.heap.size]? = some (.cells #[.int .i64 0, .int .i64 0, .int .i64 0, .int .i64 0] 42 (0, 0))) ∧ ((i = .int .i64 0 ∧ b = .string S0 ∧ Hid (wr.heap[w.heap.size + 1]? = some (.cells #[.int .i64 0, .int .i64 0, .int .i64 0, .int .i64 0] 42 (0, 0)))) ∨ (i = .int .i64 1 ∧ b = .string S1 ∧ Hid (wr.heap[w.heap.size + 1]? = some (.cells #[.int .i64 N0, .int .i64 0, .int .i64 0, .int .i64 0] 42 (0, 0)))) ∨ (i = .int .i64 2 ∧ b = .string S2 ∧ Hid (wr.heap[w.heap.size + 1]? = some (.cells #[.int .i64 N0, .int .i64 N1, .int .i64 0, .int .i64 0] 42 (0, 0)))) ∨ (i = .int .i64 3 ∧ b = .string S3 ∧ Hid (wr.heap[w.heap.size + 1]? = some (.cells #[.int .i64 N0, .int .i64 N1, .int .i64 N2, .int .i64 0] 42 (0, 0)))) ∨ (i = .int .i64 4 ∧ b = .string S4 ∧ Hid (wr.heap[w.heap.size + 1]? = some (.cells #[.int .i64 N0, .int .i64 N1, .int .i64 N2, .int .i64 N3] 42 (0, 0)))))) (fun _ i _ => 4 - (RowKit.intOf i).toNat)
  case atStart => exact ⟨HZ.out, HX.out, .inl ⟨rfl, rfl, HY.out⟩⟩
  case round =>
    clear HZ HX HY
    obtain ⟨HB, HX, hrel⟩ := hrel
    have ix0 : ∀ W : World, (Instr.index 52 (.agg (#[.int .i64 2, .int .i64 2, .int .i64 2, .int .i64 4] : Array Value)) (.int .i64 0)).run Tryd.prog W = .ok (.int .i64 2) W := fun W => rfl
    have ix1 : ∀ W : World, (Instr.index 52 (.agg (#[.int .i64 2, .int .i64 2, .int .i64 2, .int .i64 4] : Array Value)) (.int .i64 1)).run Tryd.prog W = .ok (.int .i64 2) W := fun W => rfl
    have ix2 : ∀ W : World, (Instr.index 52 (.agg (#[.int .i64 2, .int .i64 2, .int .i64 2, .int .i64 4] : Array Value)) (.int .i64 2)).run Tryd.prog W = .ok (.int .i64 2) W := fun W => rfl
    have ix3 : ∀ W : World, (Instr.index 52 (.agg (#[.int .i64 2, .int .i64 2, .int .i64 2, .int .i64 4] : Array Value)) (.int .i64 3)).run Tryd.prog W = .ok (.int .i64 4) W := fun W => rfl
    rcases hrel with ⟨rfl, rfl, HY⟩ | ⟨rfl, rfl, HY⟩ | ⟨rfl, rfl, HY⟩ | ⟨rfl, rfl, HY⟩ | ⟨rfl, rfl, HY⟩
    · have hcells := bx4 HY.out
      obtain ⟨⟨c0, c1, c2, c3⟩, f0, f1, f2, f3⟩ := hcells
      have HB2 : Hid (Below w.heap.size w (wr.setCell ⟨w.heap.size + 1, 0, none⟩ (.int .i64 N0))) := HB.out.setCell (Nat.le_succ _) _
      have HX2 := Lib.hid (st_other (k := 0) HX.out (Nat.succ_ne_self _) (.int .i64 N0))
      have HY2 := Lib.hid (st0 HY.out (.int .i64 N0))
      go_wp2_with fail
      refine (D0.out _).mono ?_
      rintro e w1 ⟨rfl, hw⟩
      have hw := hw.symm
      subst hw
      go_wp2_with fail
      exact ⟨⟨HB2.out, HX2.out, .inr (.inl ⟨rfl, by rw [E0.out], HY2.out⟩)⟩, by decide⟩
    · have hcells := bx4 HY.out
      obtain ⟨⟨c0, c1, c2, c3⟩, f0, f1, f2, f3⟩ := hcells
      have HB2 : Hid (Below w.heap.size w (wr.setCell ⟨w.heap.size + 1, 1, none⟩ (.int .i64 N1))) := HB.out.setCell (Nat.le_succ _) _
      have HX2 := Lib.hid (st_other (k := 1) HX.out (Nat.succ_ne_self _) (.int .i64 N1))
      have HY2 := Lib.hid (st1 HY.out (.int .i64 N1))
      go_wp2_with fail
      refine (D1.out _).mono ?_
      rintro e w1 ⟨rfl, hw⟩
      have hw := hw.symm
      subst hw
      go_wp2_with fail
      exact ⟨⟨HB2.out, HX2.out, .inr (.inr (.inl ⟨rfl, by rw [E1.out], HY2.out⟩))⟩, by decide⟩
    · have hcells := bx4 HY.out
      obtain ⟨⟨c0, c1, c2, c3⟩, f0, f1, f2, f3⟩ := hcells
      have HB2 : Hid (Below w.heap.size w (wr.setCell ⟨w.heap.size + 1, 2, none⟩ (.int .i64 N2))) := HB.out.setCell (Nat.le_succ _) _
      have HX2 := Lib.hid (st_other (k := 2) HX.out (Nat.succ_ne_self _) (.int .i64 N2))
      have HY2 := Lib.hid (st2 HY.out (.int .i64 N2))
      go_wp2_with fail
      refine (D2.out _).mono ?_
      rintro e w1 ⟨rfl, hw⟩
      have hw := hw.symm
      subst hw
      go_wp2_with fail
      exact ⟨⟨HB2.out, HX2.out, .inr (.inr (.inr (.inl ⟨rfl, by rw [E2.out], HY2.out⟩)))⟩, by decide⟩
    · have hcells := bx4 HY.out
      obtain ⟨⟨c0, c1, c2, c3⟩, f0, f1, f2, f3⟩ := hcells
      have HB2 : Hid (Below w.heap.size w (wr.setCell ⟨w.heap.size + 1, 3, none⟩ (.int .i64 N3))) := HB.out.setCell (Nat.le_succ _) _
      have HX2 := Lib.hid (st_other (k := 3) HX.out (Nat.succ_ne_self _) (.int .i64 N3))
      have HY2 := Lib.hid (st3 HY.out (.int .i64 N3))
      go_wp2_with fail
      refine (D3.out _).mono ?_
      rintro e w1 ⟨rfl, hw⟩
      have hw := hw.symm
      subst hw
      go_wp2_with fail
      exact ⟨⟨HB2.out, HX2.out, .inr (.inr (.inr (.inr (⟨rfl, by rw [E3.out], HY2.out⟩))))⟩, by decide⟩
    · obtain ⟨⟨c0, c1, c2, c3⟩, f0, f1, f2, f3⟩ := bx4 HY.out
      obtain ⟨⟨d0, d1, d2, d3⟩, g0, g1, g2, g3⟩ := bx4 HX.out
      have HR := Lib.hid (st3 (st2 (st1 (st0 HX.out (.int .i64 N0)) (.int .i64 N1)) (.int .i64 N2)) (.int .i64 N3))
      have HB2 := Lib.hid ((((HB.out.setCell (p := ⟨w.heap.size, 0, none⟩) (Nat.le_refl _) (.int .i64 N0)).setCell (p := ⟨w.heap.size, 1, none⟩) (Nat.le_refl _) (.int .i64 N1)).setCell (p := ⟨w.heap.size, 2, none⟩) (Nat.le_refl _) (.int .i64 N2)).setCell (p := ⟨w.heap.size, 3, none⟩) (Nat.le_refl _) (.int .i64 N3))
      go_wp2_with fail
      exact bodyPost_ret (results_cell_row Tryd.results20 _ _ w.heap.size 42 _ (0, 0) _ rfl HR.out Tryd.underlying42 rfl (by kernel_rfl)) rfl ⟨rfl, HB2.out⟩
end Go.Proofs.YthbpkdcjfcbngaaDoor
