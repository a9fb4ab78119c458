/- Contract of package digest's sha1Spread: the eighty words. No condition. -/
import Derived.Test.YtnoabinodojkiaaDoorDi
namespace Go.Proofs.YtnoabinodojkiaaDoor
open Go.RowKit Go.Lib By Dg

/-- Words as cells. -/
def cw (l : List Int) : Array Value := (l.map (Value.int .u32)).toArray
theorem cw_size (l : List Int) : (cw l).size = l.length := by simp [cw]
theorem cw_one (l : List Int) : (cw l).all (·.oneCell') = true := by simp [cw, Value.oneCell']
theorem cw_at (l : List Int) {j : Nat} (h : j < l.length) : (cw l)[j]? = some (.int .u32 (l.getD j 0)) := by
  simp [cw, List.getD_eq_getElem?_getD, List.getElem?_eq_getElem h]
theorem cw_set (l : List Int) (j : Nat) (v : Int) : (cw l).setIfInBounds j (.int .u32 v) = cw (l.set j v) := by
  simp [cw, List.map_set]
/-- The words so far, and zeros behind them. -/
def sz (m : Nat → Int) (t : Nat) : List Int := spl m t ++ List.replicate (80 - t) 0
theorem sz_length (m : Nat → Int) {t : Nat} (h : t ≤ 80) : (sz m t).length = 80 := by simp [sz, spl_length]; omega
theorem sz_at (m : Nat → Int) {t j : Nat} (h : j < t) : (sz m t).getD j 0 = (spl m t).getD j 0 := by
  rw [sz, List.getD_eq_getElem?_getD, List.getElem?_append_left (by rw [spl_length]; exact h), ← List.getD_eq_getElem?_getD]
theorem sz_next (m : Nat → Int) {t : Nat} (h : 16 ≤ t) (h2 : t < 80) : (sz m t).set t (rl (xo (xo (xo ((spl m t).getD (t - 3) 0) ((spl m t).getD (t - 8) 0)) ((spl m t).getD (t - 14) 0)) ((spl m t).getD (t - 16) 0)) 1) = sz m (t + 1) := by
  have e : List.replicate (80 - t) (0 : Int) = 0 :: List.replicate (80 - (t + 1)) 0 := by rw [show 80 - t = (80 - (t + 1)) + 1 by omega]; rfl
  rw [sz, sz, e, List.set_append, if_neg (by rw [spl_length]; omega), spl_length, Nat.sub_self]
  show _ = (spl m t ++ [_]) ++ _
  rw [if_neg (by omega), List.append_assoc]
  rfl
theorem sz_start (m : Nat → Int) : cw (sz m 0) = cw (List.replicate 80 0) := rfl
theorem spl16 (m : Nat → Int) : cw (spl m 16) = c16 m := by simp [cw, spl, c16]
theorem sz_end (m : Nat → Int) : cw (sz m 80) = cw (spl m 80) := by simp [sz]
theorem sz_16 (m : Nat → Int) : ((cw (List.replicate 80 0)).toList.take 0 ++ ((c16 m).toList ++ (cw (List.replicate 80 0)).toList.drop (0 + (c16 m).toList.length))).toArray = cw (sz m 16) := by
  rw [← spl16]
  simp [cw, sz, spl_length]

theorem has3 (w : World) (T0 T1 T2 : TypeId) (c0 c1 c2 : Array Value) : Has T0 c0 w.heap.size (((w.alloc (.cells c0 T0)).alloc (.cells c1 T1)).alloc (.cells c2 T2)) ∧ Has T1 c1 (w.heap.size + 1) (((w.alloc (.cells c0 T0)).alloc (.cells c1 T1)).alloc (.cells c2 T2)) ∧
    Has T2 c2 (w.heap.size + 1 + 1) (((w.alloc (.cells c0 T0)).alloc (.cells c1 T1)).alloc (.cells c2 T2)) ∧ Below w.heap.size w (((w.alloc (.cells c0 T0)).alloc (.cells c1 T1)).alloc (.cells c2 T2)) := by
  have e1 : (w.alloc (.cells c0 T0)).heap.size = w.heap.size + 1 := by simp
  have e2 : ((w.alloc (.cells c0 T0)).alloc (.cells c1 T1)).heap.size = w.heap.size + 1 + 1 := by simp
  refine ⟨((Has.new T0 c0 w).alloc _).alloc _, ?_, ?_, (((Below.refl _ w).alloc (Nat.le_refl _) _).alloc (by omega) _).alloc (by omega) _⟩
  · rw [← e1]; exact (Has.new T1 c1 _).alloc _
  · rw [← e2]; exact Has.new T2 c2 _
theorem add_off (B j : Nat) : (⟨B, 0, none⟩ : Addr).add j = ⟨B, j, none⟩ := by unfold Addr.add; split <;> simp_all
theorem zero80 (w : World) : Sem.run Tryd.prog (zeroValue 66) w = .ok (.agg (cw (List.replicate 80 0))) w := by kernel_rfl

set_option maxHeartbeats 1000000 in
set_option maxRecDepth 100000 in
theorem sha1Spread_any (m : Nat → Int) (w : World) : Calls Tryd.prog 34 #[.agg (c16 m)] w fun e w' => e = .returned (.agg (cw (spl m 80))) ∧ Below w.heap.size w w' := by
  have H0 : Hid (∀ Z : Array Value, _) := fun Z => has3 w 33 66 66 (c16 m) Z Z
  obtain ⟨R, hR⟩ : ∃ R, R = cw (spl m 80) := ⟨_, rfl⟩
  have HR := Lib.hid hR
  rw [← hR]
  clear hR
  have hz := zero80
  have HE : Hid (∀ Z, Z = cw (List.replicate 80 0) → (Z.toList.take 0 ++ ((c16 m).toList ++ Z.toList.drop (0 + (c16 m).toList.length))).toArray = cw (sz m 16)) := by
    rintro _ rfl; exact sz_16 m
  generalize hZ : cw (List.replicate 80 0) = Z at hz
  have HZ := Lib.hid hZ
  clear hZ
  unfold c16
  go_enter Tryd.func34, Tryd.ntmps34
  go_wp2_with fail
  refine ext_tail 2 (by kernel_rfl) (by kernel_rfl) ?_
  simp only [List.take_succ_cons, List.take_zero, List.drop_succ_cons, List.drop_zero]
  repeat (go_big_quiet_step ((fail)))
  refine wpQuiet_nil ?_
  rintro _ ⟨v, hv⟩
  subst hv
  have HA := Lib.hid ((H0.out Z).1.below v.below)
  have HO := Lib.hid ((H0.out Z).2.1.below v.below)
  have HW := Lib.hid ((H0.out Z).2.2.1.below v.below)
  have HB := Lib.hid ((H0.out Z).2.2.2.trans (v.below.mono (H0.out Z).2.2.2.size))
  generalize v.to = w5 at HA HO HW HB ⊢
  refine wpList_copy_own rfl (.tmp 5) (.tmp 6) _ _ rfl 28 Tryd.underlying36 (by kernel_rfl) (w.heap.size + 1 + 1) 0 80 80 ⟨w.heap.size, 0, none⟩ 16 16 rfl rfl Z 66 HW.out (c16 m).toList rfl ?_ ?_ ?_ ?_
  · intro j v hj
    rw [add_off]
    exact HA.out.cell (by simpa using hj)
  · rw [← HZ.out, cw_size]; simp [c16]
  · intro v hv
    have := c16_one m
    rw [← Array.all_toList, List.all_eq_true] at this
    exact this v hv
  rw [HE.out Z HZ.out.symm]
  have HW6 := Lib.hid (HW.out.row (cw (sz m 16)))
  have HO6 := Lib.hid (HO.out.rowOther (g := w.heap.size + 1 + 1) (by omega) (cw (sz m 16)))
  have HB6 := Lib.hid (below_setRow (g := w.heap.size + 1 + 1) HB.out (by omega) (cw (sz m 16)))
  clear HA HO HW HB hz
  generalize w5.setRow (w.heap.size + 1 + 1) (cw (sz m 16)) = w6 at HW6 HO6 HB6 ⊢
  clear v
  go_wp2_with fail
  go_loopw [4] (fun i wr => ∃ k : Nat, i = .int .i64 k ∧ 16 ≤ k ∧ k ≤ 80 ∧ Hid (Has 66 Z (w.heap.size + 1) wr) ∧ Hid (Has 66 (cw (sz m k)) (w.heap.size + 1 + 1) wr) ∧ Hid (Below w.heap.size w wr)) (fun i _ => 80 - (RowKit.intOf i).toNat)
  case atStart => exact ⟨16, rfl, by omega, by omega, HO6.out, HW6.out, HB6.out⟩
  case round =>
    clear HW6 HO6 HB6
    obtain ⟨k, rfl, hk16, hk, HO, HW, HB⟩ := hrel
    by_cases hlt : k < 80
    · have hc3 := HW.out.cell (cw_at _ (j := k - 3) (by rw [sz_length m hk]; omega))
      have hc8 := HW.out.cell (cw_at _ (j := k - 8) (by rw [sz_length m hk]; omega))
      have hc14 := HW.out.cell (cw_at _ (j := k - 14) (by rw [sz_length m hk]; omega))
      have hc16 := HW.out.cell (cw_at _ (j := k - 16) (by rw [sz_length m hk]; omega))
      have hc0 := HW.out.cell (cw_at _ (j := k) (by rw [sz_length m hk]; omega))
      have hf0 := HW.out.frozen (j := k)
      rw [sz_at m (by omega)] at hc3 hc8 hc14 hc16
      have HN : Hid (∀ W, Has 66 (cw (sz m k)) (w.heap.size + 1 + 1) W → Has 66 (cw (sz m (k + 1))) (w.heap.size + 1 + 1) (W.setCell ⟨w.heap.size + 1 + 1, k, none⟩ (.int .u32 (rl (bits .xor .u32 (bits .xor .u32 (bits .xor .u32 ((spl m k).getD (k - 3) 0) ((spl m k).getD (k - 8) 0)) ((spl m k).getD (k - 14) 0)) ((spl m k).getD (k - 16) 0)) 1)))) := fun W h => by
        rw [← sz_next m hk16 hlt, ← cw_set]
        exact h.set _
      generalize (spl m k).getD (k - 3) 0 = x3 at hc3 HN
      generalize (spl m k).getD (k - 8) 0 = x8 at hc8 HN
      generalize (spl m k).getD (k - 14) 0 = x14 at hc14 HN
      generalize (spl m k).getD (k - 16) 0 = x16 at hc16 HN
      generalize (sz m k).getD k 0 = x0 at hc0
      have HRO := Lib.hid (fun X W => rot_any X 1 (by omega) W)
      have fc3 : ∀ x : Ext wr, x.to.cell? ⟨w.heap.size + 1 + 1, k - 3, none⟩ = _ := fun x => ext_cell x hc3
      have fc8 : ∀ x : Ext wr, x.to.cell? ⟨w.heap.size + 1 + 1, k - 8, none⟩ = _ := fun x => ext_cell x hc8
      have fc14 : ∀ x : Ext wr, x.to.cell? ⟨w.heap.size + 1 + 1, k - 14, none⟩ = _ := fun x => ext_cell x hc14
      have fc16 : ∀ x : Ext wr, x.to.cell? ⟨w.heap.size + 1 + 1, k - 16, none⟩ = _ := fun x => ext_cell x hc16
      have hne := extSome wr
      have HC0 := Lib.hid hc0
      have HF0 := Lib.hid hf0
      have hi16 : 16 ≤ (k : Int) := by omega
      clear hc3 hc8 hc14 hc16 hc0 hf0
      go_wp2_with fail
      refine ext_tail 22 (by kernel_rfl) (by kernel_rfl) ?_
      simp only [List.take_succ_cons, List.take_zero, List.drop_succ_cons, List.drop_zero]
      repeat (go_big_quiet_step ((go_at_call 31; with_reducible exact ext_same _ (HRO.out _ _))))
      refine wpQuiet_nil ?_
      rintro _ ⟨v, hv⟩
      subst hv
      have hc1 := ext_cell v HC0.out
      have hf1 := ext_frozen v HC0.out HF0.out
      have HW1 := Lib.hid (HN.out _ (HW.out.below v.below))
      have HO1 := Lib.hid ((HO.out.below v.below).other (a := ⟨w.heap.size + 1 + 1, k, none⟩) (show w.heap.size + 1 ≠ w.heap.size + 1 + 1 by omega) (.int .u32 (rl (bits .xor .u32 (bits .xor .u32 (bits .xor .u32 x3 x8) x14) x16) 1)))
      have HB1 := Lib.hid ((HB.out.trans (v.below.mono HB.out.size)).setCell (p := ⟨w.heap.size + 1 + 1, k, none⟩) (show w.heap.size ≤ w.heap.size + 1 + 1 by omega) (.int .u32 (rl (bits .xor .u32 (bits .xor .u32 (bits .xor .u32 x3 x8) x14) x16) 1)))
      clear fc3 fc8 fc14 fc16 hne
      generalize v.to = w7 at hc1 hf1 HW1 HO1 HB1 ⊢
      go_wp2_with fail
      exact ⟨⟨k + 1, by go_num, by omega, by omega, HO1.out, HW1.out, HB1.out⟩, by simp [RowKit.intOf]; omega⟩
    · obtain rfl : k = 80 := by omega
      have hW := HW.out
      rw [sz_end, ← HR.out] at hW
      have HW2 := Lib.hid hW
      have HB2 := Lib.hid (below_setRow (g := w.heap.size + 1) HB.out (by omega) R)
      have HR2 := Lib.hid (HO.out.row R)
      have HP : Hid (R.all (·.oneCell') = true ∧ R.size = 80 ∧ Z.size = 80) := by rw [HR.out, ← HZ.out]; exact ⟨cw_one _, by rw [cw_size, spl_length], by rw [cw_size, List.length_replicate]⟩
      clear HW hW
      go_wp2_with (first | (refine wpList_load_row rfl 66 _ rfl (w.heap.size + 1 + 1) rfl 66 _ (0, 0) _ HW2.out Tryd.underlying66 rfl (by rw [HP.out.2.1]; kernel_rfl) ?_) | (refine wpList_store_row rfl 66 _ _ rfl (w.heap.size + 1) _ rfl rfl 66 _ HO.out (by rw [HP.out.2.1]; kernel_rfl) (HP.out.2.2.trans HP.out.2.1.symm) HP.out.1 ?_))
      exact bodyPost_ret (results_cell_row Tryd.results34 _ _ (w.heap.size + 1) 66 _ (0, 0) _ rfl HR2.out Tryd.underlying66 rfl (by rw [HP.out.2.1]; kernel_rfl)) rfl ⟨rfl, HB2.out⟩
end Go.Proofs.YtnoabinodojkiaaDoor
