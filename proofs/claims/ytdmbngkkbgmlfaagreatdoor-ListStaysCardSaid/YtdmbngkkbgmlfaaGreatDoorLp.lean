/- Contract: Insert. Conditions: those of each theorem's head. -/
import Derived.Test.YtdmbngkkbgmlfaaGreatDoorLo
namespace Go.Proofs.YtdmbngkkbgmlfaaGreatDoor.T
open Go.RowKit Go.Lib

set_option maxRecDepth 100000 in
set_option maxHeartbeats 8000000 in
theorem insert_end (l : List It) (x : It) (b : Option Addr) (c N V : Nat) (w : World) (ho : OwI w N (.slice b l.length c) l) (hn : l.length ≤ 1000000) (hN : N ≤ w.heap.size) (hV : w.heap[V]? = some (.cells #[.string x.n, .int .i64 x.g, .int .i64 x.i, .int .i64 x.t, .string x.a, .bool x.w] 26 (0, 0))) : Calls Tryz.prog 30 #[.slice b l.length c, .int .i64 (l.length : Nat), .slice (some ⟨V, 0, none⟩) 1 1] w fun e w' => ∃ v, e = .returned v ∧ w'.ownsRow N 26 6 v (l.length + 1) (cellsI l ++ x.cells) ∧ w.grownBy w' (Value.slice b l.length c).ownBlock := by
  unfold OwI at ho
  obtain ⟨cc, hcc⟩ : ∃ k, l.length ≤ k ∧ k = c := by
    rcases ho.2 with ⟨h1, h0⟩ | ⟨g, cap, cur, h1, _, _, h2, _⟩
    · simp only [Value.slice.injEq] at h1
      exact ⟨c, by omega, rfl⟩
    · simp only [Value.slice.injEq] at h1
      exact ⟨c, by omega, rfl⟩
  have hlc : l.length ≤ c := by omega
  have hc63 : c ≤ 9223372036854775807 := by
    rcases ho.2 with ⟨h1, h0⟩ | ⟨g, cap, cur, h1, _, _, _, h2, _⟩
    · simp only [Value.slice.injEq] at h1
      omega
    · simp only [Value.slice.injEq] at h1
      unfold maxLen at h2
      omega
  clear hcc cc
  obtain ⟨i0, hi, hx⟩ := Option.map_eq_some_iff.1 infoIt
  simp only [Prod.mk.injEq] at hx
  obtain ⟨hz0, hz1, hz2⟩ := hx
  have hlen : x.cells.length = 6 := rfl
  have HC : Hid (∀ j u, x.cells[j]? = some u → w.cell? ((⟨V, 0, none⟩ : Addr).add j) = some u) := fun j v hj => by
    rw [Addr.add_lit, Nat.zero_add, Lib.cell_of_heap hV, ← Array.getElem?_toList]
    exact hj
  have hx1 : Hid (∀ v ∈ x.cells, v.oneCell' = true) := fun v hv => oneI [x] v (by simpa [cellsI] using hv)
  clear hV
  generalize x.cells = X at HC hlen hx1 ⊢
  generalize cellsI l = L at ho ⊢
  generalize l.length = n at ho hn hlc ⊢
  by_cases hcn : c = n
  · subst hcn
    go_enter Tryz.func30, Tryz.ntmps30
    go_wp2_with (at_builtin; refine wpList_append_own _ rfl _ _ 22 rfl N 26 i0 (.agg #[.string ⟨#[]⟩, .int .i64 0, .int .i64 0, .int .i64 0, .string ⟨#[]⟩, .bool false]) 6 64 Tryz.underlying22 hi hz0 hz1 hz2 rfl (by decide) _ _ _ rfl ho ⟨V, 0, none⟩ 1 1 X rfl (by omega) HC.out hx1.out ?c4 ?c5 hN ?_)
    case c4 => simp only [maxLen]; omega
    case c5 => omega
    intro v' w1 hown hgrow hnil
    go_wp2_with fail
    go_ret
    exact ⟨v', rfl, hown, hgrow⟩
  · go_enter Tryz.func30, Tryz.ntmps30
    go_wp2_with (at_builtin; refine wpList_append_own _ rfl _ _ 22 rfl N 26 i0 (.agg #[.string ⟨#[]⟩, .int .i64 0, .int .i64 0, .int .i64 0, .string ⟨#[]⟩, .bool false]) 6 64 Tryz.underlying22 hi hz0 hz1 hz2 rfl (by decide) _ _ _ rfl ho ⟨V, 0, none⟩ 1 1 X rfl (by omega) HC.out hx1.out ?c4 ?c5 hN ?_)
    case c4 => simp only [maxLen]; omega
    case c5 => omega
    intro v' w1 hown hgrow hnil
    go_wp2_with fail
    go_ret
    exact ⟨v', rfl, hown, hgrow⟩
theorem grow_row {α : Type} {R A X D : List α} {p k : Nat} (hA : R.take p = A) (hp : A.length = p) (hX : X.length = k) (hm : p + k + D.length ≤ R.length) :
    (splice (splice R p X) (p + k) D).take (p + k + D.length) = A ++ (X ++ D) ∧ (splice (splice R p X) (p + k) D).length = R.length := by
  have e1 : (splice R p X).length = R.length := length_splice _ _ _ (by omega)
  have e2 : (splice (splice R p X) (p + k) D).length = R.length := by rw [length_splice _ _ _ (by omega)]; exact e1
  refine ⟨?_, e2⟩
  have t1 : (splice R p X).take (p + k) = A ++ X := by
    unfold splice
    rw [hA, ← List.append_assoc, List.take_append_of_le_length (by rw [List.length_append]; omega), List.take_of_length_le (by rw [List.length_append]; omega)]
  rw [show splice (splice R p X) (p + k) D = (splice R p X).take (p + k) ++ (D ++ (splice R p X).drop (p + k + D.length)) from rfl, t1, ← List.append_assoc, List.take_append_of_le_length (by rw [List.length_append, List.length_append]; omega), List.take_of_length_le (by rw [List.length_append, List.length_append]; omega), List.append_assoc]
theorem zero_size (n : Nat) : (Builtin.zeroCells (Value.agg #[.string ⟨#[]⟩, .int .i64 0, .int .i64 0, .int .i64 0, .string ⟨#[]⟩, .bool false]).cells n).size = n * 6 := by simp [Builtin.zeroCells, Value.cells]
set_option maxRecDepth 100000 in
set_option maxHeartbeats 8000000 in
theorem insert_grow (l : List It) (x : It) (g V d q : Nat) (cur : Array Value) (w : World) (hq : q < l.length) (hnd : l.length ≤ d) (hroom : d < l.length + 1) (hn : l.length ≤ 1000000) (hg : w.heap[g]? = some (.cells cur 26 (0, 0))) (hc : cur.toList.take (l.length * 6) = cellsI l) (hV : w.heap[V]? = some (.cells #[.string x.n, .int .i64 x.g, .int .i64 x.i, .int .i64 x.t, .string x.a, .bool x.w] 26 (0, 0))) : Calls Tryz.prog 30 #[.slice (some ⟨g, 0, none⟩) l.length d, .int .i64 q, .slice (some ⟨V, 0, none⟩) 1 1] w fun e w' => ∃ H G, e = .returned (.slice (some ⟨H, 0, none⟩) (l.length + 1) G) ∧ l.length + 1 ≤ G ∧ G ≤ maxLen ∧ w.heap.size ≤ H ∧ (∃ cur2 : Array Value, w'.heap[H]? = some (.cells cur2 26 (0, 0)) ∧ cur2.size = G * 6 ∧ cur2.toList.take ((l.length + 1) * 6) = cellsI (l.take q ++ x :: l.drop q)) ∧ w.grownBy w' none := by
  obtain ⟨i0, hi0, hx⟩ := Option.map_eq_some_iff.1 infoIt
  simp only [Prod.mk.injEq] at hx
  obtain ⟨hz0, hz1, hz2⟩ := hx
  have hL := cellsI_len l
  have hcl : ∀ p j v, ((cellsI l).drop p)[j]? = some v → cur[p + j]? = some v := fun p j v hj => by
    rw [List.getElem?_drop, ← hc, List.getElem?_take] at hj
    split at hj
    · rw [← Array.getElem?_toList]; exact hj
    · cases hj
  have htl : ((cellsI l).take (q * 6)).length = q * 6 := by rw [List.length_take, hL]; omega
  have hold : (Builtin.firstCells i0.size q (.slice (some ⟨g, 0, none⟩) q d)).run Tryz.prog w.drew = .ok ((cellsI l).take (q * 6)).toArray w.drew := by
    rw [hz1]
    exact run_firstCells_some w.drew 6 q ⟨g, 0, none⟩ q d ((cellsI l).take (q * 6)) htl (fun j v hj => by
      rw [Addr.add_lit, Nat.zero_add]
      show w.cell? _ = _
      rw [Lib.cell_of_heap hg]
      rw [List.getElem?_take] at hj
      split at hj
      · have := hcl 0 j v (by simpa using hj)
        rwa [Nat.zero_add] at this
      · cases hj)
  have hik : q + (l.length + 1 - q) = l.length + 1 := by omega
  have hkk : (l.length : Int) + 1 - (q : Int) = ((l.length + 1 - q : Nat) : Int) := by omega
  have hrz : ∀ ty, (Builtin.append_ #[22, 3] ty #[.slice (some ⟨g, 0, none⟩) q d, .int .i64 ((l.length : Int) + 1 - (q : Int))]).run Tryz.prog w =
      .ok (.slice (some ⟨w.heap.size, 0, none⟩) (l.length + 1) (grownCap w (l.length + 1) d 26)) (w.drew.alloc (.cells (((cellsI l).take (q * 6)).toArray ++ Builtin.zeroCells (Value.agg #[.string ⟨#[]⟩, .int .i64 0, .int .i64 0, .int .i64 0, .string ⟨#[]⟩, .bool false]).cells (l.length + 1 - q) ++ Builtin.zeroCells (Value.agg #[.string ⟨#[]⟩, .int .i64 0, .int .i64 0, .int .i64 0, .string ⟨#[]⟩, .bool false]).cells (grownCap w (l.length + 1) d 26 - (l.length + 1))) 26)) := fun ty => by
    have h := Lib.run_append_grow_zeros w 22 3 ty 26 i0 _ .i64 .i64 Tryz.underlying22 Tryz.underlying3 hi0 hz0 (some ⟨g, 0, none⟩) q d ((cellsI l).take (q * 6)) hold (l.length + 1 - q) (by omega) (by omega) (by omega) (by omega) (by rw [hz2]; omega) (by rw [hz2, hik]; exact growslice_fits hroom (by omega))
    rw [hik] at h
    rw [hkk]
    exact h
  have hGn : l.length + 1 ≤ grownCap w (l.length + 1) d 26 := grownCap_ge w _ _ _
  have hGm : grownCap w (l.length + 1) d 26 ≤ maxLen := grownCap_le_maxLen w (l.length + 1) d 26 (by unfold maxLen; omega)
  generalize grownCap w (l.length + 1) d 26 = G at hrz hGn hGm
  have hG63 : G ≤ 9223372036854775807 := hGm
  obtain ⟨ROW, hROW⟩ : ∃ ROW : Array Value, ROW = ((cellsI l).take (q * 6)).toArray ++ Builtin.zeroCells (Value.agg #[.string ⟨#[]⟩, .int .i64 0, .int .i64 0, .int .i64 0, .string ⟨#[]⟩, .bool false]).cells (l.length + 1 - q) ++ Builtin.zeroCells (Value.agg #[.string ⟨#[]⟩, .int .i64 0, .int .i64 0, .int .i64 0, .string ⟨#[]⟩, .bool false]).cells (G - (l.length + 1)) := ⟨_, rfl⟩
  rw [← hROW] at hrz
  have hRs : ROW.size = G * 6 := by
    rw [hROW, Array.size_append, Array.size_append, zero_size, zero_size, List.size_toArray, htl]
    omega
  have hRt : ROW.toList.take (q * 6) = (cellsI l).take (q * 6) := by
    rw [hROW, Array.toList_append, Array.toList_append, List.append_assoc, List.toList_toArray, List.take_append_of_le_length (by omega), List.take_of_length_le (by omega)]
  have eRl : ROW.toList.length = G * 6 := hRs
  have hdl : ((cellsI l).drop (q * 6)).length = (l.length - q) * 6 := by rw [List.length_drop, hL]; omega
  have hx6 : x.cells.length = 6 := rfl
  have HS := Lib.hid (grow_row (R := ROW.toList) (X := x.cells) (D := (cellsI l).drop (q * 6)) (k := 6) hRt htl hx6 (by omega))
  rw [hdl, eRl, show q * 6 + 6 = (q + 1) * 6 by omega, show (q + 1) * 6 + (l.length - q) * 6 = (l.length + 1) * 6 by omega, ← cellsI_ins] at HS
  have hx1 : ∀ v ∈ x.cells, v.oneCell' = true := fun v hv => oneI [x] v (by simpa [cellsI] using hv)
  have h1l := oneI l
  obtain ⟨W0, hW0⟩ : ∃ W0, W0 = w.drew.alloc (.cells ROW 26) := ⟨_, rfl⟩
  rw [← hW0] at hrz
  have hH0 : W0.heap[w.heap.size]? = some (.cells ROW 26 (0, 0)) := by rw [hW0]; exact box_new w.drew ROW 26
  have hb0 : Below w.heap.size w W0 := by rw [hW0]; exact (Below.refl _ w).drew.alloc (Nat.le_refl _) _
  have hV0 := (hb0.block _ (heap_lt hV)).trans hV
  have hg0 := (hb0.block _ (heap_lt hg)).trans hg
  have hVH : V ≠ w.heap.size := Nat.ne_of_lt (heap_lt hV)
  have hgH : g ≠ w.heap.size := Nat.ne_of_lt (heap_lt hg)
  have hlq : l.length + 1 - q ≥ 1 := by omega
  have hcp1 := run_copy6 W0 3 w.heap.size (q * 6) (l.length + 1 - q) (G - q) ⟨V, 0, none⟩ 1 1 ROW x.cells hH0 (by rw [nml (by omega)]; rfl) (fun j v hj => by
    rw [Addr.add_lit, Nat.zero_add, Lib.cell_of_heap hV0, ← Array.getElem?_toList]
    exact hj) (by rw [hRs]; show q * 6 + 6 ≤ G * 6; omega) hx1
  rw [nml hlq] at hcp1
  obtain ⟨R1, hR1⟩ : ∃ R1, R1 = splice ROW.toList (q * 6) x.cells := ⟨_, rfl⟩
  have hR1l : R1.length = G * 6 := by rw [hR1, length_splice _ _ _ (by omega), eRl]
  rw [← hR1] at hcp1 HS
  obtain ⟨W1, hW1⟩ : ∃ W1, W1 = W0.setRow w.heap.size R1.toArray := ⟨_, rfl⟩
  rw [← hW1] at hcp1
  have hH1 : W1.heap[w.heap.size]? = some (.cells R1.toArray 26 (0, 0)) := by rw [hW1]; exact setRow_heap _ _ _ _ _ _ hH0
  have hg1 : W1.heap[g]? = some (.cells cur 26 (0, 0)) := by rw [hW1]; exact (setRow_other _ _ _ _ hgH).trans hg0
  have hb1 : Below w.heap.size w W1 := by rw [hW1]; exact below_setRow hb0 (Nat.le_refl _) _
  have hs0 : w.heap.size < W1.heap.size := heap_lt hH1
  have hsrc : ∀ j v, ((cellsI l).drop (q * 6))[j]? = some v → ∀ W : World, W.heap[g]? = some (.cells cur 26 (0, 0)) → W.cell? ((⟨g, q * 6, none⟩ : Addr).add j) = some v := fun j v hj W hW => by
    rw [Addr.add_lit, Lib.cell_of_heap hW]
    exact hcl _ _ _ hj
  have hcp2 := Lib.hid fun (W : World) (h1 : W.heap[w.heap.size]? = some (.cells R1.toArray 26 (0, 0))) (h2 : W.heap[g]? = some (.cells cur 26 (0, 0))) => run_copy6 W 3 w.heap.size ((q + 1) * 6) (l.length - q) (G - (q + 1)) ⟨g, q * 6, none⟩ (l.length - q) (d - q) R1.toArray ((cellsI l).drop (q * 6)) h1 (by rw [nml (Nat.le_refl _), hdl]) (fun j v hj => hsrc j v hj W h2) (by rw [List.size_toArray, hR1l, hdl]; omega) (fun v hv => h1l v (List.mem_of_mem_drop hv))
  rw [nml (Nat.le_refl _)] at hcp2
  have hq3 : ((q : Int) == (l.length : Int)) = false := by simp; omega
  have hr2 : (d : Int) < (l.length : Int) + 1 := by omega
  have hq2 : (q : Int) ≤ l.length := by omega
  have hgg1 : ¬ G = q := by omega
  have hgg2 : ¬ G = q + 1 := by omega
  have hdq : ¬ d = q := by omega
  clear hb0 hV0 hg0 hVH hH0 hx1 hRt hRs hROW hold hsrc h1l hdl hcl hL htl hik hkk hR1 eRl hx6 hW1 hW0
  go_enter Tryz.func30, Tryz.ntmps30
  go_wp2_with (first
    | (at_builtin; refine Lib.wpList_append_run _ rfl _ _ _ _ rfl _ _ rfl rfl _ _ (hrz _) ?_))
  have hsome := extSome W1
  refine ext_tail 8 (by kernel_rfl) (by kernel_rfl) ?_
  simp only [List.take_succ_cons, List.take_zero, List.drop_succ_cons, List.drop_zero]
  repeat (go_big_quiet_step (fail))
  refine wpQuiet_nil ?_
  rintro _ ⟨z, hy⟩
  subst hy
  have HH := kpB z.below (Lib.hid hH1)
  have HG := kpB z.below (Lib.hid hg1)
  have HB := Lib.hid (hb1.trans (z.below.mono hb1.size))
  clear hH1 hg1 hb1 hcp1 hrz hs0
  generalize z.to = W at HH HG HB ⊢
  clear z hsome
  have hcp := hcp2.out W HH.out HG.out
  clear hcp2
  generalize (cellsI l).drop (q * 6) = D at hcp HS
  have HH2 := Lib.hid (setRow_heap W w.heap.size _ (splice R1.toArray.toList ((q + 1) * 6) D).toArray _ _ HH.out)
  have HB2 := Lib.hid (below_setRow HB.out (Nat.le_refl _) (splice R1.toArray.toList ((q + 1) * 6) D).toArray)
  rw [List.toList_toArray] at HH2 HB2
  have hl2 := HS.out.2
  have hfin := Lib.hid HS.out.1
  generalize splice R1 ((q + 1) * 6) D = S2 at hcp HH2 HB2 hl2 hfin
  clear HS
  have HL2 := Lib.hid hl2
  clear hl2
  go_wp2_with fail
  go_ret
  exact ⟨_, _, rfl, hGn, hGm, Nat.le_refl _, ⟨_, HH2.out, by rw [List.size_toArray]; exact HL2.out, hfin.out⟩, grownOf HB2.out⟩
set_option maxRecDepth 100000 in
set_option maxHeartbeats 8000000 in
theorem insert_any (l : List It) (x : It) (b : Option Addr) (c N V q : Nat) (w : World) (ho : OwI w N (.slice b l.length c) l) (hq : q ≤ l.length) (hn : l.length ≤ 1000000) (hN : N ≤ w.heap.size) (hV : w.heap[V]? = some (.cells #[.string x.n, .int .i64 x.g, .int .i64 x.i, .int .i64 x.t, .string x.a, .bool x.w] 26 (0, 0))) (hne : ∀ a, b = some a → a.block ≠ V) : Calls Tryz.prog 30 #[.slice b l.length c, .int .i64 q, .slice (some ⟨V, 0, none⟩) 1 1] w fun e w' => ∃ b' c', e = .returned (.slice b' (l.length + 1) c') ∧ OwI w' N (.slice b' (l.length + 1) c') (l.take q ++ x :: l.drop q) ∧ w.grownBy w' (Value.slice b l.length c).ownBlock := by
  have hlen : (l.take q ++ x :: l.drop q).length = l.length + 1 := by rw [List.length_append, List.length_cons, List.length_take, List.length_drop]; omega
  by_cases hql : q = l.length
  · subst hql
    refine (insert_end l x b c N V w ho hn hN hV).mono ?_
    rintro e w' ⟨v, rfl, h1, h2⟩
    have h3 : OwI w' N v (l.take l.length ++ x :: l.drop l.length) := by
      unfold OwI
      rw [hlen, List.take_length, List.drop_length, cellsI_app]
      simpa [cellsI] using h1
    obtain ⟨b', c', rfl, _⟩ := h3.slice
    rw [hlen] at h3 ⊢
    exact ⟨b', c', rfl, h3, h2⟩
  · have hq2 : q < l.length := by omega
    unfold OwI at ho
    obtain ⟨_, h0⟩ := ho
    rcases h0 with ⟨h1, h0⟩ | ⟨g, cap, cur, h1, h2, h3, h4, h5, h6, h7⟩
    · omega
    · simp only [Value.slice.injEq] at h1
      obtain ⟨rfl, _, rfl⟩ := h1
      by_cases hroom : l.length + 1 ≤ c
      · refine (insert_shift l x g V c q cur w hq2 hroom h5 h6 h3 h7 hV (fun e => hne _ rfl e.symm)).mono ?_
        rintro e w' ⟨rfl, ⟨cur2, k1, k2, k3⟩, k4⟩
        exact ⟨_, _, rfl, ⟨by rw [cellsI_len], .inr ⟨g, c, cur2, by rw [hlen], h2, k1, by rw [hlen]; exact hroom, h5, k2, by rw [hlen]; exact k3⟩⟩, k4⟩
      · refine (insert_grow l x g V c q cur w hq2 h4 (by omega) hn h3 h7 hV).mono ?_
        rintro e w' ⟨H, G, rfl, k0, kG, kH, ⟨cur2, k1, k2, k3⟩, k4⟩
        exact ⟨_, _, rfl, ⟨by rw [cellsI_len], .inr ⟨H, G, cur2, by rw [hlen], Nat.le_trans hN kH, k1, by rw [hlen]; exact k0, kG, k2, by rw [hlen]; exact k3⟩⟩, grown_any k4⟩
end Go.Proofs.YtdmbngkkbgmlfaaGreatDoor.T
