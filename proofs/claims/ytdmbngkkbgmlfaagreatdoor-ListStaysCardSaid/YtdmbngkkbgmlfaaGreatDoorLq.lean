/- Contract: Delete of one. Conditions: those of each theorem's head. -/
import Derived.Test.YtdmbngkkbgmlfaaGreatDoorLp
namespace Go.Proofs.YtdmbngkkbgmlfaaGreatDoor.T
open Go.RowKit Go.Lib

theorem del_row {α : Type} {cur L Z : List α} {m p k : Nat} (hc : cur.take m = L) (hL : L.length = m) (hp : p + k ≤ m) (hZ : Z.length = k) (hm : m ≤ cur.length) :
    (splice (splice cur p (L.drop (p + k))) (m - k) Z).take (m - k) = L.take p ++ L.drop (p + k) ∧ (splice (splice cur p (L.drop (p + k))) (m - k) Z).length = cur.length := by
  have hdl : (L.drop (p + k)).length = m - k - p := by rw [List.length_drop, hL]; omega
  have e1 : (splice cur p (L.drop (p + k))).length = cur.length := length_splice _ _ _ (by omega)
  refine ⟨?_, by rw [length_splice _ _ _ (by omega)]; exact e1⟩
  have hp2 : cur.take p = L.take p := by rw [← hc, List.take_take, Nat.min_eq_left (by omega)]
  have t1 : (splice cur p (L.drop (p + k))).take (m - k) = L.take p ++ L.drop (p + k) := by
    unfold splice
    rw [hp2, ← List.append_assoc, List.take_append_of_le_length (by rw [List.length_append, List.length_take, hL, hdl]; omega), List.take_of_length_le (by rw [List.length_append, List.length_take, hL, hdl]; omega)]
  rw [show splice (splice cur p (L.drop (p + k))) (m - k) Z = (splice cur p (L.drop (p + k))).take (m - k) ++ (Z ++ (splice cur p (L.drop (p + k))).drop (m - k + Z.length)) from rfl, t1, List.take_append_of_le_length (by rw [List.length_append, List.length_take, hL, hdl]; omega), List.take_of_length_le (by rw [List.length_append, List.length_take, hL, hdl]; omega)]
theorem cellsI_del (l : List It) (q : Nat) : cellsI (l.take q ++ l.drop (q + 1)) = (cellsI l).take (q * 6) ++ (cellsI l).drop (q * 6 + 6) := by
  rw [cellsI_app, cellsI_take, cellsI_drop, show (q + 1) * 6 = q * 6 + 6 by omega]
theorem dm {q n : Nat} (h : q < n) : q + (n - (q + 1)) = n - 1 := by omega
set_option maxRecDepth 100000 in
set_option maxHeartbeats 8000000 in
theorem delete_in (l : List It) (g d q j : Nat) (cur : Array Value) (w : World) (hj : j = q + 1) (hq : q < l.length) (hnd : l.length ≤ d) (hd : d ≤ maxLen) (hs : cur.size = d * 6) (hg : w.heap[g]? = some (.cells cur 26 (0, 0))) (hc : cur.toList.take (l.length * 6) = cellsI l) (hdj : ¬ d = j) : Calls Tryz.prog 32 #[.slice (some ⟨g, 0, none⟩) l.length d, .int .i64 q, .int .i64 j] w fun e w' => e = .returned (.slice (some ⟨g, 0, none⟩) (l.length - 1) d) ∧ (∃ cur2 : Array Value, w'.heap[g]? = some (.cells cur2 26 (0, 0)) ∧ cur2.size = d * 6 ∧ cur2.toList.take ((l.length - 1) * 6) = cellsI (l.take q ++ l.drop (q + 1))) ∧ w.grownBy w' (some g) := by
  have hd2 : d ≤ 9223372036854775807 := hd
  have hn1 : l.length ≤ d := hnd
  have hq2 : (q : Int) ≤ j := by omega
  have hj2 : j ≤ l.length := by omega
  have hqj : ((q : Int) == (j : Int)) = false := by simp; omega
  have hq1 : ¬ (q : Int) = j := by omega
  have hq5 : q < d := by omega
  have hq3 : q ≤ j := by omega
  have hq4 : q ≤ d := by omega
  have hj4 : j ≤ d := by omega
  have hqd : ¬ d = q := by omega
  have hlq : ¬ l.length = q := by omega
  have hjd : ¬ d = j := hdj
  have HJ := Lib.hid hj
  clear hj
  go_enter Tryz.func32, Tryz.ntmps32
  go_wp2_with fail
  have hsome := extSome w
  refine ext_tail 6 (by kernel_rfl) (by kernel_rfl) ?_
  simp only [List.take_succ_cons, List.take_zero, List.drop_succ_cons, List.drop_zero]
  repeat (go_big_quiet_step (fail))
  refine wpQuiet_nil ?_
  rintro _ ⟨z, hy⟩
  subst hy
  have HG := kpB z.below (Lib.hid hg)
  have HW := Lib.hid (grownOf z.below)
  clear hg
  generalize z.to = W at HG HW ⊢
  clear z hsome
  have hL := cellsI_len l
  have hj := HJ.out
  have hzl : zI.length = 6 := rfl
  have ecur : cur.toList.length = d * 6 := by rw [← hs]; exact Array.length_toList
  have HS := Lib.hid (del_row (Z := zI) (m := l.length * 6) (p := q * 6) (k := 6) hc hL (by omega) hzl (by omega))
  have h1l := oneI l
  have hdl : ((cellsI l).drop (q * 6 + 6)).length = (l.length - j) * 6 := by rw [List.length_drop, hL]; omega
  have hsrc : ∀ i v, ((cellsI l).drop (q * 6 + 6))[i]? = some v → W.cell? ((⟨g, j * 6, none⟩ : Addr).add i) = some v := fun i v hi => by
    rw [List.getElem?_drop] at hi
    rw [Addr.add_lit, Lib.cell_of_heap HG.out]
    rw [← hc, List.getElem?_take] at hi
    split at hi
    · rw [← Array.getElem?_toList, hj, show (q + 1) * 6 = q * 6 + 6 by omega]; exact hi
    · cases hi
  rw [show l.length * 6 - 6 = (l.length - 1) * 6 by omega, ← cellsI_del] at HS
  have hap := run_app6 W 22 g q d ⟨g, j * 6, none⟩ (l.length - j) (d - j) cur ((cellsI l).drop (q * 6 + 6)) HG.out hdl hsrc (by omega) (by rw [hdl]; omega) (fun v hv => h1l v (List.mem_of_mem_drop hv))
  rw [show q + (l.length - j) = l.length - 1 by omega] at hap
  have HG1 := Lib.hid (setRow_heap W g cur (splice cur.toList (q * 6) ((cellsI l).drop (q * 6 + 6))).toArray _ _ HG.out)
  have HW1 := Lib.hid (grown_row (cs := (splice cur.toList (q * 6) ((cellsI l).drop (q * 6 + 6))).toArray) (grown_any HW.out (r := some g)))
  have hsz := HS.out.2
  have hsz1 : (splice cur.toList (q * 6) ((cellsI l).drop (q * 6 + 6))).length = d * 6 := by
    rw [length_splice _ _ _ (by rw [hdl]; omega)]
    omega
  rw [ecur] at hsz
  clear hj hsrc hdl h1l hL hc HG HW ecur
  generalize splice cur.toList (q * 6) ((cellsI l).drop (q * 6 + 6)) = S1 at hap HG1 HW1 HS hsz hsz1
  have hcr := Lib.hid fun ty c => run_clear6 (W.setRow g S1.toArray) ty g ((l.length - 1) * 6) c S1.toArray HG1.out (by rw [List.size_toArray, hsz1]; omega)
  rw [List.toList_toArray] at hcr
  have HG2 := Lib.hid (setRow_heap (W.setRow g S1.toArray) g _ (splice S1 ((l.length - 1) * 6) zI).toArray _ _ HG1.out)
  have HW2 := Lib.hid (grown_row (cs := (splice S1 ((l.length - 1) * 6) zI).toArray) HW1.out)
  have hfin := Lib.hid HS.out.1
  clear HS HG1 HW1
  generalize splice S1 ((l.length - 1) * 6) zI = S2 at hcr HG2 HW2 hsz hfin
  have hcr1 := hcr.out 0 (d - (l.length - 1))
  clear hcr
  have hdl1 : ¬ d = l.length - 1 := by omega
  have hl1 : l.length - (l.length - 1) = 1 := by omega
  have hl2 : l.length - 1 ≤ l.length := by omega
  have hl3 : l.length - 1 ≤ d := by omega
  have hsz2 := Lib.hid (show S2.length = d * 6 from hsz)
  clear hsz hsz1
  go_wp2_with (at_builtin; refine Lib.wpList_append_run _ rfl _ _ _ _ rfl _ _ rfl rfl _ _ hap ?_)
  go_ret
  exact ⟨rfl, ⟨_, HG2.out, by rw [List.size_toArray]; exact hsz2.out, hfin.out⟩, HW2.out⟩
set_option maxRecDepth 100000 in
set_option maxHeartbeats 8000000 in
theorem delete_full (l : List It) (g d q : Nat) (cur : Array Value) (w : World) (hq : d = q + 1) (hl : l.length = d) (hd : d ≤ maxLen) (hs : cur.size = d * 6) (hg : w.heap[g]? = some (.cells cur 26 (0, 0))) (hc : cur.toList.take (l.length * 6) = cellsI l) : Calls Tryz.prog 32 #[.slice (some ⟨g, 0, none⟩) l.length d, .int .i64 q, .int .i64 d] w fun e w' => e = .returned (.slice (some ⟨g, 0, none⟩) q d) ∧ (∃ cur2 : Array Value, w'.heap[g]? = some (.cells cur2 26 (0, 0)) ∧ cur2.size = d * 6 ∧ cur2.toList.take (q * 6) = cellsI (l.take q ++ l.drop (q + 1))) ∧ w.grownBy w' (some g) := by
  have hd2 : d ≤ 9223372036854775807 := hd
  have HL := Lib.hid hl
  have hle : l.length ≤ d := by omega
  have hle2 : d ≤ l.length := by omega
  have hqd1 : q ≤ d := by omega
  have hq2 : (q : Int) ≤ d := by omega
  have hqj : ((q : Int) == (d : Int)) = false := by simp; omega
  have hq1 : ¬ (q : Int) = d := by omega
  have hqd : ¬ d = q := by omega
  have hlq : ¬ l.length = q := by omega
  have hq5 : q < d := by omega
  have hq6 : q ≤ l.length := by omega
  have HQ := Lib.hid hq
  have HC := Lib.hid hc
  clear hl hq hc
  go_enter Tryz.func32, Tryz.ntmps32
  go_wp2_with fail
  have hsome := extSome w
  refine ext_tail 6 (by kernel_rfl) (by kernel_rfl) ?_
  simp only [List.take_succ_cons, List.take_zero, List.drop_succ_cons, List.drop_zero]
  repeat (go_big_quiet_step (fail))
  refine wpQuiet_nil ?_
  rintro _ ⟨z, hy⟩
  subst hy
  have HG := kpB z.below (Lib.hid hg)
  have HW := Lib.hid (grownOf z.below)
  clear hg
  generalize z.to = W at HG HW ⊢
  clear z hsome
  have ecur : cur.toList.length = d * 6 := by rw [← hs]; exact Array.length_toList
  have hl1 : l.length - q = 1 := by rw [HL.out]; have := HQ.out; omega
  have hcr := Lib.hid fun ty c => run_clear6 W ty g (q * 6) c cur HG.out (by rw [hs]; omega)
  have HG2 := Lib.hid (setRow_heap W g cur (splice cur.toList (q * 6) zI).toArray _ _ HG.out)
  have HW2 := Lib.hid (grown_row (cs := (splice cur.toList (q * 6) zI).toArray) (grown_any HW.out (r := some g)))
  have hzl : zI.length = 6 := rfl
  have hfin : Hid ((splice cur.toList (q * 6) zI).take (q * 6) = cellsI (l.take q ++ l.drop (q + 1))) := by
    have hl := HL.out
    have hq := HQ.out
    rw [List.drop_of_length_le (by omega), List.append_nil, cellsI_take, ← HC.out]
    unfold splice
    rw [List.take_append_of_le_length (by rw [List.length_take]; omega), List.take_take, List.take_take, Nat.min_self, Nat.min_eq_left (by omega)]
    exact Lib.hid rfl
  have hsz : Hid ((splice cur.toList (q * 6) zI).length = d * 6) := by
    rw [length_splice _ _ _ (by omega)]
    exact ecur
  generalize splice cur.toList (q * 6) zI = S2 at hcr HG2 HW2 hsz hfin
  have hcr1 := hcr.out 0 (d - q)
  clear hcr
  go_wp2_with fail
  go_ret
  exact ⟨rfl, ⟨_, HG2.out, by rw [List.size_toArray]; exact hsz.out, hfin.out⟩, HW2.out⟩
set_option maxRecDepth 100000 in
set_option maxHeartbeats 8000000 in
theorem delete_any (l : List It) (b : Option Addr) (c N q j : Nat) (w : World) (ho : OwI w N (.slice b l.length c) l) (hq : q < l.length) (hj : j = q + 1) : Calls Tryz.prog 32 #[.slice b l.length c, .int .i64 q, .int .i64 j] w fun e w' => e = .returned (.slice b (l.length - 1) c) ∧ OwI w' N (.slice b (l.length - 1) c) (l.take q ++ l.drop (q + 1)) ∧ w.grownBy w' (Value.slice b l.length c).ownBlock := by
  have hlen : (l.take q ++ l.drop (q + 1)).length = l.length - 1 := by rw [List.length_append, List.length_drop, List.length_take]; omega
  unfold OwI at ho
  obtain ⟨_, h0⟩ := ho
  rcases h0 with ⟨h1, h0⟩ | ⟨g, cap, cur, h1, h2, h3, h4, h5, h6, h7⟩
  · omega
  · simp only [Value.slice.injEq] at h1
    obtain ⟨rfl, _, rfl⟩ := h1
    by_cases hcj : c = j
    · subst hcj
      have hl : l.length = c := by omega
      refine (delete_full l g c q cur w hj hl h5 h6 h3 h7).mono ?_
      rintro e w' ⟨rfl, ⟨cur2, k1, k2, k3⟩, k4⟩
      have hq1 : q = l.length - 1 := by omega
      rw [← hq1] at hlen ⊢
      exact ⟨rfl, ⟨by rw [cellsI_len], .inr ⟨g, c, cur2, by rw [hlen], h2, k1, by rw [hlen]; omega, h5, k2, by rw [hlen]; exact k3⟩⟩, k4⟩
    · refine (delete_in l g c q j cur w hj hq h4 h5 h6 h3 h7 hcj).mono ?_
      rintro e w' ⟨rfl, ⟨cur2, k1, k2, k3⟩, k4⟩
      exact ⟨rfl, ⟨by rw [cellsI_len], .inr ⟨g, c, cur2, by rw [hlen], h2, k1, by rw [hlen]; omega, h5, k2, by rw [hlen]; exact k3⟩⟩, k4⟩
end Go.Proofs.YtdmbngkkbgmlfaaGreatDoor.T
