/- Laws: a row of items that is written in place. Conditions: those of each theorem's head. -/
import Derived.Test.YtdmbngkkbgmlfaaGreatDoorLn
import Derived.Laws.CopyOwn
import Derived.Laws.IdiomCopy
import Derived.Shelf.Spec.SlicesInsert
import Derived.Lib.AppendZerosOnto
import Derived.Laws.NewBlocks
import Derived.ArgAppend
import Derived.Lib.FrozenHead2
namespace Go.Proofs.YtdmbngkkbgmlfaaGreatDoor.T
open Go.RowKit Go.Lib

theorem sizeI : (Tryz.prog.info? 26).map (·.size) = some 6 := by
  obtain ⟨i, hi, hx⟩ := Option.map_eq_some_iff.1 infoIt
  simp only [Prod.mk.injEq] at hx
  rw [hi]
  simp [hx.2.1]
theorem run_store_row (w : World) (g o : Nat) (cur : Array Value) (vs : List Value) (hg : w.heap[g]? = some (.cells cur 26 (0, 0))) (hfit : o + vs.length ≤ cur.size) (h1 : ∀ v ∈ vs, v.oneCell' = true) : (storeCells ⟨g, o, none⟩ vs 0).run Tryz.prog w = .ok () (w.setRow g (splice cur.toList o vs).toArray) := by
  have h := run_storeCells_at (P := Tryz.prog) g o 26 vs 0 cur w hg (by simpa using hfit) h1
  rw [h]
  simp [splice]
theorem run_copy6 (w : World) (ty : TypeId) (g o dLen dCap : Nat) (a : Addr) (sLen sCap : Nat) (cur : Array Value) (cs : List Value) (hg : w.heap[g]? = some (.cells cur 26 (0, 0))) (hn : cs.length = Nat.min sLen dLen * 6)
    (hsrc : ∀ j v, cs[j]? = some v → w.cell? (a.add j) = some v) (hfit : o + cs.length ≤ cur.size) (h1 : ∀ v ∈ cs, v.oneCell' = true) :
    (Builtin.copy_ #[22, 22] ty #[.slice (some ⟨g, o, none⟩) dLen dCap, .slice (some a) sLen sCap]).run Tryz.prog w = .ok (goInt (Nat.min sLen dLen)) (w.setRow g (splice cur.toList o cs).toArray) := by
  have hl := run_loadCells_list (P := Tryz.prog) w a cs hsrc
  have hst := run_store_row w g o cur cs hg hfit h1
  cases hq : Tryz.prog.info? 26 with
  | none => have := sizeI; simp [hq] at this
  | some i =>
    have hi : i.size = 6 := by have := sizeI; simpa [hq] using this
    simp [Builtin.copy_, run_underlying Tryz.underlying22, Builtin.lenOf, Builtin.firstCells, sizeOf, typeInfo, hq, hi, ← hn, hl, hst]
theorem run_app6 (w : World) (ty : TypeId) (g n cap : Nat) (a : Addr) (m c : Nat) (cur : Array Value) (news : List Value) (hg : w.heap[g]? = some (.cells cur 26 (0, 0))) (hl : news.length = m * 6)
    (hsrc : ∀ j v, news[j]? = some v → w.cell? (a.add j) = some v) (hroom : n + m ≤ cap) (hfit : n * 6 + news.length ≤ cur.size) (h1 : ∀ v ∈ news, v.oneCell' = true) :
    (Builtin.append_ #[22, 22] ty #[.slice (some ⟨g, 0, none⟩) n cap, .slice (some a) m c]).run Tryz.prog w = .ok (.slice (some ⟨g, 0, none⟩) (n + m) cap) (w.setRow g (splice cur.toList (n * 6) news).toArray) := by
  obtain ⟨i, hi, hx⟩ := Option.map_eq_some_iff.1 infoIt
  simp only [Prod.mk.injEq] at hx
  have h6 := hx.2.1
  have hfc := run_firstCells_some (P := Tryz.prog) w i.size m a m c news (by rw [hl, h6]) hsrc
  rw [h6] at hfc
  have hst := run_store_row w g (n * 6) cur news hg hfit h1
  simp [Builtin.append_, run_underlying Tryz.underlying22, sizeOf, typeInfo, hi, Builtin.lenOf, hroom, hfc, Addr.add_lit, h6, hst]
def zI : List Value := [.string ⟨#[]⟩, .int .i64 0, .int .i64 0, .int .i64 0, .string ⟨#[]⟩, .bool false]
theorem run_clear6 (w : World) (ty : TypeId) (g o c : Nat) (cur : Array Value) (hg : w.heap[g]? = some (.cells cur 26 (0, 0))) (hfit : o + 6 ≤ cur.size) :
    (Builtin.clear_ #[22] ty #[.slice (some ⟨g, o, none⟩) 1 c]).run Tryz.prog w = .ok (.tuple #[]) (w.setRow g (splice cur.toList o zI).toArray) := by
  have hst := run_store_row w g o cur zI hg hfit (by intro v hv; simp only [zI, List.mem_cons, List.not_mem_nil, or_false] at hv; rcases hv with rfl | rfl | rfl | rfl | rfl | rfl <;> rfl)
  have hz : (zeroValue 26).run Tryz.prog w = .ok (.agg #[.string ⟨#[]⟩, .int .i64 0, .int .i64 0, .int .i64 0, .string ⟨#[]⟩, .bool false]) w := Tryz.zeroValue26 w
  have hzc : (Builtin.zeroCells (Value.agg #[.string ⟨#[]⟩, .int .i64 0, .int .i64 0, .int .i64 0, .string ⟨#[]⟩, .bool false]).cells 1).toList = zI := by simp [Builtin.zeroCells, Value.cells, zI]; rfl
  simp [Builtin.clear_, run_underlying Tryz.underlying22, hz, hzc, hst]
theorem run_overI (w : World) (V g la ca ob lb cb : Nat) (hne : V ≠ g) (c1 c2 : Array Value) (h1 : w.heap[V]? = some (.cells c1 26 (0, 0))) (h2 : w.heap[g]? = some (.cells c2 26 (0, 0))) (hk : c2.size ≠ 0) :
    (callFunc 52 #[.slice (some ⟨V, 0, none⟩) la ca, .slice (some ⟨g, ob, none⟩) lb cb]).run Tryz.prog w = .ok (.value (.bool false)) w := by
  rw [run_callFunc_extern Tryz.func52 (by kernel_rfl) (by kernel_rfl) (by kernel_rfl) (e := Extern.SlicesOverlaps.overlaps #[22, 22] #[4]) (by kernel_rfl),
    Lib.run_overlaps_apart w 22 4 26 Tryz.underlying22 6 Tryz.sizeOf26 ⟨V, 0, none⟩ ⟨g, ob, none⟩ la ca lb cb hne 26 26 c1.size c2.size (by simp [World.shape?, h1]) (by simp [World.shape?, h2]) hk (Lib.frozen_of_heap h1 _) (Lib.frozen_of_heap h1 _)]
  rfl
theorem nmr {a b : Nat} (h : b ≤ a) : Nat.min a b = b := Nat.min_eq_right h
theorem nml {a b : Nat} (h : a ≤ b) : Nat.min a b = a := Nat.min_eq_left h
/-! ### The row behind it -/
theorem shift_row {α : Type} {cur L X : List α} {m p k : Nat} (hc : cur.take m = L) (hL : L.length = m) (hp : p ≤ m) (hX : X.length = k) (hm : m + k ≤ cur.length) :
    (splice (splice cur (p + k) (L.drop p)) p X).take (m + k) = L.take p ++ (X ++ L.drop p) ∧ (splice (splice cur (p + k) (L.drop p)) p X).length = cur.length := by
  have hdl : (L.drop p).length = m - p := by rw [List.length_drop, hL]
  have hml : m ≤ cur.length := by omega
  have e1 : (splice cur (p + k) (L.drop p)).length = cur.length := length_splice _ _ _ (by omega)
  have e2 : (splice (splice cur (p + k) (L.drop p)) p X).length = cur.length := by rw [length_splice _ _ _ (by omega)]; exact e1
  refine ⟨?_, e2⟩
  have t1 : (splice cur (p + k) (L.drop p)).take p = L.take p := by
    unfold splice
    rw [List.take_append_of_le_length (by rw [List.length_take]; omega), List.take_take, Nat.min_eq_left (by omega), ← hc, List.take_take, Nat.min_eq_left hp]
  have t2 : (splice cur (p + k) (L.drop p)).drop (p + k) = L.drop p ++ cur.drop (p + k + (L.drop p).length) := by
    unfold splice
    rw [List.drop_append_of_le_length (by rw [List.length_take]; omega), List.drop_take, Nat.sub_self, List.take_zero, List.nil_append]
  have t3 : splice (splice cur (p + k) (L.drop p)) p X = L.take p ++ (X ++ (L.drop p ++ cur.drop (p + k + (L.drop p).length))) := by
    rw [show splice (splice cur (p + k) (L.drop p)) p X = (splice cur (p + k) (L.drop p)).take p ++ (X ++ (splice cur (p + k) (L.drop p)).drop (p + X.length)) from rfl, t1, hX, t2]
  rw [t3, ← List.append_assoc X, ← List.append_assoc, List.take_append_of_le_length (by rw [List.length_append, List.length_append, List.length_take, hL, hX, hdl]; omega), List.take_of_length_le (by rw [List.length_append, List.length_append, List.length_take, hL, hX, hdl]; omega)]
theorem cellsI_take (l : List It) (q : Nat) : cellsI (l.take q) = (cellsI l).take (q * 6) := by
  induction l generalizing q with
  | nil => simp [cellsI]
  | cons y l ih =>
    cases q with
    | zero => simp [cellsI]
    | succ q =>
      have e : cellsI (y :: l) = y.cells ++ cellsI l := rfl
      have hy : y.cells.length = 6 := rfl
      rw [List.take_succ_cons, show cellsI (y :: l.take q) = y.cells ++ cellsI (l.take q) from rfl, ih, e, List.take_append, hy, List.take_of_length_le (show y.cells.length ≤ (q + 1) * 6 by rw [hy]; omega), show (q + 1) * 6 - 6 = q * 6 by omega]
theorem cellsI_drop (l : List It) (q : Nat) : cellsI (l.drop q) = (cellsI l).drop (q * 6) := by
  induction l generalizing q with
  | nil => simp [cellsI]
  | cons y l ih =>
    cases q with
    | zero => simp [cellsI]
    | succ q =>
      have e : cellsI (y :: l) = y.cells ++ cellsI l := rfl
      have hy : y.cells.length = 6 := rfl
      rw [List.drop_succ_cons, ih, e, List.drop_append, hy, List.drop_of_length_le (show y.cells.length ≤ (q + 1) * 6 by rw [hy]; omega), List.nil_append, show (q + 1) * 6 - 6 = q * 6 by omega]
theorem cellsI_app (l m : List It) : cellsI (l ++ m) = cellsI l ++ cellsI m := by simp [cellsI]
theorem cellsI_ins (l : List It) (x : It) (q : Nat) : cellsI (l.take q ++ x :: l.drop q) = (cellsI l).take (q * 6) ++ (x.cells ++ (cellsI l).drop (q * 6)) := by
  rw [cellsI_app, show cellsI (x :: l.drop q) = x.cells ++ cellsI (l.drop q) from rfl, cellsI_take, cellsI_drop]
theorem grown_row {w w' : World} {g : Nat} {cs : Array Value} (h : w.grownBy w' (some g)) : w.grownBy (w'.setRow g cs) (some g) :=
  ⟨h.os, h.tape, h.output, by have := h.size; simpa [World.setRow] using this, fun k hk hne => (setRow_other w' g k cs (fun e => hne (by rw [e]))).trans (h.block k hk hne)⟩
theorem grown_any {w w' : World} {r : Option Nat} (h : w.grownBy w' none) : w.grownBy w' r := ⟨h.os, h.tape, h.output, h.size, fun k hk _ => h.block k hk (by simp)⟩
set_option maxRecDepth 100000 in
set_option maxHeartbeats 8000000 in
theorem insert_shift (l : List It) (x : It) (g V d q : Nat) (cur : Array Value) (w : World) (hq : q < l.length) (hroom : l.length + 1 ≤ d) (hd : d ≤ maxLen) (hs : cur.size = d * 6) (hg : w.heap[g]? = some (.cells cur 26 (0, 0))) (hc : cur.toList.take (l.length * 6) = cellsI l) (hV : w.heap[V]? = some (.cells #[.string x.n, .int .i64 x.g, .int .i64 x.i, .int .i64 x.t, .string x.a, .bool x.w] 26 (0, 0))) (hne : V ≠ g) : Calls Tryz.prog 30 #[.slice (some ⟨g, 0, none⟩) l.length d, .int .i64 q, .slice (some ⟨V, 0, none⟩) 1 1] w fun e w' => e = .returned (.slice (some ⟨g, 0, none⟩) (l.length + 1) d) ∧ (∃ cur2 : Array Value, w'.heap[g]? = some (.cells cur2 26 (0, 0)) ∧ cur2.size = d * 6 ∧ cur2.toList.take ((l.length + 1) * 6) = cellsI (l.take q ++ x :: l.drop q)) ∧ w.grownBy w' (some g) := by
  have hd2 : d ≤ 9223372036854775807 := hd
  have hq1 : ¬ ((q : Int) = l.length) := by omega
  have hq3 : ((q : Int) == (l.length : Int)) = false := by simpa using hq1
  have hq2 : (q : Int) ≤ l.length := by omega
  have hr2 : ¬ (d : Int) < (l.length : Int) + 1 := by omega
  have hb1 : ¬ d = q + 1 := by omega
  have hb2 : ¬ d = q := by omega
  have hov := fun ob lb cb => run_overI w V g 1 1 ob lb cb hne _ _ hV hg (by omega)
  go_enter Tryz.func30, Tryz.ntmps30
  go_wp2_with (simp only [hov])
  have hsome := extSome w
  refine ext_tail 8 (by kernel_rfl) (by kernel_rfl) ?_
  simp only [List.take_succ_cons, List.take_zero, List.drop_succ_cons, List.drop_zero]
  repeat (go_big_quiet_step (fail))
  refine wpQuiet_nil ?_
  rintro _ ⟨z, hy⟩
  subst hy
  have HG := kpB z.below (Lib.hid hg)
  have HV := kpB z.below (Lib.hid hV)
  have HW := Lib.hid (grownOf z.below)
  clear hov hg hV
  generalize z.to = W at HG HV HW ⊢
  clear z hsome
  have hL := cellsI_len l
  have hdl : ((cellsI l).drop (q * 6)).length = (l.length - q) * 6 := by rw [List.length_drop, hL]; omega
  have HS := Lib.hid (shift_row (m := l.length * 6) (p := q * 6) (k := 6) hc hL (by omega) (show x.cells.length = 6 from rfl) (by have e : cur.toList.length = cur.size := Array.length_toList; omega))
  have h1l := oneI l
  have hsrc : ∀ j v, ((cellsI l).drop (q * 6))[j]? = some v → W.cell? ((⟨g, q * 6, none⟩ : Addr).add j) = some v := fun j v hj => by
    rw [List.getElem?_drop] at hj
    rw [Addr.add_lit, Lib.cell_of_heap HG.out]
    have hlt : q * 6 + j < (cellsI l).length := (List.getElem?_eq_some_iff.1 hj).1
    rw [← hc, List.getElem?_take] at hj
    split at hj
    · rw [← Array.getElem?_toList]; exact hj
    · cases hj
  have hcp1 := Lib.hid fun ty dL dC sL sC (e1 : dL = l.length - q) (e2 : l.length - q ≤ sL) => run_copy6 W ty g ((q + 1) * 6) dL dC ⟨g, q * 6, none⟩ sL sC cur ((cellsI l).drop (q * 6)) HG.out (by rw [hdl, nmr (by omega), e1]) hsrc (by rw [hdl, hs]; omega) (fun v hv => h1l v (List.mem_of_mem_drop hv))
  clear hsrc hdl
  rw [show q * 6 + 6 = (q + 1) * 6 by omega] at HS
  have HC := Lib.hid (cellsI_ins l x q)
  generalize (cellsI l).drop (q * 6) = D at hcp1 HS HC
  have HG1 := Lib.hid (setRow_heap W g cur (splice cur.toList ((q + 1) * 6) D).toArray _ _ HG.out)
  have HV1 : Hid ((W.setRow g (splice cur.toList ((q + 1) * 6) D).toArray).heap[V]? = some (.cells #[.string x.n, .int .i64 x.g, .int .i64 x.i, .int .i64 x.t, .string x.a, .bool x.w] 26 (0, 0))) := Lib.hid ((setRow_other W g V _ hne).trans HV.out)
  have HW1 := Lib.hid (grown_row (cs := (splice cur.toList ((q + 1) * 6) D).toArray) (grown_any HW.out (r := some g)))
  have hsz := HS.out.2
  have hsz1 : (splice cur.toList ((q + 1) * 6) D).length = d * 6 := by
    have e : (splice (splice cur.toList ((q + 1) * 6) D) (q * 6) x.cells).length = d * 6 := by rw [hsz, Array.length_toList, hs]
    have hx6 : x.cells.length = 6 := rfl
    unfold splice at e ⊢
    simp only [List.length_append, List.length_take, List.length_drop, hx6] at e ⊢
    omega
  generalize hsp : splice cur.toList ((q + 1) * 6) D = S1 at hcp1 HG1 HV1 HW1 HS hsz1
  clear hsp hsz
  have hmin : Nat.min (l.length + 1 - q) (l.length - q) = l.length - q := nmr (by omega)
  have hcp := hcp1.out 3 (l.length - q) (d - (q + 1)) (l.length + 1 - q) (d - q) rfl (by omega)
  rw [hmin] at hcp
  have hxc : ∀ j v, x.cells[j]? = some v → (W.setRow g S1.toArray).cell? ((⟨V, 0, none⟩ : Addr).add j) = some v := fun j v hj => by
    rw [Addr.add_lit, Nat.zero_add, Lib.cell_of_heap HV1.out, ← Array.getElem?_toList]
    exact hj
  have hx1 : ∀ v ∈ x.cells, v.oneCell' = true := fun v hv => oneI [x] v (by simpa [cellsI] using hv)
  have hcp2 := run_copy6 (W.setRow g S1.toArray) 3 g (q * 6) (l.length + 1 - q) (d - q) ⟨V, 0, none⟩ 1 1 S1.toArray x.cells HG1.out (by rw [nml (by omega)]; rfl) hxc (by rw [List.size_toArray, hsz1]; show q * 6 + 6 ≤ d * 6; omega) hx1
  have hmin2 : Nat.min 1 (l.length + 1 - q) = 1 := nml (by omega)
  rw [hmin2] at hcp2
  clear hxc hx1 hcp1 hmin hmin2
  rw [List.toList_toArray] at hcp2
  have hS2l : (splice S1 (q * 6) x.cells).length = d * 6 := by rw [length_splice _ _ _ (by show q * 6 + 6 ≤ _; omega)]; exact hsz1
  have hfin : (splice S1 (q * 6) x.cells).take ((l.length + 1) * 6) = cellsI (l.take q ++ x :: l.drop q) := by rw [HC.out, show (l.length + 1) * 6 = l.length * 6 + 6 by omega]; exact HS.out.1
  have HG2 := Lib.hid (setRow_heap (W.setRow g S1.toArray) g _ (splice S1 (q * 6) x.cells).toArray _ _ HG1.out)
  have HW2 := Lib.hid (grown_row (cs := (splice S1 (q * 6) x.cells).toArray) HW1.out)
  clear hc hL h1l HG HV HW HW1 HV1 HG1 HC HS
  generalize splice S1 (q * 6) x.cells = S2 at hcp2 HG2 HW2 hS2l hfin
  have HF := Lib.hid hfin
  clear hfin
  go_wp2_with fail
  go_ret
  exact ⟨rfl, ⟨_, HG2.out, by rw [List.size_toArray]; exact hS2l, HF.out⟩, HW2.out⟩
end Go.Proofs.YtdmbngkkbgmlfaaGreatDoor.T
