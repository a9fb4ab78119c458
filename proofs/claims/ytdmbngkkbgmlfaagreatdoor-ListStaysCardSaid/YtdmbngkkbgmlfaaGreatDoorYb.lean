/- Contracts: Check of package legacy, whatever the note. Conditions: those of each theorem's head. -/
import Derived.Test.YtdmbngkkbgmlfaaGreatDoorYa
namespace Go.Proofs.YtdmbngkkbgmlfaaGreatDoor.T
open Go.RowKit Go.Lib

theorem all_no {α : Type} {p : α → Bool} {l : List α} (i : Nat) (h : i < l.length) (e : p l[i] = false) : l.all p = false := by
  rw [Bool.eq_false_iff]
  intro q
  rw [List.all_eq_true] at q
  have := q _ (List.getElem_mem h)
  rw [e] at this
  cases this
theorem all_yes {α : Type} {p : α → Bool} {l : List α} (h : ∀ i (h : i < l.length), p l[i] = true) : l.all p = true := by
  rw [List.all_eq_true]
  intro x hx
  obtain ⟨i, hi, rfl⟩ := List.getElem_of_mem hx
  exact h i hi
set_option maxRecDepth 100000 in
set_option maxHeartbeats 8000000 in
theorem areItems_any (l : List It) (a : Option Addr) (c : Nat) (w : World) (hL : ItS w a l) (hn : l.length ≤ 1000000) (hz : ∀ y ∈ l, y.n.size ≤ 1048576 ∧ y.a.size ≤ 1048576) : Calls Tryz.prog 60 #[.slice a l.length c] w (Gives (.bool (l.all itB)) w) := by
  have HL := Lib.hid fun W (hb : Below w.heap.size w W) => hL.below hb
  have HZ := Lib.hid hz
  have HA : Hid (∀ i (h : i < l.length), itB l[i] = false → l.all itB = false) := fun i h e => all_no i h e
  have HY : Hid ((∀ i (h : i < l.length), itB l[i] = true) → l.all itB = true) := fun h => all_yes h
  generalize l.all itB = R at HA HY ⊢
  have HB0 : Hid (Below w.heap.size w w) := Below.refl _ _
  clear hL hz
  go_enter Tryz.func60, Tryz.ntmps60
  go_wp2_with fail
  go_loopw [7] (fun i wr => ∃ j : Nat, i = .int .i64 j ∧ j ≤ l.length ∧ Hid (Below w.heap.size w wr) ∧ Hid (∀ i (h : i < l.length), i < j → itB l[i] = true)) (fun i _ => l.length - (RowKit.intOf i).toNat)
  case atStart => exact ⟨0, rfl, Nat.zero_le _, HB0.out, fun i _ h => absurd h (Nat.not_lt_zero _)⟩
  case round =>
    clear HB0
    obtain ⟨j, rfl, hj, HB, HN⟩ := hrel
    by_cases hlt : j < l.length
    · obtain ⟨b, p, rfl, e0, e1, e2, e3, e4, e5⟩ := HL.out _ HB.out j hlt
      have HAj := Lib.hid (HA.out j hlt)
      have HNj : Hid (itB l[j] = true → ∀ i (h : i < l.length), i < j + 1 → itB l[i] = true) := fun e i h h2 => by
        by_cases h3 : i < j
        · exact HN.out i h h3
        · obtain rfl : i = j := by omega
          exact e
      have hzz := HZ.out _ (List.getElem_mem hlt)
      have C := Lib.hid (fun W => isItem_any l[j] W hzz.1 hzz.2)
      clear hzz
      generalize itB l[j] = q at HAj HNj C
      generalize l[j] = y at e0 e1 e2 e3 e4 e5 C
      have HX := Lib.hid (box_new wr #[.string y.n, .int .i64 y.g, .int .i64 y.i, .int .i64 y.t, .string y.a, .bool y.w] 26)
      have HBW := Lib.hid (HB.out.alloc HB.out.size (.cells #[.string y.n, .int .i64 y.g, .int .i64 y.i, .int .i64 y.t, .string y.a, .bool y.w] 26))
      obtain ⟨c0, c1, c2, c3, c4, c5⟩ := bx6 HX.out
      cases q
      · have e9 := HAj.out rfl
        subst e9
        clear HA HY HAj HNj
        go_wp2_with fail
        refine (C.out _).mono ?_
        rintro e w1 ⟨rfl, hb⟩
        have HB1 := Lib.hid (HBW.out.trans (hb.mono HBW.out.size))
        clear hb
        go_wp2_with fail
        go_ret
        exact ⟨rfl, HB1.out⟩
      · have HN2 := Lib.hid (HNj.out rfl)
        clear HAj HNj HN
        go_wp2_with fail
        refine (C.out _).mono ?_
        rintro e w1 ⟨rfl, hb⟩
        have HB1 := Lib.hid (HBW.out.trans (hb.mono HBW.out.size))
        clear hb
        go_wp2_with fail
        exact ⟨⟨j + 1, by go_num, by omega, HB1.out, HN2.out⟩, by simp [RowKit.intOf]; omega⟩
    · obtain rfl : j = l.length := by omega
      have e9 := HY.out fun i h => HN.out i h h
      subst e9
      clear HA HY HN
      go_wp2_with fail
      go_ret
      exact ⟨rfl, HB.out⟩
/-- A bounds' cells. -/
def bA (b : Bn) : Value := .agg #[.bool b.nm, .int .i64 b.tx, .int .i64 b.fd, .int .i64 b.d, .int .i64 b.c, .int .i64 b.s, .int .i64 b.e, .int .i64 b.t, .bool b.o, .int .i64 b.fi, .int .i64 b.i, .int .i64 b.fz, .int .i64 b.z]
theorem bx13 {w : World} {b : Nat} {v0 v1 v2 v3 v4 v5 v6 v7 v8 v9 v10 v11 v12 : Value} {t : TypeId} (h : w.heap[b]? = some (.cells #[v0, v1, v2, v3, v4, v5, v6, v7, v8, v9, v10, v11, v12] t (0, 0))) : w.cell? ⟨b, 0, none⟩ = some v0 ∧ w.cell? ⟨b, 1, none⟩ = some v1 ∧ w.cell? ⟨b, 2, none⟩ = some v2 ∧ w.cell? ⟨b, 3, none⟩ = some v3 ∧ w.cell? ⟨b, 4, none⟩ = some v4 ∧ w.cell? ⟨b, 5, none⟩ = some v5 ∧ w.cell? ⟨b, 6, none⟩ = some v6 ∧ w.cell? ⟨b, 7, none⟩ = some v7 ∧ w.cell? ⟨b, 8, none⟩ = some v8 ∧ w.cell? ⟨b, 9, none⟩ = some v9 ∧ w.cell? ⟨b, 10, none⟩ = some v10 ∧ w.cell? ⟨b, 11, none⟩ = some v11 ∧ w.cell? ⟨b, 12, none⟩ = some v12 := by
  refine ⟨?_, ?_, ?_, ?_, ?_, ?_, ?_, ?_, ?_, ?_, ?_, ?_, ?_⟩ <;> (rw [Lib.cell_of_heap h]; rfl)
theorem res_cell_tmp {fn : Func} {p u : Tmp} {ty : TypeId} {P : Program} (h : fn.results = #[.cell p ty, .tmp u]) (tmps : Array Value) (w : World) (g : Nat) (v : Value)
    (hp : tmps.getD p undef = .pointer (some ⟨g, 0, none⟩)) (hl : (loadVar ty ⟨g, 0, none⟩).run P w = .ok v w) : (results fn tmps).run P w = .ok (.tuple #[v, tmps.getD u undef]) w := Q.results_load_tmp h tmps w g v hp hl
set_option maxRecDepth 100000 in
set_option maxHeartbeats 8000000 in
theorem load_bn {w : World} {b : Nat} {v0 v1 v2 v3 v4 v5 v6 v7 v8 v9 v10 v11 v12 : Value} (h : w.heap[b]? = some (.cells #[v0, v1, v2, v3, v4, v5, v6, v7, v8, v9, v10, v11, v12] 74 (0, 0))) : (loadVar 74 ⟨b, 0, none⟩).run Tryz.prog w = .ok (.agg #[v0, v1, v2, v3, v4, v5, v6, v7, v8, v9, v10, v11, v12]) w := by
  obtain ⟨c0, c1, c2, c3, c4, c5, c6, c7, c8, c9, c10, c11, c12⟩ := bx13 h
  simp [go_sem, c0, c1, c2, c3, c4, c5, c6, c7, c8, c9, c10, c11, c12]
set_option maxRecDepth 100000 in
set_option maxHeartbeats 8000000 in
theorem bnd_1 (w : World) : Calls Tryz.prog 37 #[.int .i64 1] w (Gives (.tuple #[.agg #[.bool false, .int .i64 0, .int .i64 0, .int .i64 0, .int .i64 0, .int .i64 0, .int .i64 0, .int .i64 0, .bool false, .int .i64 0, .int .i64 0, .int .i64 0, .int .i64 0], .bool true]) w) := by
  have HX := Lib.hid (box_new w #[.bool false, .int .i64 0, .int .i64 0, .int .i64 0, .int .i64 0, .int .i64 0, .int .i64 0, .int .i64 0, .bool false, .int .i64 0, .int .i64 0, .int .i64 0, .int .i64 0] 74)
  have HB : Hid (Below w.heap.size w (w.alloc (.cells #[.bool false, .int .i64 0, .int .i64 0, .int .i64 0, .int .i64 0, .int .i64 0, .int .i64 0, .int .i64 0, .bool false, .int .i64 0, .int .i64 0, .int .i64 0, .int .i64 0] 74))) := (Below.refl _ w).alloc (Nat.le_refl _) _
  go_enter Tryz.func37, Tryz.ntmps37
  go_wp2_with fail
  exact bodyPost_ret (res_cell_tmp Tryz.results37 _ _ w.heap.size _ rfl (load_bn HX.out)) rfl ⟨rfl, HB.out⟩
set_option maxRecDepth 100000 in
set_option maxHeartbeats 8000000 in
theorem bnd_2 (w : World) : Calls Tryz.prog 37 #[.int .i64 2] w (Gives (.tuple #[.agg #[.bool false, .int .i64 0, .int .i64 1, .int .i64 256, .int .i64 0, .int .i64 0, .int .i64 0, .int .i64 0, .bool false, .int .i64 0, .int .i64 0, .int .i64 0, .int .i64 0], .bool true]) w) := by
  have HX := Lib.hid (box_new w #[.bool false, .int .i64 0, .int .i64 1, .int .i64 256, .int .i64 0, .int .i64 0, .int .i64 0, .int .i64 0, .bool false, .int .i64 0, .int .i64 0, .int .i64 0, .int .i64 0] 74)
  have HB : Hid (Below w.heap.size w (w.alloc (.cells #[.bool false, .int .i64 0, .int .i64 1, .int .i64 256, .int .i64 0, .int .i64 0, .int .i64 0, .int .i64 0, .bool false, .int .i64 0, .int .i64 0, .int .i64 0, .int .i64 0] 74))) := (Below.refl _ w).alloc (Nat.le_refl _) _
  go_enter Tryz.func37, Tryz.ntmps37
  go_wp2_with fail
  exact bodyPost_ret (res_cell_tmp Tryz.results37 _ _ w.heap.size _ rfl (load_bn HX.out)) rfl ⟨rfl, HB.out⟩
set_option maxRecDepth 100000 in
set_option maxHeartbeats 8000000 in
theorem bnd_3 (w : World) : Calls Tryz.prog 37 #[.int .i64 3] w (Gives (.tuple #[.agg #[.bool false, .int .i64 0, .int .i64 0, .int .i64 0, .int .i64 65535, .int .i64 0, .int .i64 0, .int .i64 0, .bool false, .int .i64 0, .int .i64 0, .int .i64 0, .int .i64 0], .bool true]) w) := by
  have HX := Lib.hid (box_new w #[.bool false, .int .i64 0, .int .i64 0, .int .i64 0, .int .i64 65535, .int .i64 0, .int .i64 0, .int .i64 0, .bool false, .int .i64 0, .int .i64 0, .int .i64 0, .int .i64 0] 74)
  have HB : Hid (Below w.heap.size w (w.alloc (.cells #[.bool false, .int .i64 0, .int .i64 0, .int .i64 0, .int .i64 65535, .int .i64 0, .int .i64 0, .int .i64 0, .bool false, .int .i64 0, .int .i64 0, .int .i64 0, .int .i64 0] 74))) := (Below.refl _ w).alloc (Nat.le_refl _) _
  go_enter Tryz.func37, Tryz.ntmps37
  go_wp2_with fail
  exact bodyPost_ret (res_cell_tmp Tryz.results37 _ _ w.heap.size _ rfl (load_bn HX.out)) rfl ⟨rfl, HB.out⟩
set_option maxRecDepth 100000 in
set_option maxHeartbeats 8000000 in
theorem bnd_4 (w : World) : Calls Tryz.prog 37 #[.int .i64 4] w (Gives (.tuple #[.agg #[.bool false, .int .i64 0, .int .i64 0, .int .i64 0, .int .i64 0, .int .i64 0, .int .i64 0, .int .i64 0, .bool false, .int .i64 0, .int .i64 0, .int .i64 0, .int .i64 0], .bool true]) w) := by
  have HX := Lib.hid (box_new w #[.bool false, .int .i64 0, .int .i64 0, .int .i64 0, .int .i64 0, .int .i64 0, .int .i64 0, .int .i64 0, .bool false, .int .i64 0, .int .i64 0, .int .i64 0, .int .i64 0] 74)
  have HB : Hid (Below w.heap.size w (w.alloc (.cells #[.bool false, .int .i64 0, .int .i64 0, .int .i64 0, .int .i64 0, .int .i64 0, .int .i64 0, .int .i64 0, .bool false, .int .i64 0, .int .i64 0, .int .i64 0, .int .i64 0] 74))) := (Below.refl _ w).alloc (Nat.le_refl _) _
  go_enter Tryz.func37, Tryz.ntmps37
  go_wp2_with fail
  exact bodyPost_ret (res_cell_tmp Tryz.results37 _ _ w.heap.size _ rfl (load_bn HX.out)) rfl ⟨rfl, HB.out⟩
set_option maxRecDepth 100000 in
set_option maxHeartbeats 8000000 in
theorem bnd_5 (w : World) : Calls Tryz.prog 37 #[.int .i64 5] w (Gives (.tuple #[.agg #[.bool true, .int .i64 0, .int .i64 0, .int .i64 0, .int .i64 0, .int .i64 0, .int .i64 0, .int .i64 0, .bool false, .int .i64 0, .int .i64 0, .int .i64 0, .int .i64 0], .bool true]) w) := by
  have HX := Lib.hid (box_new w #[.bool true, .int .i64 0, .int .i64 0, .int .i64 0, .int .i64 0, .int .i64 0, .int .i64 0, .int .i64 0, .bool false, .int .i64 0, .int .i64 0, .int .i64 0, .int .i64 0] 74)
  have HB : Hid (Below w.heap.size w (w.alloc (.cells #[.bool true, .int .i64 0, .int .i64 0, .int .i64 0, .int .i64 0, .int .i64 0, .int .i64 0, .int .i64 0, .bool false, .int .i64 0, .int .i64 0, .int .i64 0, .int .i64 0] 74))) := (Below.refl _ w).alloc (Nat.le_refl _) _
  go_enter Tryz.func37, Tryz.ntmps37
  go_wp2_with fail
  exact bodyPost_ret (res_cell_tmp Tryz.results37 _ _ w.heap.size _ rfl (load_bn HX.out)) rfl ⟨rfl, HB.out⟩
set_option maxRecDepth 100000 in
set_option maxHeartbeats 8000000 in
theorem bnd_6 (w : World) : Calls Tryz.prog 37 #[.int .i64 6] w (Gives (.tuple #[.agg #[.bool false, .int .i64 0, .int .i64 1, .int .i64 64, .int .i64 0, .int .i64 0, .int .i64 0, .int .i64 0, .bool false, .int .i64 0, .int .i64 0, .int .i64 0, .int .i64 0], .bool true]) w) := by
  have HX := Lib.hid (box_new w #[.bool false, .int .i64 0, .int .i64 1, .int .i64 64, .int .i64 0, .int .i64 0, .int .i64 0, .int .i64 0, .bool false, .int .i64 0, .int .i64 0, .int .i64 0, .int .i64 0] 74)
  have HB : Hid (Below w.heap.size w (w.alloc (.cells #[.bool false, .int .i64 0, .int .i64 1, .int .i64 64, .int .i64 0, .int .i64 0, .int .i64 0, .int .i64 0, .bool false, .int .i64 0, .int .i64 0, .int .i64 0, .int .i64 0] 74))) := (Below.refl _ w).alloc (Nat.le_refl _) _
  go_enter Tryz.func37, Tryz.ntmps37
  go_wp2_with fail
  exact bodyPost_ret (res_cell_tmp Tryz.results37 _ _ w.heap.size _ rfl (load_bn HX.out)) rfl ⟨rfl, HB.out⟩
set_option maxRecDepth 100000 in
set_option maxHeartbeats 8000000 in
theorem bnd_7 (w : World) : Calls Tryz.prog 37 #[.int .i64 7] w (Gives (.tuple #[.agg #[.bool true, .int .i64 0, .int .i64 16, .int .i64 16, .int .i64 0, .int .i64 0, .int .i64 0, .int .i64 0, .bool false, .int .i64 0, .int .i64 0, .int .i64 0, .int .i64 0], .bool true]) w) := by
  have HX := Lib.hid (box_new w #[.bool true, .int .i64 0, .int .i64 16, .int .i64 16, .int .i64 0, .int .i64 0, .int .i64 0, .int .i64 0, .bool false, .int .i64 0, .int .i64 0, .int .i64 0, .int .i64 0] 74)
  have HB : Hid (Below w.heap.size w (w.alloc (.cells #[.bool true, .int .i64 0, .int .i64 16, .int .i64 16, .int .i64 0, .int .i64 0, .int .i64 0, .int .i64 0, .bool false, .int .i64 0, .int .i64 0, .int .i64 0, .int .i64 0] 74))) := (Below.refl _ w).alloc (Nat.le_refl _) _
  go_enter Tryz.func37, Tryz.ntmps37
  go_wp2_with fail
  exact bodyPost_ret (res_cell_tmp Tryz.results37 _ _ w.heap.size _ rfl (load_bn HX.out)) rfl ⟨rfl, HB.out⟩
set_option maxRecDepth 100000 in
set_option maxHeartbeats 8000000 in
theorem bnd_8 (w : World) : Calls Tryz.prog 37 #[.int .i64 8] w (Gives (.tuple #[.agg #[.bool true, .int .i64 0, .int .i64 0, .int .i64 256, .int .i64 65535, .int .i64 0, .int .i64 0, .int .i64 0, .bool false, .int .i64 0, .int .i64 0, .int .i64 0, .int .i64 0], .bool true]) w) := by
  have HX := Lib.hid (box_new w #[.bool true, .int .i64 0, .int .i64 0, .int .i64 256, .int .i64 65535, .int .i64 0, .int .i64 0, .int .i64 0, .bool false, .int .i64 0, .int .i64 0, .int .i64 0, .int .i64 0] 74)
  have HB : Hid (Below w.heap.size w (w.alloc (.cells #[.bool true, .int .i64 0, .int .i64 0, .int .i64 256, .int .i64 65535, .int .i64 0, .int .i64 0, .int .i64 0, .bool false, .int .i64 0, .int .i64 0, .int .i64 0, .int .i64 0] 74))) := (Below.refl _ w).alloc (Nat.le_refl _) _
  go_enter Tryz.func37, Tryz.ntmps37
  go_wp2_with fail
  exact bodyPost_ret (res_cell_tmp Tryz.results37 _ _ w.heap.size _ rfl (load_bn HX.out)) rfl ⟨rfl, HB.out⟩
set_option maxRecDepth 100000 in
set_option maxHeartbeats 8000000 in
theorem bnd_9 (w : World) : Calls Tryz.prog 37 #[.int .i64 9] w (Gives (.tuple #[.agg #[.bool false, .int .i64 0, .int .i64 0, .int .i64 0, .int .i64 0, .int .i64 0, .int .i64 0, .int .i64 0, .bool false, .int .i64 0, .int .i64 0, .int .i64 0, .int .i64 0], .bool true]) w) := by
  have HX := Lib.hid (box_new w #[.bool false, .int .i64 0, .int .i64 0, .int .i64 0, .int .i64 0, .int .i64 0, .int .i64 0, .int .i64 0, .bool false, .int .i64 0, .int .i64 0, .int .i64 0, .int .i64 0] 74)
  have HB : Hid (Below w.heap.size w (w.alloc (.cells #[.bool false, .int .i64 0, .int .i64 0, .int .i64 0, .int .i64 0, .int .i64 0, .int .i64 0, .int .i64 0, .bool false, .int .i64 0, .int .i64 0, .int .i64 0, .int .i64 0] 74))) := (Below.refl _ w).alloc (Nat.le_refl _) _
  go_enter Tryz.func37, Tryz.ntmps37
  go_wp2_with fail
  exact bodyPost_ret (res_cell_tmp Tryz.results37 _ _ w.heap.size _ rfl (load_bn HX.out)) rfl ⟨rfl, HB.out⟩
set_option maxRecDepth 100000 in
set_option maxHeartbeats 8000000 in
theorem bnd_10 (w : World) : Calls Tryz.prog 37 #[.int .i64 10] w (Gives (.tuple #[.agg #[.bool false, .int .i64 0, .int .i64 0, .int .i64 0, .int .i64 0, .int .i64 0, .int .i64 0, .int .i64 0, .bool false, .int .i64 0, .int .i64 0, .int .i64 0, .int .i64 0], .bool true]) w) := by
  have HX := Lib.hid (box_new w #[.bool false, .int .i64 0, .int .i64 0, .int .i64 0, .int .i64 0, .int .i64 0, .int .i64 0, .int .i64 0, .bool false, .int .i64 0, .int .i64 0, .int .i64 0, .int .i64 0] 74)
  have HB : Hid (Below w.heap.size w (w.alloc (.cells #[.bool false, .int .i64 0, .int .i64 0, .int .i64 0, .int .i64 0, .int .i64 0, .int .i64 0, .int .i64 0, .bool false, .int .i64 0, .int .i64 0, .int .i64 0, .int .i64 0] 74))) := (Below.refl _ w).alloc (Nat.le_refl _) _
  go_enter Tryz.func37, Tryz.ntmps37
  go_wp2_with fail
  exact bodyPost_ret (res_cell_tmp Tryz.results37 _ _ w.heap.size _ rfl (load_bn HX.out)) rfl ⟨rfl, HB.out⟩
set_option maxRecDepth 100000 in
set_option maxHeartbeats 8000000 in
theorem bnd_11 (w : World) : Calls Tryz.prog 37 #[.int .i64 11] w (Gives (.tuple #[.agg #[.bool false, .int .i64 0, .int .i64 0, .int .i64 0, .int .i64 0, .int .i64 65535, .int .i64 0, .int .i64 0, .bool false, .int .i64 0, .int .i64 0, .int .i64 0, .int .i64 0], .bool true]) w) := by
  have HX := Lib.hid (box_new w #[.bool false, .int .i64 0, .int .i64 0, .int .i64 0, .int .i64 0, .int .i64 65535, .int .i64 0, .int .i64 0, .bool false, .int .i64 0, .int .i64 0, .int .i64 0, .int .i64 0] 74)
  have HB : Hid (Below w.heap.size w (w.alloc (.cells #[.bool false, .int .i64 0, .int .i64 0, .int .i64 0, .int .i64 0, .int .i64 65535, .int .i64 0, .int .i64 0, .bool false, .int .i64 0, .int .i64 0, .int .i64 0, .int .i64 0] 74))) := (Below.refl _ w).alloc (Nat.le_refl _) _
  go_enter Tryz.func37, Tryz.ntmps37
  go_wp2_with fail
  exact bodyPost_ret (res_cell_tmp Tryz.results37 _ _ w.heap.size _ rfl (load_bn HX.out)) rfl ⟨rfl, HB.out⟩
set_option maxRecDepth 100000 in
set_option maxHeartbeats 8000000 in
theorem bnd_12 (w : World) : Calls Tryz.prog 37 #[.int .i64 12] w (Gives (.tuple #[.agg #[.bool false, .int .i64 0, .int .i64 0, .int .i64 0, .int .i64 0, .int .i64 0, .int .i64 4294967295, .int .i64 0, .bool false, .int .i64 0, .int .i64 0, .int .i64 0, .int .i64 0], .bool true]) w) := by
  have HX := Lib.hid (box_new w #[.bool false, .int .i64 0, .int .i64 0, .int .i64 0, .int .i64 0, .int .i64 0, .int .i64 4294967295, .int .i64 0, .bool false, .int .i64 0, .int .i64 0, .int .i64 0, .int .i64 0] 74)
  have HB : Hid (Below w.heap.size w (w.alloc (.cells #[.bool false, .int .i64 0, .int .i64 0, .int .i64 0, .int .i64 0, .int .i64 0, .int .i64 4294967295, .int .i64 0, .bool false, .int .i64 0, .int .i64 0, .int .i64 0, .int .i64 0] 74))) := (Below.refl _ w).alloc (Nat.le_refl _) _
  go_enter Tryz.func37, Tryz.ntmps37
  go_wp2_with fail
  exact bodyPost_ret (res_cell_tmp Tryz.results37 _ _ w.heap.size _ rfl (load_bn HX.out)) rfl ⟨rfl, HB.out⟩
set_option maxRecDepth 100000 in
set_option maxHeartbeats 8000000 in
theorem bnd_13 (w : World) : Calls Tryz.prog 37 #[.int .i64 13] w (Gives (.tuple #[.agg #[.bool true, .int .i64 0, .int .i64 0, .int .i64 0, .int .i64 0, .int .i64 65535, .int .i64 65535, .int .i64 0, .bool false, .int .i64 0, .int .i64 0, .int .i64 0, .int .i64 0], .bool true]) w) := by
  have HX := Lib.hid (box_new w #[.bool true, .int .i64 0, .int .i64 0, .int .i64 0, .int .i64 0, .int .i64 65535, .int .i64 65535, .int .i64 0, .bool false, .int .i64 0, .int .i64 0, .int .i64 0, .int .i64 0] 74)
  have HB : Hid (Below w.heap.size w (w.alloc (.cells #[.bool true, .int .i64 0, .int .i64 0, .int .i64 0, .int .i64 0, .int .i64 65535, .int .i64 65535, .int .i64 0, .bool false, .int .i64 0, .int .i64 0, .int .i64 0, .int .i64 0] 74))) := (Below.refl _ w).alloc (Nat.le_refl _) _
  go_enter Tryz.func37, Tryz.ntmps37
  go_wp2_with fail
  exact bodyPost_ret (res_cell_tmp Tryz.results37 _ _ w.heap.size _ rfl (load_bn HX.out)) rfl ⟨rfl, HB.out⟩
set_option maxRecDepth 100000 in
set_option maxHeartbeats 8000000 in
theorem bnd_14 (w : World) : Calls Tryz.prog 37 #[.int .i64 14] w (Gives (.tuple #[.agg #[.bool true, .int .i64 0, .int .i64 0, .int .i64 0, .int .i64 0, .int .i64 0, .int .i64 0, .int .i64 0, .bool false, .int .i64 0, .int .i64 0, .int .i64 0, .int .i64 0], .bool true]) w) := by
  have HX := Lib.hid (box_new w #[.bool true, .int .i64 0, .int .i64 0, .int .i64 0, .int .i64 0, .int .i64 0, .int .i64 0, .int .i64 0, .bool false, .int .i64 0, .int .i64 0, .int .i64 0, .int .i64 0] 74)
  have HB : Hid (Below w.heap.size w (w.alloc (.cells #[.bool true, .int .i64 0, .int .i64 0, .int .i64 0, .int .i64 0, .int .i64 0, .int .i64 0, .int .i64 0, .bool false, .int .i64 0, .int .i64 0, .int .i64 0, .int .i64 0] 74))) := (Below.refl _ w).alloc (Nat.le_refl _) _
  go_enter Tryz.func37, Tryz.ntmps37
  go_wp2_with fail
  exact bodyPost_ret (res_cell_tmp Tryz.results37 _ _ w.heap.size _ rfl (load_bn HX.out)) rfl ⟨rfl, HB.out⟩
set_option maxRecDepth 100000 in
set_option maxHeartbeats 8000000 in
theorem bnd_15 (w : World) : Calls Tryz.prog 37 #[.int .i64 15] w (Gives (.tuple #[.agg #[.bool true, .int .i64 2000, .int .i64 8, .int .i64 8, .int .i64 0, .int .i64 0, .int .i64 0, .int .i64 0, .bool false, .int .i64 0, .int .i64 0, .int .i64 0, .int .i64 0], .bool true]) w) := by
  have HX := Lib.hid (box_new w #[.bool true, .int .i64 2000, .int .i64 8, .int .i64 8, .int .i64 0, .int .i64 0, .int .i64 0, .int .i64 0, .bool false, .int .i64 0, .int .i64 0, .int .i64 0, .int .i64 0] 74)
  have HB : Hid (Below w.heap.size w (w.alloc (.cells #[.bool true, .int .i64 2000, .int .i64 8, .int .i64 8, .int .i64 0, .int .i64 0, .int .i64 0, .int .i64 0, .bool false, .int .i64 0, .int .i64 0, .int .i64 0, .int .i64 0] 74))) := (Below.refl _ w).alloc (Nat.le_refl _) _
  go_enter Tryz.func37, Tryz.ntmps37
  go_wp2_with fail
  exact bodyPost_ret (res_cell_tmp Tryz.results37 _ _ w.heap.size _ rfl (load_bn HX.out)) rfl ⟨rfl, HB.out⟩
set_option maxRecDepth 100000 in
set_option maxHeartbeats 8000000 in
theorem bnd_16 (w : World) : Calls Tryz.prog 37 #[.int .i64 16] w (Gives (.tuple #[.agg #[.bool true, .int .i64 2000, .int .i64 8, .int .i64 8, .int .i64 0, .int .i64 0, .int .i64 0, .int .i64 0, .bool false, .int .i64 0, .int .i64 0, .int .i64 0, .int .i64 0], .bool true]) w) := by
  have HX := Lib.hid (box_new w #[.bool true, .int .i64 2000, .int .i64 8, .int .i64 8, .int .i64 0, .int .i64 0, .int .i64 0, .int .i64 0, .bool false, .int .i64 0, .int .i64 0, .int .i64 0, .int .i64 0] 74)
  have HB : Hid (Below w.heap.size w (w.alloc (.cells #[.bool true, .int .i64 2000, .int .i64 8, .int .i64 8, .int .i64 0, .int .i64 0, .int .i64 0, .int .i64 0, .bool false, .int .i64 0, .int .i64 0, .int .i64 0, .int .i64 0] 74))) := (Below.refl _ w).alloc (Nat.le_refl _) _
  go_enter Tryz.func37, Tryz.ntmps37
  go_wp2_with fail
  exact bodyPost_ret (res_cell_tmp Tryz.results37 _ _ w.heap.size _ rfl (load_bn HX.out)) rfl ⟨rfl, HB.out⟩
set_option maxRecDepth 100000 in
set_option maxHeartbeats 8000000 in
theorem bnd_17 (w : World) : Calls Tryz.prog 37 #[.int .i64 17] w (Gives (.tuple #[.agg #[.bool false, .int .i64 0, .int .i64 0, .int .i64 0, .int .i64 65535, .int .i64 0, .int .i64 0, .int .i64 4294967295, .bool false, .int .i64 0, .int .i64 0, .int .i64 0, .int .i64 0], .bool true]) w) := by
  have HX := Lib.hid (box_new w #[.bool false, .int .i64 0, .int .i64 0, .int .i64 0, .int .i64 65535, .int .i64 0, .int .i64 0, .int .i64 4294967295, .bool false, .int .i64 0, .int .i64 0, .int .i64 0, .int .i64 0] 74)
  have HB : Hid (Below w.heap.size w (w.alloc (.cells #[.bool false, .int .i64 0, .int .i64 0, .int .i64 0, .int .i64 65535, .int .i64 0, .int .i64 0, .int .i64 4294967295, .bool false, .int .i64 0, .int .i64 0, .int .i64 0, .int .i64 0] 74))) := (Below.refl _ w).alloc (Nat.le_refl _) _
  go_enter Tryz.func37, Tryz.ntmps37
  go_wp2_with fail
  exact bodyPost_ret (res_cell_tmp Tryz.results37 _ _ w.heap.size _ rfl (load_bn HX.out)) rfl ⟨rfl, HB.out⟩
set_option maxRecDepth 100000 in
set_option maxHeartbeats 8000000 in
theorem bnd_18 (w : World) : Calls Tryz.prog 37 #[.int .i64 18] w (Gives (.tuple #[.agg #[.bool false, .int .i64 0, .int .i64 0, .int .i64 0, .int .i64 0, .int .i64 0, .int .i64 0, .int .i64 4294967295, .bool false, .int .i64 0, .int .i64 100, .int .i64 0, .int .i64 0], .bool true]) w) := by
  have HX := Lib.hid (box_new w #[.bool false, .int .i64 0, .int .i64 0, .int .i64 0, .int .i64 0, .int .i64 0, .int .i64 0, .int .i64 4294967295, .bool false, .int .i64 0, .int .i64 100, .int .i64 0, .int .i64 0] 74)
  have HB : Hid (Below w.heap.size w (w.alloc (.cells #[.bool false, .int .i64 0, .int .i64 0, .int .i64 0, .int .i64 0, .int .i64 0, .int .i64 0, .int .i64 4294967295, .bool false, .int .i64 0, .int .i64 100, .int .i64 0, .int .i64 0] 74))) := (Below.refl _ w).alloc (Nat.le_refl _) _
  go_enter Tryz.func37, Tryz.ntmps37
  go_wp2_with fail
  exact bodyPost_ret (res_cell_tmp Tryz.results37 _ _ w.heap.size _ rfl (load_bn HX.out)) rfl ⟨rfl, HB.out⟩
set_option maxRecDepth 100000 in
set_option maxHeartbeats 8000000 in
theorem bnd_19 (w : World) : Calls Tryz.prog 37 #[.int .i64 19] w (Gives (.tuple #[.agg #[.bool false, .int .i64 0, .int .i64 0, .int .i64 0, .int .i64 65535, .int .i64 0, .int .i64 0, .int .i64 4294967295, .bool false, .int .i64 0, .int .i64 0, .int .i64 0, .int .i64 0], .bool true]) w) := by
  have HX := Lib.hid (box_new w #[.bool false, .int .i64 0, .int .i64 0, .int .i64 0, .int .i64 65535, .int .i64 0, .int .i64 0, .int .i64 4294967295, .bool false, .int .i64 0, .int .i64 0, .int .i64 0, .int .i64 0] 74)
  have HB : Hid (Below w.heap.size w (w.alloc (.cells #[.bool false, .int .i64 0, .int .i64 0, .int .i64 0, .int .i64 65535, .int .i64 0, .int .i64 0, .int .i64 4294967295, .bool false, .int .i64 0, .int .i64 0, .int .i64 0, .int .i64 0] 74))) := (Below.refl _ w).alloc (Nat.le_refl _) _
  go_enter Tryz.func37, Tryz.ntmps37
  go_wp2_with fail
  exact bodyPost_ret (res_cell_tmp Tryz.results37 _ _ w.heap.size _ rfl (load_bn HX.out)) rfl ⟨rfl, HB.out⟩
set_option maxRecDepth 100000 in
set_option maxHeartbeats 8000000 in
theorem bnd_20 (w : World) : Calls Tryz.prog 37 #[.int .i64 20] w (Gives (.tuple #[.agg #[.bool false, .int .i64 0, .int .i64 0, .int .i64 0, .int .i64 0, .int .i64 0, .int .i64 0, .int .i64 0, .bool false, .int .i64 1, .int .i64 100, .int .i64 0, .int .i64 0], .bool true]) w) := by
  have HX := Lib.hid (box_new w #[.bool false, .int .i64 0, .int .i64 0, .int .i64 0, .int .i64 0, .int .i64 0, .int .i64 0, .int .i64 0, .bool false, .int .i64 1, .int .i64 100, .int .i64 0, .int .i64 0] 74)
  have HB : Hid (Below w.heap.size w (w.alloc (.cells #[.bool false, .int .i64 0, .int .i64 0, .int .i64 0, .int .i64 0, .int .i64 0, .int .i64 0, .int .i64 0, .bool false, .int .i64 1, .int .i64 100, .int .i64 0, .int .i64 0] 74))) := (Below.refl _ w).alloc (Nat.le_refl _) _
  go_enter Tryz.func37, Tryz.ntmps37
  go_wp2_with fail
  exact bodyPost_ret (res_cell_tmp Tryz.results37 _ _ w.heap.size _ rfl (load_bn HX.out)) rfl ⟨rfl, HB.out⟩
set_option maxRecDepth 100000 in
set_option maxHeartbeats 8000000 in
theorem bnd_21 (w : World) : Calls Tryz.prog 37 #[.int .i64 21] w (Gives (.tuple #[.agg #[.bool false, .int .i64 0, .int .i64 0, .int .i64 0, .int .i64 0, .int .i64 0, .int .i64 0, .int .i64 0, .bool false, .int .i64 1, .int .i64 100, .int .i64 0, .int .i64 0], .bool true]) w) := by
  have HX := Lib.hid (box_new w #[.bool false, .int .i64 0, .int .i64 0, .int .i64 0, .int .i64 0, .int .i64 0, .int .i64 0, .int .i64 0, .bool false, .int .i64 1, .int .i64 100, .int .i64 0, .int .i64 0] 74)
  have HB : Hid (Below w.heap.size w (w.alloc (.cells #[.bool false, .int .i64 0, .int .i64 0, .int .i64 0, .int .i64 0, .int .i64 0, .int .i64 0, .int .i64 0, .bool false, .int .i64 1, .int .i64 100, .int .i64 0, .int .i64 0] 74))) := (Below.refl _ w).alloc (Nat.le_refl _) _
  go_enter Tryz.func37, Tryz.ntmps37
  go_wp2_with fail
  exact bodyPost_ret (res_cell_tmp Tryz.results37 _ _ w.heap.size _ rfl (load_bn HX.out)) rfl ⟨rfl, HB.out⟩
set_option maxRecDepth 100000 in
set_option maxHeartbeats 8000000 in
theorem bnd_22 (w : World) : Calls Tryz.prog 37 #[.int .i64 22] w (Gives (.tuple #[.agg #[.bool false, .int .i64 0, .int .i64 0, .int .i64 0, .int .i64 0, .int .i64 0, .int .i64 0, .int .i64 0, .bool false, .int .i64 1, .int .i64 100, .int .i64 0, .int .i64 0], .bool true]) w) := by
  have HX := Lib.hid (box_new w #[.bool false, .int .i64 0, .int .i64 0, .int .i64 0, .int .i64 0, .int .i64 0, .int .i64 0, .int .i64 0, .bool false, .int .i64 1, .int .i64 100, .int .i64 0, .int .i64 0] 74)
  have HB : Hid (Below w.heap.size w (w.alloc (.cells #[.bool false, .int .i64 0, .int .i64 0, .int .i64 0, .int .i64 0, .int .i64 0, .int .i64 0, .int .i64 0, .bool false, .int .i64 1, .int .i64 100, .int .i64 0, .int .i64 0] 74))) := (Below.refl _ w).alloc (Nat.le_refl _) _
  go_enter Tryz.func37, Tryz.ntmps37
  go_wp2_with fail
  exact bodyPost_ret (res_cell_tmp Tryz.results37 _ _ w.heap.size _ rfl (load_bn HX.out)) rfl ⟨rfl, HB.out⟩
set_option maxRecDepth 100000 in
set_option maxHeartbeats 8000000 in
theorem bnd_23 (w : World) : Calls Tryz.prog 37 #[.int .i64 23] w (Gives (.tuple #[.agg #[.bool false, .int .i64 0, .int .i64 0, .int .i64 0, .int .i64 0, .int .i64 0, .int .i64 0, .int .i64 0, .bool false, .int .i64 0, .int .i64 0, .int .i64 0, .int .i64 0], .bool true]) w) := by
  have HX := Lib.hid (box_new w #[.bool false, .int .i64 0, .int .i64 0, .int .i64 0, .int .i64 0, .int .i64 0, .int .i64 0, .int .i64 0, .bool false, .int .i64 0, .int .i64 0, .int .i64 0, .int .i64 0] 74)
  have HB : Hid (Below w.heap.size w (w.alloc (.cells #[.bool false, .int .i64 0, .int .i64 0, .int .i64 0, .int .i64 0, .int .i64 0, .int .i64 0, .int .i64 0, .bool false, .int .i64 0, .int .i64 0, .int .i64 0, .int .i64 0] 74))) := (Below.refl _ w).alloc (Nat.le_refl _) _
  go_enter Tryz.func37, Tryz.ntmps37
  go_wp2_with fail
  exact bodyPost_ret (res_cell_tmp Tryz.results37 _ _ w.heap.size _ rfl (load_bn HX.out)) rfl ⟨rfl, HB.out⟩
set_option maxRecDepth 100000 in
set_option maxHeartbeats 8000000 in
theorem bnd_24 (w : World) : Calls Tryz.prog 37 #[.int .i64 24] w (Gives (.tuple #[.agg #[.bool false, .int .i64 0, .int .i64 0, .int .i64 0, .int .i64 0, .int .i64 0, .int .i64 0, .int .i64 0, .bool false, .int .i64 0, .int .i64 0, .int .i64 0, .int .i64 0], .bool true]) w) := by
  have HX := Lib.hid (box_new w #[.bool false, .int .i64 0, .int .i64 0, .int .i64 0, .int .i64 0, .int .i64 0, .int .i64 0, .int .i64 0, .bool false, .int .i64 0, .int .i64 0, .int .i64 0, .int .i64 0] 74)
  have HB : Hid (Below w.heap.size w (w.alloc (.cells #[.bool false, .int .i64 0, .int .i64 0, .int .i64 0, .int .i64 0, .int .i64 0, .int .i64 0, .int .i64 0, .bool false, .int .i64 0, .int .i64 0, .int .i64 0, .int .i64 0] 74))) := (Below.refl _ w).alloc (Nat.le_refl _) _
  go_enter Tryz.func37, Tryz.ntmps37
  go_wp2_with fail
  exact bodyPost_ret (res_cell_tmp Tryz.results37 _ _ w.heap.size _ rfl (load_bn HX.out)) rfl ⟨rfl, HB.out⟩
set_option maxRecDepth 100000 in
set_option maxHeartbeats 8000000 in
theorem bnd_25 (w : World) : Calls Tryz.prog 37 #[.int .i64 25] w (Gives (.tuple #[.agg #[.bool false, .int .i64 0, .int .i64 0, .int .i64 0, .int .i64 0, .int .i64 0, .int .i64 0, .int .i64 0, .bool false, .int .i64 0, .int .i64 0, .int .i64 1, .int .i64 100], .bool true]) w) := by
  have HX := Lib.hid (box_new w #[.bool false, .int .i64 0, .int .i64 0, .int .i64 0, .int .i64 0, .int .i64 0, .int .i64 0, .int .i64 0, .bool false, .int .i64 0, .int .i64 0, .int .i64 1, .int .i64 100] 74)
  have HB : Hid (Below w.heap.size w (w.alloc (.cells #[.bool false, .int .i64 0, .int .i64 0, .int .i64 0, .int .i64 0, .int .i64 0, .int .i64 0, .int .i64 0, .bool false, .int .i64 0, .int .i64 0, .int .i64 1, .int .i64 100] 74))) := (Below.refl _ w).alloc (Nat.le_refl _) _
  go_enter Tryz.func37, Tryz.ntmps37
  go_wp2_with fail
  exact bodyPost_ret (res_cell_tmp Tryz.results37 _ _ w.heap.size _ rfl (load_bn HX.out)) rfl ⟨rfl, HB.out⟩
set_option maxRecDepth 100000 in
set_option maxHeartbeats 8000000 in
theorem bnd_26 (w : World) : Calls Tryz.prog 37 #[.int .i64 26] w (Gives (.tuple #[.agg #[.bool true, .int .i64 2000, .int .i64 0, .int .i64 0, .int .i64 0, .int .i64 0, .int .i64 0, .int .i64 0, .bool false, .int .i64 0, .int .i64 0, .int .i64 0, .int .i64 0], .bool true]) w) := by
  have HX := Lib.hid (box_new w #[.bool true, .int .i64 2000, .int .i64 0, .int .i64 0, .int .i64 0, .int .i64 0, .int .i64 0, .int .i64 0, .bool false, .int .i64 0, .int .i64 0, .int .i64 0, .int .i64 0] 74)
  have HB : Hid (Below w.heap.size w (w.alloc (.cells #[.bool true, .int .i64 2000, .int .i64 0, .int .i64 0, .int .i64 0, .int .i64 0, .int .i64 0, .int .i64 0, .bool false, .int .i64 0, .int .i64 0, .int .i64 0, .int .i64 0] 74))) := (Below.refl _ w).alloc (Nat.le_refl _) _
  go_enter Tryz.func37, Tryz.ntmps37
  go_wp2_with fail
  exact bodyPost_ret (res_cell_tmp Tryz.results37 _ _ w.heap.size _ rfl (load_bn HX.out)) rfl ⟨rfl, HB.out⟩
set_option maxRecDepth 100000 in
set_option maxHeartbeats 8000000 in
theorem bnd_27 (w : World) : Calls Tryz.prog 37 #[.int .i64 27] w (Gives (.tuple #[.agg #[.bool true, .int .i64 2000, .int .i64 0, .int .i64 0, .int .i64 0, .int .i64 0, .int .i64 0, .int .i64 0, .bool false, .int .i64 0, .int .i64 0, .int .i64 0, .int .i64 0], .bool true]) w) := by
  have HX := Lib.hid (box_new w #[.bool true, .int .i64 2000, .int .i64 0, .int .i64 0, .int .i64 0, .int .i64 0, .int .i64 0, .int .i64 0, .bool false, .int .i64 0, .int .i64 0, .int .i64 0, .int .i64 0] 74)
  have HB : Hid (Below w.heap.size w (w.alloc (.cells #[.bool true, .int .i64 2000, .int .i64 0, .int .i64 0, .int .i64 0, .int .i64 0, .int .i64 0, .int .i64 0, .bool false, .int .i64 0, .int .i64 0, .int .i64 0, .int .i64 0] 74))) := (Below.refl _ w).alloc (Nat.le_refl _) _
  go_enter Tryz.func37, Tryz.ntmps37
  go_wp2_with fail
  exact bodyPost_ret (res_cell_tmp Tryz.results37 _ _ w.heap.size _ rfl (load_bn HX.out)) rfl ⟨rfl, HB.out⟩
set_option maxRecDepth 100000 in
set_option maxHeartbeats 8000000 in
theorem bnd_28 (w : World) : Calls Tryz.prog 37 #[.int .i64 28] w (Gives (.tuple #[.agg #[.bool true, .int .i64 2000, .int .i64 0, .int .i64 0, .int .i64 0, .int .i64 0, .int .i64 0, .int .i64 0, .bool true, .int .i64 0, .int .i64 0, .int .i64 0, .int .i64 0], .bool true]) w) := by
  have HX := Lib.hid (box_new w #[.bool true, .int .i64 2000, .int .i64 0, .int .i64 0, .int .i64 0, .int .i64 0, .int .i64 0, .int .i64 0, .bool true, .int .i64 0, .int .i64 0, .int .i64 0, .int .i64 0] 74)
  have HB : Hid (Below w.heap.size w (w.alloc (.cells #[.bool true, .int .i64 2000, .int .i64 0, .int .i64 0, .int .i64 0, .int .i64 0, .int .i64 0, .int .i64 0, .bool true, .int .i64 0, .int .i64 0, .int .i64 0, .int .i64 0] 74))) := (Below.refl _ w).alloc (Nat.le_refl _) _
  go_enter Tryz.func37, Tryz.ntmps37
  go_wp2_with fail
  exact bodyPost_ret (res_cell_tmp Tryz.results37 _ _ w.heap.size _ rfl (load_bn HX.out)) rfl ⟨rfl, HB.out⟩
set_option maxRecDepth 100000 in
set_option maxHeartbeats 8000000 in
theorem bnd_29 (w : World) : Calls Tryz.prog 37 #[.int .i64 29] w (Gives (.tuple #[.agg #[.bool true, .int .i64 2000, .int .i64 0, .int .i64 0, .int .i64 0, .int .i64 0, .int .i64 0, .int .i64 0, .bool true, .int .i64 0, .int .i64 0, .int .i64 0, .int .i64 0], .bool true]) w) := by
  have HX := Lib.hid (box_new w #[.bool true, .int .i64 2000, .int .i64 0, .int .i64 0, .int .i64 0, .int .i64 0, .int .i64 0, .int .i64 0, .bool true, .int .i64 0, .int .i64 0, .int .i64 0, .int .i64 0] 74)
  have HB : Hid (Below w.heap.size w (w.alloc (.cells #[.bool true, .int .i64 2000, .int .i64 0, .int .i64 0, .int .i64 0, .int .i64 0, .int .i64 0, .int .i64 0, .bool true, .int .i64 0, .int .i64 0, .int .i64 0, .int .i64 0] 74))) := (Below.refl _ w).alloc (Nat.le_refl _) _
  go_enter Tryz.func37, Tryz.ntmps37
  go_wp2_with fail
  exact bodyPost_ret (res_cell_tmp Tryz.results37 _ _ w.heap.size _ rfl (load_bn HX.out)) rfl ⟨rfl, HB.out⟩
set_option maxRecDepth 100000 in
set_option maxHeartbeats 8000000 in
theorem bnd_no (k : Int) (q1 : ((k : Int) == 1) = false) (q4 : ((k : Int) == 4) = false) (q9 : ((k : Int) == 9) = false) (q10 : ((k : Int) == 10) = false) (q23 : ((k : Int) == 23) = false) (q24 : ((k : Int) == 24) = false) (q2 : ((k : Int) == 2) = false) (q3 : ((k : Int) == 3) = false) (q5 : ((k : Int) == 5) = false) (q14 : ((k : Int) == 14) = false) (q6 : ((k : Int) == 6) = false) (q7 : ((k : Int) == 7) = false) (q8 : ((k : Int) == 8) = false) (q11 : ((k : Int) == 11) = false) (q12 : ((k : Int) == 12) = false) (q13 : ((k : Int) == 13) = false) (q15 : ((k : Int) == 15) = false) (q16 : ((k : Int) == 16) = false) (q17 : ((k : Int) == 17) = false) (q19 : ((k : Int) == 19) = false) (q18 : ((k : Int) == 18) = false) (q20 : ((k : Int) == 20) = false) (q21 : ((k : Int) == 21) = false) (q22 : ((k : Int) == 22) = false) (q25 : ((k : Int) == 25) = false) (q26 : ((k : Int) == 26) = false) (q27 : ((k : Int) == 27) = false) (q28 : ((k : Int) == 28) = false) (q29 : ((k : Int) == 29) = false) (w : World) : Calls Tryz.prog 37 #[.int .i64 k] w (Gives (.tuple #[.agg #[.bool false, .int .i64 0, .int .i64 0, .int .i64 0, .int .i64 0, .int .i64 0, .int .i64 0, .int .i64 0, .bool false, .int .i64 0, .int .i64 0, .int .i64 0, .int .i64 0], .bool false]) w) := by
  have HX := Lib.hid (box_new w #[.bool false, .int .i64 0, .int .i64 0, .int .i64 0, .int .i64 0, .int .i64 0, .int .i64 0, .int .i64 0, .bool false, .int .i64 0, .int .i64 0, .int .i64 0, .int .i64 0] 74)
  have HB : Hid (Below w.heap.size w (w.alloc (.cells #[.bool false, .int .i64 0, .int .i64 0, .int .i64 0, .int .i64 0, .int .i64 0, .int .i64 0, .int .i64 0, .bool false, .int .i64 0, .int .i64 0, .int .i64 0, .int .i64 0] 74))) := (Below.refl _ w).alloc (Nat.le_refl _) _
  go_enter Tryz.func37, Tryz.ntmps37
  go_wp2_with fail
  exact bodyPost_ret (res_cell_tmp Tryz.results37 _ _ w.heap.size _ rfl (load_bn HX.out)) rfl ⟨rfl, HB.out⟩
theorem bnd_of (k : Int) (K : Nat) (h : k = K) (h1 : 1 ≤ K) (h2 : K ≤ 29) : isK k = true ∧ bnd k = bndN K := by
  have e : isK k = true := by unfold isK; rw [h, decide_eq_true (by omega), decide_eq_true (by omega)]; rfl
  refine ⟨e, ?_⟩
  unfold bnd
  rw [if_pos e, h, Int.toNat_natCast]
theorem bnd_out (k : Int) (h : ¬ (1 ≤ k ∧ k ≤ 29)) : isK k = false ∧ bnd k = zB := by
  have e : isK k = false := by
    rw [Bool.eq_false_iff]
    intro q
    unfold isK at q
    simp only [Bool.and_eq_true, decide_eq_true_eq] at q
    exact h q
  refine ⟨e, ?_⟩
  unfold bnd
  rw [if_neg (by rw [e]; decide)]
set_option maxRecDepth 100000 in
theorem boundsOf_any (k : Int) (w : World) : Calls Tryz.prog 37 #[.int .i64 k] w (Gives (.tuple #[bA (bnd k), .bool (isK k)]) w) := by
  by_cases e1 : k = 1
  · subst e1
    rw [(bnd_of 1 1 rfl (by decide) (by decide)).1, (bnd_of 1 1 rfl (by decide) (by decide)).2]
    exact bnd_1 w
  by_cases e2 : k = 2
  · subst e2
    rw [(bnd_of 2 2 rfl (by decide) (by decide)).1, (bnd_of 2 2 rfl (by decide) (by decide)).2]
    exact bnd_2 w
  by_cases e3 : k = 3
  · subst e3
    rw [(bnd_of 3 3 rfl (by decide) (by decide)).1, (bnd_of 3 3 rfl (by decide) (by decide)).2]
    exact bnd_3 w
  by_cases e4 : k = 4
  · subst e4
    rw [(bnd_of 4 4 rfl (by decide) (by decide)).1, (bnd_of 4 4 rfl (by decide) (by decide)).2]
    exact bnd_4 w
  by_cases e5 : k = 5
  · subst e5
    rw [(bnd_of 5 5 rfl (by decide) (by decide)).1, (bnd_of 5 5 rfl (by decide) (by decide)).2]
    exact bnd_5 w
  by_cases e6 : k = 6
  · subst e6
    rw [(bnd_of 6 6 rfl (by decide) (by decide)).1, (bnd_of 6 6 rfl (by decide) (by decide)).2]
    exact bnd_6 w
  by_cases e7 : k = 7
  · subst e7
    rw [(bnd_of 7 7 rfl (by decide) (by decide)).1, (bnd_of 7 7 rfl (by decide) (by decide)).2]
    exact bnd_7 w
  by_cases e8 : k = 8
  · subst e8
    rw [(bnd_of 8 8 rfl (by decide) (by decide)).1, (bnd_of 8 8 rfl (by decide) (by decide)).2]
    exact bnd_8 w
  by_cases e9 : k = 9
  · subst e9
    rw [(bnd_of 9 9 rfl (by decide) (by decide)).1, (bnd_of 9 9 rfl (by decide) (by decide)).2]
    exact bnd_9 w
  by_cases e10 : k = 10
  · subst e10
    rw [(bnd_of 10 10 rfl (by decide) (by decide)).1, (bnd_of 10 10 rfl (by decide) (by decide)).2]
    exact bnd_10 w
  by_cases e11 : k = 11
  · subst e11
    rw [(bnd_of 11 11 rfl (by decide) (by decide)).1, (bnd_of 11 11 rfl (by decide) (by decide)).2]
    exact bnd_11 w
  by_cases e12 : k = 12
  · subst e12
    rw [(bnd_of 12 12 rfl (by decide) (by decide)).1, (bnd_of 12 12 rfl (by decide) (by decide)).2]
    exact bnd_12 w
  by_cases e13 : k = 13
  · subst e13
    rw [(bnd_of 13 13 rfl (by decide) (by decide)).1, (bnd_of 13 13 rfl (by decide) (by decide)).2]
    exact bnd_13 w
  by_cases e14 : k = 14
  · subst e14
    rw [(bnd_of 14 14 rfl (by decide) (by decide)).1, (bnd_of 14 14 rfl (by decide) (by decide)).2]
    exact bnd_14 w
  by_cases e15 : k = 15
  · subst e15
    rw [(bnd_of 15 15 rfl (by decide) (by decide)).1, (bnd_of 15 15 rfl (by decide) (by decide)).2]
    exact bnd_15 w
  by_cases e16 : k = 16
  · subst e16
    rw [(bnd_of 16 16 rfl (by decide) (by decide)).1, (bnd_of 16 16 rfl (by decide) (by decide)).2]
    exact bnd_16 w
  by_cases e17 : k = 17
  · subst e17
    rw [(bnd_of 17 17 rfl (by decide) (by decide)).1, (bnd_of 17 17 rfl (by decide) (by decide)).2]
    exact bnd_17 w
  by_cases e18 : k = 18
  · subst e18
    rw [(bnd_of 18 18 rfl (by decide) (by decide)).1, (bnd_of 18 18 rfl (by decide) (by decide)).2]
    exact bnd_18 w
  by_cases e19 : k = 19
  · subst e19
    rw [(bnd_of 19 19 rfl (by decide) (by decide)).1, (bnd_of 19 19 rfl (by decide) (by decide)).2]
    exact bnd_19 w
  by_cases e20 : k = 20
  · subst e20
    rw [(bnd_of 20 20 rfl (by decide) (by decide)).1, (bnd_of 20 20 rfl (by decide) (by decide)).2]
    exact bnd_20 w
  by_cases e21 : k = 21
  · subst e21
    rw [(bnd_of 21 21 rfl (by decide) (by decide)).1, (bnd_of 21 21 rfl (by decide) (by decide)).2]
    exact bnd_21 w
  by_cases e22 : k = 22
  · subst e22
    rw [(bnd_of 22 22 rfl (by decide) (by decide)).1, (bnd_of 22 22 rfl (by decide) (by decide)).2]
    exact bnd_22 w
  by_cases e23 : k = 23
  · subst e23
    rw [(bnd_of 23 23 rfl (by decide) (by decide)).1, (bnd_of 23 23 rfl (by decide) (by decide)).2]
    exact bnd_23 w
  by_cases e24 : k = 24
  · subst e24
    rw [(bnd_of 24 24 rfl (by decide) (by decide)).1, (bnd_of 24 24 rfl (by decide) (by decide)).2]
    exact bnd_24 w
  by_cases e25 : k = 25
  · subst e25
    rw [(bnd_of 25 25 rfl (by decide) (by decide)).1, (bnd_of 25 25 rfl (by decide) (by decide)).2]
    exact bnd_25 w
  by_cases e26 : k = 26
  · subst e26
    rw [(bnd_of 26 26 rfl (by decide) (by decide)).1, (bnd_of 26 26 rfl (by decide) (by decide)).2]
    exact bnd_26 w
  by_cases e27 : k = 27
  · subst e27
    rw [(bnd_of 27 27 rfl (by decide) (by decide)).1, (bnd_of 27 27 rfl (by decide) (by decide)).2]
    exact bnd_27 w
  by_cases e28 : k = 28
  · subst e28
    rw [(bnd_of 28 28 rfl (by decide) (by decide)).1, (bnd_of 28 28 rfl (by decide) (by decide)).2]
    exact bnd_28 w
  by_cases e29 : k = 29
  · subst e29
    rw [(bnd_of 29 29 rfl (by decide) (by decide)).1, (bnd_of 29 29 rfl (by decide) (by decide)).2]
    exact bnd_29 w
  have q := bnd_no k (by simpa using e1) (by simpa using e4) (by simpa using e9) (by simpa using e10) (by simpa using e23) (by simpa using e24) (by simpa using e2) (by simpa using e3) (by simpa using e5) (by simpa using e14) (by simpa using e6) (by simpa using e7) (by simpa using e8) (by simpa using e11) (by simpa using e12) (by simpa using e13) (by simpa using e15) (by simpa using e16) (by simpa using e17) (by simpa using e19) (by simpa using e18) (by simpa using e20) (by simpa using e21) (by simpa using e22) (by simpa using e25) (by simpa using e26) (by simpa using e27) (by simpa using e28) (by simpa using e29) w
  have h := bnd_out k (by omega)
  rw [h.1, h.2]
  exact q
end Go.Proofs.YtdmbngkkbgmlfaaGreatDoor.T
