/- Contracts: what an item is called; whether items rise; whether each fits. Conditions: those of each theorem's head. -/
import Derived.Test.YtdmbngkkbgmlfaaGreatDoorLc
import Derived.Test.YtdmbngkkbgmlfaaGreatDoorAf
namespace Go.Proofs.YtdmbngkkbgmlfaaGreatDoor.T
open Go.RowKit Go.Lib

def tA (p : Int × ByteArray) : Value := .agg #[.int .i64 p.1, .string p.2]
theorem st2 {w : World} {b : Nat} {v0 v1 : Value} {t : TypeId} (h : w.heap[b]? = some (.cells #[v0, v1] t (0, 0))) (u0 u1 : Value) : ((w.setCell ⟨b, 0, none⟩ u0).setCell ⟨b, 1, none⟩ u1).heap[b]? = some (.cells #[u0, u1] t (0, 0)) := by
  simp [World.setCell, Array.getElem?_modify, h]
set_option maxRecDepth 100000 in
set_option maxHeartbeats 8000000 in
theorem ttl_g (x : It) (w : World) (h1 : ((x.t : Int) == 0) = false) : Calls Tryz.prog 35 #[.agg #[.string x.n, .int .i64 x.g, .int .i64 x.i, .int .i64 x.t, .string x.a, .bool x.w]] w (Gives (.agg #[.int .i64 x.t, .string x.n]) w) := by
  have HP : Hid (((w.alloc (.cells #[.string x.n, .int .i64 x.g, .int .i64 x.i, .int .i64 x.t, .string x.a, .bool x.w] 26)).alloc (.cells #[.int .i64 0, .string ⟨#[]⟩] 70)).heap[w.heap.size]? = some (.cells #[.string x.n, .int .i64 x.g, .int .i64 x.i, .int .i64 x.t, .string x.a, .bool x.w] 26 (0, 0))) := (Below.heap_alloc (w.alloc (.cells #[.string x.n, .int .i64 x.g, .int .i64 x.i, .int .i64 x.t, .string x.a, .bool x.w] 26)) (.cells #[.int .i64 0, .string ⟨#[]⟩] 70) _ (by simp)).trans (box_new w _ _)
  have HQ := Lib.hid (box_new2 w (.cells #[.string x.n, .int .i64 x.g, .int .i64 x.i, .int .i64 x.t, .string x.a, .bool x.w] 26) #[.int .i64 0, .string ⟨#[]⟩] 70)
  have HB : Hid (Below w.heap.size w ((w.alloc (.cells #[.string x.n, .int .i64 x.g, .int .i64 x.i, .int .i64 x.t, .string x.a, .bool x.w] 26)).alloc (.cells #[.int .i64 0, .string ⟨#[]⟩] 70))) := ((Below.refl _ w).alloc (Nat.le_refl _) _).alloc (by simp) _
  obtain ⟨c0, c1, c2, c3, c4, c5⟩ := bx6 HP.out
  obtain ⟨d0, d1⟩ := bx2 HQ.out
  have f0 := bxf HQ.out 0
  have f1 := bxf HQ.out 1
  go_enter Tryz.func35, Tryz.ntmps35
  go_wp2_with fail
  exact bodyPost_ret (results_cell_row Tryz.results35 _ _ (w.heap.size + 1) 70 _ (0, 0) _ rfl (box_new2 w (.cells #[.string x.n, .int .i64 x.g, .int .i64 x.i, .int .i64 x.t, .string x.a, .bool x.w] 26) #[.int .i64 x.t, .string x.n] 70) Tryz.underlying70 rfl (by kernel_rfl)) rfl ⟨rfl, ((Below.refl _ w).alloc (Nat.le_refl _) _).alloc (by simp) _⟩
set_option maxRecDepth 100000 in
set_option maxHeartbeats 8000000 in
theorem ttl_b (n a : ByteArray) (g i : Int) (v : Bool) (w : World) (hn : n.size ≤ 1048576) : Calls Tryz.prog 35 #[.agg #[.string n, .int .i64 g, .int .i64 i, .int .i64 0, .string a, .bool v]] w (Gives (.agg #[.int .i64 0, .string (Go.Proofs.YtdmbngkkbgmlfaaGreatDoor.mk (Hd.nl n.data.toList))]) w) := by
  have C : Hid (∀ W, Calls Tryz.prog 54 #[.string n] W (Gives (.string (Go.Proofs.YtdmbngkkbgmlfaaGreatDoor.mk (Hd.nl n.data.toList))) W)) := fun W => hnorm_any n W hn
  generalize Go.Proofs.YtdmbngkkbgmlfaaGreatDoor.mk (Hd.nl n.data.toList) = m at C ⊢
  have HP : Hid (((w.alloc (.cells #[.string n, .int .i64 g, .int .i64 i, .int .i64 0, .string a, .bool v] 26)).alloc (.cells #[.int .i64 0, .string ⟨#[]⟩] 70)).heap[w.heap.size]? = some (.cells #[.string n, .int .i64 g, .int .i64 i, .int .i64 0, .string a, .bool v] 26 (0, 0))) := (Below.heap_alloc (w.alloc (.cells #[.string n, .int .i64 g, .int .i64 i, .int .i64 0, .string a, .bool v] 26)) (.cells #[.int .i64 0, .string ⟨#[]⟩] 70) _ (by simp)).trans (box_new w _ _)
  have HQ := Lib.hid (box_new2 w (.cells #[.string n, .int .i64 g, .int .i64 i, .int .i64 0, .string a, .bool v] 26) #[.int .i64 0, .string ⟨#[]⟩] 70)
  have HB : Hid (Below w.heap.size w ((w.alloc (.cells #[.string n, .int .i64 g, .int .i64 i, .int .i64 0, .string a, .bool v] 26)).alloc (.cells #[.int .i64 0, .string ⟨#[]⟩] 70))) := ((Below.refl _ w).alloc (Nat.le_refl _) _).alloc (by simp) _
  obtain ⟨c0, c1, c2, c3, c4, c5⟩ := bx6 HP.out
  obtain ⟨d0, d1⟩ := bx2 HQ.out
  have f0 := bxf HQ.out 0
  have f1 := bxf HQ.out 1
  go_enter Tryz.func35, Tryz.ntmps35
  go_wp2_with fail
  generalize hV : (w.alloc (.cells #[.string n, .int .i64 g, .int .i64 i, .int .i64 0, .string a, .bool v] 26)).alloc (.cells #[.int .i64 0, .string ⟨#[]⟩] 70) = V at HP HQ HB c0 c1 c2 c3 c4 c5 d0 d1 f0 f1 ⊢
  clear hV d0 d1 f0 f1 HP
  have x0 : ∀ y : Ext V, y.to.cell? _ = _ := fun y => ext_cell y c0
  have x3 : ∀ y : Ext V, y.to.cell? _ = _ := fun y => ext_cell y c3
  have X : Hid (Xc V 54 #[.string n] (.string m)) := fun y => C.out y.to
  have hsome := extSome V
  clear c0 c1 c2 c3 c4 c5 C
  refine ext_tail 5 (by kernel_rfl) (by kernel_rfl) ?_
  simp only [List.take_succ_cons, List.take_zero, List.drop_succ_cons, List.drop_zero]
  repeat (go_big_quiet_step ((first | (go_at_call 54; with_reducible exact ext_call _ (X.out _)))))
  refine wpQuiet_nil ?_
  rintro _ ⟨y, hy⟩
  subst hy
  have HY := Lib.hid (HB.out.trans (y.below.mono HB.out.size))
  have HZ := Lib.hid ((y.below.block _ (heap_lt HQ.out)).trans HQ.out)
  clear x0 x3 X hsome HB HQ
  obtain ⟨W, hW⟩ : ∃ z, z = y.to := ⟨_, rfl⟩
  rw [← hW] at HY HZ ⊢
  clear hW
  clear y
  obtain ⟨d0, d1⟩ := bx2 HZ.out
  have f0 := bxf HZ.out 0
  have f1 := bxf HZ.out 1
  go_wp2_with fail
  exact bodyPost_ret (results_cell_row Tryz.results35 _ _ (w.heap.size + 1) 70 _ (0, 0) _ rfl (st2 HZ.out _ _) Tryz.underlying70 rfl (by kernel_rfl)) rfl ⟨rfl, (HY.out.setCell (p := ⟨w.heap.size + 1, 0, none⟩) (Nat.le_succ _) _).setCell (p := ⟨w.heap.size + 1, 1, none⟩) (Nat.le_succ _) _⟩
theorem titleOf_any (x : It) (w : World) (hn : x.n.size ≤ 1048576) : Calls Tryz.prog 35 #[.agg #[.string x.n, .int .i64 x.g, .int .i64 x.i, .int .i64 x.t, .string x.a, .bool x.w]] w (Gives (tA (ttl x)) w) := by
  unfold ttl tA
  by_cases h : x.t = 0
  · rw [if_pos h]
    obtain ⟨n, g, i, t, a, v⟩ := x
    dsimp only at h hn ⊢
    subst h
    exact ttl_b n a g i v w hn
  · rw [if_neg h]; exact ttl_g x w (by simpa using h)
theorem fit_no {l : List It} (i : Nat) (h : i < l.length) (e1 : grp l[i] = false) (e2 : bud l l[i] = false) : fitB l = false := all_no i h (by rw [e1, e2]; rfl)
theorem fit_yes {l : List It} (h : ∀ i (h : i < l.length), (grp l[i] || bud l l[i]) = true) : fitB l = true := all_yes h
set_option maxRecDepth 100000 in
set_option maxHeartbeats 8000000 in
theorem fit_any (l : List It) (a : Option Addr) (c : Nat) (w : World) (hL : ItS w a l) (hn : l.length ≤ 1000000) : Calls Tryz.prog 21 #[.slice a l.length c] w (Gives (.bool (fitB l)) w) := by
  have HL := Lib.hid fun W (hb : Below w.heap.size w W) => hL.below hb
  have HA : Hid (∀ i (h : i < l.length), grp l[i] = false → bud l l[i] = false → fitB l = false) := fun i h e1 e2 => fit_no i h e1 e2
  have HY : Hid ((∀ i (h : i < l.length), (grp l[i] || bud l l[i]) = true) → fitB l = true) := fun h => fit_yes h
  generalize fitB l = R at HA HY ⊢
  have HB0 : Hid (Below w.heap.size w w) := Below.refl _ _
  clear hL
  go_enter Tryz.func21, Tryz.ntmps21
  go_wp2_with fail
  go_loopw [7] (fun i wr => ∃ j : Nat, i = .int .i64 j ∧ j ≤ l.length ∧ Hid (Below w.heap.size w wr) ∧ Hid (∀ i (h : i < l.length), i < j → (grp l[i] || bud l l[i]) = true)) (fun i _ => l.length - (RowKit.intOf i).toNat)
  case atStart => exact ⟨0, rfl, Nat.zero_le _, HB0.out, fun i _ h => absurd h (Nat.not_lt_zero _)⟩
  case round =>
    clear HB0
    obtain ⟨j, rfl, hj, HB, HN⟩ := hrel
    by_cases hlt : j < l.length
    · obtain ⟨b, o, rfl, e0, e1, e2, e3, e4, e5⟩ := HL.out _ HB.out j hlt
      have HAj := Lib.hid (HA.out j hlt)
      have HNj : Hid ((grp l[j] || bud l l[j]) = true → ∀ i (h : i < l.length), i < j + 1 → (grp l[i] || bud l l[i]) = true) := fun e i h h2 => by
        by_cases h3 : i < j
        · exact HN.out i h h3
        · obtain rfl : i = j := by omega
          exact e
      have CG := Lib.hid (fun W => isGroup_any l[j] W)
      have CB := Lib.hid (fun W (hb : Below w.heap.size w W) => isBuddy_any l (some ⟨b, o, none⟩) c l[j] W (HL.out W hb) hn)
      generalize grp l[j] = p at HAj HNj CG
      generalize bud l l[j] = q at HAj HNj CB
      generalize l[j] = y at e0 e1 e2 e3 e4 e5 CG CB
      have HX := Lib.hid (box_new wr #[.string y.n, .int .i64 y.g, .int .i64 y.i, .int .i64 y.t, .string y.a, .bool y.w] 26)
      have HBW := Lib.hid (HB.out.alloc HB.out.size (.cells #[.string y.n, .int .i64 y.g, .int .i64 y.i, .int .i64 y.t, .string y.a, .bool y.w] 26))
      obtain ⟨c0, c1, c2, c3, c4, c5⟩ := bx6 HX.out
      cases p
      · go_wp2_with fail
        refine (CG.out _).mono ?_
        rintro e w1 ⟨rfl, hb⟩
        have HB1 := Lib.hid (HBW.out.trans (hb.mono HBW.out.size))
        have HX1 := Lib.hid ((hb.block _ (heap_lt HX.out)).trans HX.out)
        clear hb c0 c1 c2 c3 c4 c5 HX HBW
        obtain ⟨c0, c1, c2, c3, c4, c5⟩ := bx6 HX1.out
        cases q
        · have e9 := HAj.out (by first | rfl | trivial) (by first | rfl | trivial)
          subst e9
          clear HA HY HAj HNj
          go_wp2_with fail
          refine (CB.out _ HB1.out).mono ?_
          rintro e w2 ⟨rfl, hb⟩
          have HB2 := Lib.hid (HB1.out.trans (hb.mono HB1.out.size))
          clear hb
          go_wp2_with fail
          go_ret
          exact ⟨rfl, HB2.out⟩
        · have HN2 := Lib.hid (HNj.out rfl)
          clear HAj HNj HN
          go_wp2_with fail
          refine (CB.out _ HB1.out).mono ?_
          rintro e w2 ⟨rfl, hb⟩
          have HB2 := Lib.hid (HB1.out.trans (hb.mono HB1.out.size))
          clear hb
          go_wp2_with fail
          exact ⟨⟨j + 1, by go_num, by omega, HB2.out, HN2.out⟩, by simp [RowKit.intOf]; omega⟩
      · have HN2 := Lib.hid (HNj.out rfl)
        clear HAj HNj HN
        go_wp2_with fail
        refine (CG.out _).mono ?_
        rintro e w1 ⟨rfl, hb⟩
        have HB1 := Lib.hid (HBW.out.trans (hb.mono HBW.out.size))
        clear hb
        go_wp2_with fail
        exact ⟨⟨j + 1, by go_num, by omega, HB1.out, HN2.out⟩, by simp [RowKit.intOf]; omega⟩
    · obtain rfl : j = l.length := by omega
      have e9 := HY.out fun i h => HN.out i h h
      subst e9
      clear HA HY HN
      go_wp2_with fail
      go_ret
      exact ⟨rfl, HB.out⟩
theorem rise_yes {l : List It} (h : ∀ k (hk : k + 1 < l.length), cI (l[k]'(by omega)) l[k + 1] < 0) : pb (l.Pairwise Lt) = true := pb_yes (ris_of fun k hk => cI_lt.1 (h k hk))
theorem rise_no {l : List It} (k : Nat) (hk : k + 1 < l.length) (h : ¬ cI (l[k]'(by omega)) l[k + 1] < 0) : pb (l.Pairwise Lt) = false := pb_no fun e => h (cI_lt.2 (ris_at e hk (Nat.lt_succ_self k)))
set_option maxRecDepth 100000 in
set_option maxHeartbeats 8000000 in
theorem rise_any (l : List It) (a : Option Addr) (c B : Nat) (w : World) (hL : ItS w a l) (hC : CmB w B) (hn : l.length ≤ 1000000) : Calls Tryz.prog 18 #[cmV B, .slice a l.length c] w (Gives (.bool (pb (l.Pairwise Lt))) w) := by
  have HL := Lib.hid fun W (hb : Below w.heap.size w W) => hL.below hb
  have HC := Lib.hid fun x y W (hb : Below w.heap.size w W) => by1_any x y B W (hC.below hb)
  have HA : Hid (∀ k (hk : k + 1 < l.length), ¬ cI (l[k]'(by omega)) l[k + 1] < 0 → pb (l.Pairwise Lt) = false) := fun k hk h => rise_no k hk h
  have HY : Hid ((∀ k (hk : k + 1 < l.length), cI (l[k]'(by omega)) l[k + 1] < 0) → pb (l.Pairwise Lt) = true) := fun h => rise_yes h
  generalize pb (l.Pairwise Lt) = R at HA HY ⊢
  have HB0 : Hid (Below w.heap.size w w) := Below.refl _ _
  clear hL hC
  unfold cmV
  go_enter Tryz.func18, Tryz.ntmps18
  go_wp2_with fail
  go_loopw [8] (fun i wr => ∃ j : Nat, i = .int .i64 j ∧ j ≤ l.length ∧ Hid (Below w.heap.size w wr) ∧ Hid (∀ k (hk : k + 1 < l.length), k + 1 < j → cI (l[k]'(by omega)) l[k + 1] < 0)) (fun i _ => l.length - (RowKit.intOf i).toNat)
  case atStart => exact ⟨0, rfl, Nat.zero_le _, HB0.out, fun k _ h => absurd h (Nat.not_lt_zero _)⟩
  case round =>
    clear HB0
    obtain ⟨j, rfl, hj, HB, HN⟩ := hrel
    by_cases hlt : j < l.length
    · obtain ⟨b, o, rfl, e0, e1, e2, e3, e4, e5⟩ := HL.out _ HB.out j hlt
      by_cases h0 : j = 0
      · subst h0
        have HN2 : Hid (∀ k (hk : k + 1 < l.length), k + 1 < 1 → cI (l[k]'(by omega)) l[k + 1] < 0) := fun k _ h => absurd h (by omega)
        clear HN HA e0 e1 e2 e3 e4 e5
        go_wp2_with fail
        refine ext_region (by kernel_rfl) (by kernel_rfl) ?_
        have hsome := extSome wr
        repeat (go_big_quiet_step (fail))
        refine wpQuiet_nil ?_
        rintro _ ⟨y, hy⟩
        subst hy
        have HB1 := Lib.hid (HB.out.trans (y.below.mono HB.out.size))
        go_wp2_with fail
        exact ⟨⟨1, by go_num, by omega, HB1.out, HN2.out⟩, by simp [RowKit.intOf]; omega⟩
      · obtain ⟨k, rfl⟩ : ∃ k, j = k + 1 := ⟨j - 1, by omega⟩
        obtain ⟨b', o', he, g0, g1, g2, g3, g4, g5⟩ := HL.out _ HB.out k (by omega)
        simp only [Option.some.injEq, Addr.mk.injEq] at he
        obtain ⟨rfl, rfl, -⟩ := he
        have HAk := Lib.hid (HA.out k hlt)
        have HNk : Hid (cI (l[k]'(by omega)) l[k + 1] < 0 → ∀ q (hq : q + 1 < l.length), q + 1 < k + 2 → cI (l[q]'(by omega)) l[q + 1] < 0) := fun e q hq h2 => by
          by_cases h3 : q + 1 < k + 1
          · exact HN.out q hq h3
          · obtain rfl : q = k := by omega
            exact e
        have C := Lib.hid (HC.out (l[k]'(by omega)) l[k + 1])
        generalize cI (l[k]'(by omega)) l[k + 1] = r at HAk HNk C
        generalize (l[k]'(by omega)) = x at g0 g1 g2 g3 g4 g5 C
        generalize l[k + 1] = y at e0 e1 e2 e3 e4 e5 C
        clear HN HA
        have hk1 : ((k + 1 : Nat) : Int) - 1 = k := by omega
        go_wp2_with fail
        have x0 : ∀ z : Ext wr, z.to.cell? _ = _ := fun z => ext_cell z g0
        have y0 : ∀ z : Ext wr, z.to.cell? _ = _ := fun z => ext_cell z e0
        have x1 : ∀ z : Ext wr, z.to.cell? _ = _ := fun z => ext_cell z g1
        have y1 : ∀ z : Ext wr, z.to.cell? _ = _ := fun z => ext_cell z e1
        have x2 : ∀ z : Ext wr, z.to.cell? _ = _ := fun z => ext_cell z g2
        have y2 : ∀ z : Ext wr, z.to.cell? _ = _ := fun z => ext_cell z e2
        have x3 : ∀ z : Ext wr, z.to.cell? _ = _ := fun z => ext_cell z g3
        have y3 : ∀ z : Ext wr, z.to.cell? _ = _ := fun z => ext_cell z e3
        have x4 : ∀ z : Ext wr, z.to.cell? _ = _ := fun z => ext_cell z g4
        have y4 : ∀ z : Ext wr, z.to.cell? _ = _ := fun z => ext_cell z e4
        have x5 : ∀ z : Ext wr, z.to.cell? _ = _ := fun z => ext_cell z g5
        have y5 : ∀ z : Ext wr, z.to.cell? _ = _ := fun z => ext_cell z e5
        have X0 : Hid (Xc wr 40 #[.agg #[.string x.n, .int .i64 x.g, .int .i64 x.i, .int .i64 x.t, .string x.a, .bool x.w], .agg #[.string y.n, .int .i64 y.g, .int .i64 y.i, .int .i64 y.t, .string y.a, .bool y.w], .pointer (some ⟨B, 0, none⟩)] (.int .i64 r)) := fun z => C.out z.to (HB.out.trans (z.below.mono HB.out.size))
        have hsome := extSome wr
        clear g0 g1 g2 g3 g4 g5 e0 e1 e2 e3 e4 e5 C
        have hk2 : 0 < k + 1 := by omega
        by_cases hr : r < 0
        · have HN2 := Lib.hid (HNk.out hr)
          have hr2 : ¬ 0 ≤ r := by omega
          clear HNk HAk
          refine ext_region (by kernel_rfl) (by kernel_rfl) ?_
          repeat (go_big_quiet_step ((first | (go_at_call 40; with_reducible exact ext_call _ (X0.out _)))))
          refine wpQuiet_nil ?_
          rintro _ ⟨z, hy⟩
          subst hy
          have HB1 := Lib.hid (HB.out.trans (z.below.mono HB.out.size))
          go_wp2_with fail
          exact ⟨⟨k + 2, by go_num, by omega, HB1.out, HN2.out⟩, by simp [RowKit.intOf]; omega⟩
        · have e9 := HAk.out (by omega)
          subst e9
          have hr2 : 0 ≤ r := by omega
          clear HNk HAk HY
          refine ext_region (by kernel_rfl) (by kernel_rfl) ?_
          repeat (go_big_quiet_step ((first | (go_at_call 40; with_reducible exact ext_call _ (X0.out _)))))
          refine wpQuiet_nil ?_
          rintro _ ⟨z, hy⟩
          subst hy
          have HB1 := Lib.hid (HB.out.trans (z.below.mono HB.out.size))
          go_wp2_with fail
          go_ret
          exact ⟨rfl, HB1.out⟩
    · obtain rfl : j = l.length := by omega
      have e9 := HY.out fun k hk => HN.out k hk hk
      subst e9
      clear HA HY HN
      go_wp2_with fail
      go_ret
      exact ⟨rfl, HB.out⟩
end Go.Proofs.YtdmbngkkbgmlfaaGreatDoor.T
