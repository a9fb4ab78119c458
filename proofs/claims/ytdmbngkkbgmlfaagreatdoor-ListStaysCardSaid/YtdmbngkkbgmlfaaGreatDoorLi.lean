/- Contracts: who is called so. Conditions: those of each theorem's head. -/
import Derived.Test.YtdmbngkkbgmlfaaGreatDoorLh
import Derived.Test.YtdmbngkkbgmlfaaGreatDoorLg
namespace Go.Proofs.YtdmbngkkbgmlfaaGreatDoor.T
open Go.RowKit Go.Lib

set_option maxRecDepth 100000 in
set_option maxHeartbeats 8000000 in
theorem title_any (l : List It) (a : Option Addr) (c : Nat) (t g : Int) (w : World) (hL : ItS w a l) (hn : l.length ≤ 1000000) (hz : ∀ x ∈ l, x.n.size ≤ 1000000) : Calls Tryz.prog 14 #[.agg #[.slice a l.length c, .int .i64 t], .int .i64 g] w (Gives (.string (tit l g)) w) := by
  have HL := Lib.hid fun W (hb : Below w.heap.size w W) => hL.below hb
  have HZ := Lib.hid hz
  have HA : Hid (∀ j (hj : j < l.length), l[j].t = 1 ∧ l[j].g = g → (∀ i (hi : i < l.length), i < j → decide (l[i].t = 1 ∧ l[i].g = g) = false) → tit l g = l[j].n) := fun j hj h hn => tit_hit hj h hn
  have HY : Hid ((∀ i (hi : i < l.length), decide (l[i].t = 1 ∧ l[i].g = g) = false) → tit l g = ⟨#[]⟩) := fun h => tit_miss h
  generalize tit l g = R at HA HY ⊢
  clear hL hz
  have HX := Lib.hid (box_new w #[.slice a l.length c, .int .i64 t] 24)
  have HB0 : Hid (Below w.heap.size w (w.alloc (.cells #[.slice a l.length c, .int .i64 t] 24))) := (Below.refl _ w).alloc (Nat.le_refl _) _
  obtain ⟨c0, c1⟩ := bx2 HX.out
  go_enter Tryz.func14, Tryz.ntmps14
  go_wp2_with fail
  go_loopw [10] (fun i wr => ∃ j : Nat, i = .int .i64 j ∧ j ≤ l.length ∧ Hid (∀ i (hi : i < l.length), i < j → decide (l[i].t = 1 ∧ l[i].g = g) = false) ∧ Hid (Below w.heap.size w wr)) (fun i _ => l.length - (RowKit.intOf i).toNat)
  case atStart => exact ⟨0, rfl, Nat.zero_le _, fun i _ h => absurd h (Nat.not_lt_zero _), HB0⟩
  case round =>
    clear HX HB0 c0 c1
    obtain ⟨j, rfl, hj, HN, HB⟩ := hrel
    by_cases hlt : j < l.length
    · obtain ⟨b, o, rfl, e0, e1, e2, e3, e4, e5⟩ := HL.out _ HB.out j hlt
      have HAj := Lib.hid fun h => HA.out j hlt h HN.out
      have HNj : Hid (decide (l[j].t = 1 ∧ l[j].g = g) = false → ∀ i (hi : i < l.length), i < j + 1 → decide (l[i].t = 1 ∧ l[i].g = g) = false) := fun e i h h2 => by
        by_cases h3 : i < j
        · exact HN.out i h h3
        · obtain rfl : i = j := by omega
          exact e
      have hzz := HZ.out _ (List.getElem_mem hlt)
      generalize l[j] = y at e0 e1 e2 e3 e4 e5 HAj HNj hzz
      have C := Lib.hid fun W => clone_any y.n W (by omega)
      clear hzz
      have HX := Lib.hid (box_new wr #[.string y.n, .int .i64 y.g, .int .i64 y.i, .int .i64 y.t, .string y.a, .bool y.w] 26)
      have HBW := Lib.hid (HB.out.alloc HB.out.size (.cells #[.string y.n, .int .i64 y.g, .int .i64 y.i, .int .i64 y.t, .string y.a, .bool y.w] 26))
      obtain ⟨d0, d1, d2, d3, d4, d5⟩ := bx6 HX.out
      by_cases h1 : y.t = 1
      · have q1 : ((y.t : Int) == 1) = true := by simpa using h1
        by_cases h2 : y.g = g
        · have q2 : ((y.g : Int) == g) = true := by simpa using h2
          have e9 := HAj.out ⟨h1, h2⟩
          subst e9
          clear h1 h2 HAj HNj HA HY HN
          go_wp2_with fail
          refine (C.out _).mono ?_
          rintro e w1 ⟨rfl, hb⟩
          have HB1 := Lib.hid (HBW.out.trans (hb.mono HBW.out.size))
          clear hb
          go_wp2_with fail
          go_ret
          exact ⟨rfl, HB1.out⟩
        · have q2 : ((y.g : Int) == g) = false := by simpa using h2
          have HN2 := Lib.hid (HNj.out (decide_eq_false fun e => h2 e.2))
          clear h1 h2 HAj HNj HN
          go_wp2_with fail
          exact ⟨⟨j + 1, by go_num, by omega, HN2.out, HBW.out⟩, by simp [RowKit.intOf]; omega⟩
      · have q1 : ((y.t : Int) == 1) = false := by simpa using h1
        have HN2 := Lib.hid (HNj.out (decide_eq_false fun e => h1 e.1))
        clear h1 HAj HNj HN
        go_wp2_with fail
        exact ⟨⟨j + 1, by go_num, by omega, HN2.out, HBW.out⟩, by simp [RowKit.intOf]; omega⟩
    · obtain rfl : j = l.length := by omega
      have e9 := HY.out fun i h => HN.out i h h
      subst e9
      clear HA HY HN
      go_wp2_with fail
      go_ret
      exact ⟨rfl, HB.out⟩
def caV (r : Option It) : Value := match r with
  | some y => .tuple #[.agg #[.string y.n, .int .i64 y.g, .int .i64 y.i, .int .i64 y.t, .string y.a, .bool y.w], .bool true]
  | none => .tuple #[.agg #[.string ⟨#[]⟩, .int .i64 0, .int .i64 0, .int .i64 0, .string ⟨#[]⟩, .bool false], .bool false]
theorem load_i {w : World} {g : Nat} {v0 v1 v2 v3 v4 v5 : Value} (h : w.heap[g]? = some (.cells #[v0, v1, v2, v3, v4, v5] 26 (0, 0))) : (loadVar 26 ⟨g, 0, none⟩).run Tryz.prog w = .ok (.agg #[v0, v1, v2, v3, v4, v5]) w :=
  run_loadVar_row w g 26 26 _ (0, 0) _ h Tryz.underlying26 rfl (by kernel_rfl)
theorem box_new3 (w : World) (o1 o2 : Obj) (cs : Array Value) (t : TypeId) : (((w.alloc o1).alloc o2).alloc (.cells cs t)).heap[w.heap.size + 2]? = some (.cells cs t (0, 0)) := by
  have h := box_new ((w.alloc o1).alloc o2) cs t
  simpa using h
set_option maxRecDepth 100000 in
set_option maxHeartbeats 8000000 in
theorem called_any (l : List It) (a : Option Addr) (c : Nat) (t pk : Int) (ps : ByteArray) (w : World) (hL : ItS w a l) (hn : l.length ≤ 1000000) (hz : ∀ x ∈ l, x.n.size ≤ 1000000 ∧ x.a.size ≤ 1000000) : Calls Tryz.prog 34 #[.agg #[.slice a l.length c, .int .i64 t], .agg #[.int .i64 pk, .string ps]] w (Gives (caV (cal l (pk, ps))) w) := by
  have HL := Lib.hid fun W (hb : Below w.heap.size w W) => hL.below hb
  have HZ := Lib.hid hz
  have HA : Hid (∀ j (hj : j < l.length), ttl l[j] = (pk, ps) → (∀ i (hi : i < l.length), i < j → decide (ttl l[i] = (pk, ps)) = false) → cal l (pk, ps) = some l[j]) := fun j hj h hn => cal_hit hj h hn
  have HY : Hid ((∀ i (hi : i < l.length), decide (ttl l[i] = (pk, ps)) = false) → cal l (pk, ps) = none) := fun h => cal_miss h
  generalize cal l (pk, ps) = R at HA HY ⊢
  clear hL hz
  have HXL : Hid ((((w.alloc (.cells #[.slice a l.length c, .int .i64 t] 24)).alloc (.cells #[.int .i64 pk, .string ps] 70)).alloc (.cells #[.string ⟨#[]⟩, .int .i64 0, .int .i64 0, .int .i64 0, .string ⟨#[]⟩, .bool false] 26)).heap[w.heap.size]? = some (.cells #[.slice a l.length c, .int .i64 t] 24 (0, 0))) := (Below.heap_alloc ((w.alloc (.cells #[.slice a l.length c, .int .i64 t] 24)).alloc (.cells #[.int .i64 pk, .string ps] 70)) (.cells #[.string ⟨#[]⟩, .int .i64 0, .int .i64 0, .int .i64 0, .string ⟨#[]⟩, .bool false] 26) _ (by simp; omega)).trans ((Below.heap_alloc (w.alloc (.cells #[.slice a l.length c, .int .i64 t] 24)) (.cells #[.int .i64 pk, .string ps] 70) _ (by simp)).trans (box_new w _ _))
  have HXT : Hid ((((w.alloc (.cells #[.slice a l.length c, .int .i64 t] 24)).alloc (.cells #[.int .i64 pk, .string ps] 70)).alloc (.cells #[.string ⟨#[]⟩, .int .i64 0, .int .i64 0, .int .i64 0, .string ⟨#[]⟩, .bool false] 26)).heap[w.heap.size + 1]? = some (.cells #[.int .i64 pk, .string ps] 70 (0, 0))) := (Below.heap_alloc ((w.alloc (.cells #[.slice a l.length c, .int .i64 t] 24)).alloc (.cells #[.int .i64 pk, .string ps] 70)) (.cells #[.string ⟨#[]⟩, .int .i64 0, .int .i64 0, .int .i64 0, .string ⟨#[]⟩, .bool false] 26) _ (by simp)).trans (box_new2 w _ _ _)
  have HXR := Lib.hid (box_new3 w (.cells #[.slice a l.length c, .int .i64 t] 24) (.cells #[.int .i64 pk, .string ps] 70) #[.string ⟨#[]⟩, .int .i64 0, .int .i64 0, .int .i64 0, .string ⟨#[]⟩, .bool false] 26)
  have HB0 : Hid (Below w.heap.size w (((w.alloc (.cells #[.slice a l.length c, .int .i64 t] 24)).alloc (.cells #[.int .i64 pk, .string ps] 70)).alloc (.cells #[.string ⟨#[]⟩, .int .i64 0, .int .i64 0, .int .i64 0, .string ⟨#[]⟩, .bool false] 26))) := (((Below.refl _ w).alloc (Nat.le_refl _) _).alloc (by simp) _).alloc (by simp; omega) _
  obtain ⟨c0, c1⟩ := bx2 HXL.out
  go_enter Tryz.func34, Tryz.ntmps34
  go_wp2_with fail
  go_loopw [11] (fun i wr => ∃ j : Nat, i = .int .i64 j ∧ j ≤ l.length ∧ Hid (∀ i (hi : i < l.length), i < j → decide (ttl l[i] = (pk, ps)) = false) ∧ Hid (Below w.heap.size w wr) ∧ Hid (wr.heap[w.heap.size]? = some (.cells #[.slice a l.length c, .int .i64 t] 24 (0, 0))) ∧ Hid (wr.heap[w.heap.size + 1]? = some (.cells #[.int .i64 pk, .string ps] 70 (0, 0))) ∧ Hid (wr.heap[w.heap.size + 2]? = some (.cells #[.string ⟨#[]⟩, .int .i64 0, .int .i64 0, .int .i64 0, .string ⟨#[]⟩, .bool false] 26 (0, 0)))) (fun i _ => l.length - (RowKit.intOf i).toNat)
  case atStart => exact ⟨0, rfl, Nat.zero_le _, fun i _ h => absurd h (Nat.not_lt_zero _), HB0, HXL, HXT, HXR⟩
  case round =>
    clear HXL HXT HXR HB0 c0 c1
    obtain ⟨j, rfl, hj, HN, HB, HXL, HXT, HXR⟩ := hrel
    by_cases hlt : j < l.length
    · obtain ⟨b, o, rfl, e0, e1, e2, e3, e4, e5⟩ := HL.out _ HB.out j hlt
      have HAj := Lib.hid fun h => HA.out j hlt h HN.out
      have HNj : Hid (¬ ttl l[j] = (pk, ps) → ∀ i (hi : i < l.length), i < j + 1 → decide (ttl l[i] = (pk, ps)) = false) := fun e i h h2 => by
        by_cases h3 : i < j
        · exact HN.out i h h3
        · obtain rfl : i = j := by omega
          exact decide_eq_false e
      have hzz := HZ.out _ (List.getElem_mem hlt)
      have C : Hid (∀ W, Calls Tryz.prog 35 #[.agg #[.string l[j].n, .int .i64 l[j].g, .int .i64 l[j].i, .int .i64 l[j].t, .string l[j].a, .bool l[j].w]] W (Gives (tA (ttl l[j])) W)) := fun W => titleOf_any l[j] W (by omega)
      have CT := Lib.hid fun W => twin_any l[j] W hzz.1 hzz.2
      clear hzz
      generalize ttl l[j] = p at HAj HNj C
      generalize l[j] = y at e0 e1 e2 e3 e4 e5 HAj C CT
      obtain ⟨k, s⟩ := p
      unfold tA at C
      dsimp only at C HAj HNj
      have HXY := Lib.hid (box_new wr #[.string y.n, .int .i64 y.g, .int .i64 y.i, .int .i64 y.t, .string y.a, .bool y.w] 26)
      have hbw := (Below.refl _ wr).alloc (Nat.le_refl _) (.cells #[.string y.n, .int .i64 y.g, .int .i64 y.i, .int .i64 y.t, .string y.a, .bool y.w] 26)
      have HBW := Lib.hid (HB.out.trans (hbw.mono HB.out.size))
      replace HXL := kpB hbw HXL
      replace HXT := kpB hbw HXT
      replace HXR := kpB hbw HXR
      clear hbw
      by_cases h1 : k = pk
      · by_cases h2 : s = ps
        · have e9 := HAj.out (by rw [h1, h2])
          subst e9
          subst h1
          subst h2
          have q1 : ((k : Int) == k) = true := by simp
          have q2 : (s.toList == s.toList) = true := by simp
          clear HAj HNj HA HY HN
          go_upto_region 4 with fail
          generalize (wr.alloc (.cells #[.string y.n, .int .i64 y.g, .int .i64 y.i, .int .i64 y.t, .string y.a, .bool y.w] 26)) = V at HXY HBW HXL HXT HXR ⊢
          generalize wr.heap.size = K at HXY ⊢
          obtain ⟨d0, d1, d2, d3, d4, d5⟩ := bx6 HXY.out
          obtain ⟨t0, t1⟩ := bx2 HXT.out
          have x0 : ∀ z : Ext V, z.to.cell? ⟨K, 0, none⟩ = _ := fun z => ext_cell z d0
          have x1 : ∀ z : Ext V, z.to.cell? ⟨K, 1, none⟩ = _ := fun z => ext_cell z d1
          have x2 : ∀ z : Ext V, z.to.cell? ⟨K, 2, none⟩ = _ := fun z => ext_cell z d2
          have x3 : ∀ z : Ext V, z.to.cell? ⟨K, 3, none⟩ = _ := fun z => ext_cell z d3
          have x4 : ∀ z : Ext V, z.to.cell? ⟨K, 4, none⟩ = _ := fun z => ext_cell z d4
          have x5 : ∀ z : Ext V, z.to.cell? ⟨K, 5, none⟩ = _ := fun z => ext_cell z d5
          have y0 : ∀ z : Ext V, z.to.cell? ⟨w.heap.size + 1, 0, none⟩ = _ := fun z => ext_cell z t0
          have y1 : ∀ z : Ext V, z.to.cell? ⟨w.heap.size + 1, 1, none⟩ = _ := fun z => ext_cell z t1
          have X0 : Hid (Xc V 35 #[.agg #[.string y.n, .int .i64 y.g, .int .i64 y.i, .int .i64 y.t, .string y.a, .bool y.w]] (.agg #[.int .i64 k, .string s])) := fun z => C.out z.to
          have hsome := extSome V
          clear d0 d1 d2 d3 d4 d5 t0 t1
          refine ext_region (by kernel_rfl) (by kernel_rfl) ?_
          repeat (go_big_quiet_step ((first | (go_at_call 35; with_reducible exact ext_call _ (X0.out _)))))
          refine wpQuiet_nil ?_
          rintro _ ⟨z, hy⟩
          subst hy
          have HB1 := Lib.hid (HBW.out.trans (z.below.mono HBW.out.size))
          replace HXY := kpB z.below HXY
          replace HXL := kpB z.below HXL
          replace HXT := kpB z.below HXT
          replace HXR := kpB z.below HXR
          clear x0 x1 x2 x3 x4 x5 y0 y1 X0
          generalize z.to = W at HB1 HXY HXL HXT HXR ⊢
          clear z hsome
          obtain ⟨d0, d1, d2, d3, d4, d5⟩ := bx6 HXY.out
          go_wp2_with fail
          refine (CT.out _).mono ?_
          rintro e w1 ⟨rfl, hb⟩
          have HB2 := Lib.hid (HB1.out.trans (hb.mono HB1.out.size))
          have HXR2 := kpB hb HXR
          clear hb d0 d1 d2 d3 d4 d5
          obtain ⟨r0, r1, r2, r3, r4, r5⟩ := bx6 HXR2.out
          have z0 := bxf HXR2.out 0
          have z1 := bxf HXR2.out 1
          have z2 := bxf HXR2.out 2
          have z3 := bxf HXR2.out 3
          have z4 := bxf HXR2.out 4
          have z5 := bxf HXR2.out 5
          go_wp2_with fail
          exact bodyPost_ret (Q.results_load_tmp Tryz.results34 _ _ (w.heap.size + 2) _ rfl (load_i (st6 HXR2.out _ _ _ _ _ _))) rfl ⟨rfl, st6b HB2.out (by omega) _ _ _ _ _ _⟩
        · have HN2 := Lib.hid (HNj.out fun e => h2 (congrArg Prod.snd e))
          have q1 : ((k : Int) == pk) = true := by simpa using h1
          have q2 : (s.toList == ps.toList) = false := text_neb h2
          clear h1 h2 HAj HNj HA HY HN
          go_upto_region 4 with fail
          generalize (wr.alloc (.cells #[.string y.n, .int .i64 y.g, .int .i64 y.i, .int .i64 y.t, .string y.a, .bool y.w] 26)) = V at HXY HBW HXL HXT HXR ⊢
          generalize wr.heap.size = K at HXY ⊢
          obtain ⟨d0, d1, d2, d3, d4, d5⟩ := bx6 HXY.out
          obtain ⟨t0, t1⟩ := bx2 HXT.out
          have x0 : ∀ z : Ext V, z.to.cell? ⟨K, 0, none⟩ = _ := fun z => ext_cell z d0
          have x1 : ∀ z : Ext V, z.to.cell? ⟨K, 1, none⟩ = _ := fun z => ext_cell z d1
          have x2 : ∀ z : Ext V, z.to.cell? ⟨K, 2, none⟩ = _ := fun z => ext_cell z d2
          have x3 : ∀ z : Ext V, z.to.cell? ⟨K, 3, none⟩ = _ := fun z => ext_cell z d3
          have x4 : ∀ z : Ext V, z.to.cell? ⟨K, 4, none⟩ = _ := fun z => ext_cell z d4
          have x5 : ∀ z : Ext V, z.to.cell? ⟨K, 5, none⟩ = _ := fun z => ext_cell z d5
          have y0 : ∀ z : Ext V, z.to.cell? ⟨w.heap.size + 1, 0, none⟩ = _ := fun z => ext_cell z t0
          have y1 : ∀ z : Ext V, z.to.cell? ⟨w.heap.size + 1, 1, none⟩ = _ := fun z => ext_cell z t1
          have X0 : Hid (Xc V 35 #[.agg #[.string y.n, .int .i64 y.g, .int .i64 y.i, .int .i64 y.t, .string y.a, .bool y.w]] (.agg #[.int .i64 k, .string s])) := fun z => C.out z.to
          have hsome := extSome V
          clear d0 d1 d2 d3 d4 d5 t0 t1
          refine ext_region (by kernel_rfl) (by kernel_rfl) ?_
          repeat (go_big_quiet_step ((first | (go_at_call 35; with_reducible exact ext_call _ (X0.out _)))))
          refine wpQuiet_nil ?_
          rintro _ ⟨z, hy⟩
          subst hy
          have HB1 := Lib.hid (HBW.out.trans (z.below.mono HBW.out.size))
          replace HXY := kpB z.below HXY
          replace HXL := kpB z.below HXL
          replace HXT := kpB z.below HXT
          replace HXR := kpB z.below HXR
          clear x0 x1 x2 x3 x4 x5 y0 y1 X0
          generalize z.to = W at HB1 HXY HXL HXT HXR ⊢
          clear z hsome
          go_wp2_with fail
          exact ⟨⟨j + 1, by go_num, by omega, HN2.out, HB1, HXL, HXT, HXR⟩, by simp [RowKit.intOf]; omega⟩
      · have HN2 := Lib.hid (HNj.out fun e => h1 (congrArg Prod.fst e))
        have q1 : ((k : Int) == pk) = false := by simpa using h1
        clear h1 HAj HNj HA HY HN
        go_upto_region 4 with fail
        generalize (wr.alloc (.cells #[.string y.n, .int .i64 y.g, .int .i64 y.i, .int .i64 y.t, .string y.a, .bool y.w] 26)) = V at HXY HBW HXL HXT HXR ⊢
        generalize wr.heap.size = K at HXY ⊢
        obtain ⟨d0, d1, d2, d3, d4, d5⟩ := bx6 HXY.out
        obtain ⟨t0, t1⟩ := bx2 HXT.out
        have x0 : ∀ z : Ext V, z.to.cell? ⟨K, 0, none⟩ = _ := fun z => ext_cell z d0
        have x1 : ∀ z : Ext V, z.to.cell? ⟨K, 1, none⟩ = _ := fun z => ext_cell z d1
        have x2 : ∀ z : Ext V, z.to.cell? ⟨K, 2, none⟩ = _ := fun z => ext_cell z d2
        have x3 : ∀ z : Ext V, z.to.cell? ⟨K, 3, none⟩ = _ := fun z => ext_cell z d3
        have x4 : ∀ z : Ext V, z.to.cell? ⟨K, 4, none⟩ = _ := fun z => ext_cell z d4
        have x5 : ∀ z : Ext V, z.to.cell? ⟨K, 5, none⟩ = _ := fun z => ext_cell z d5
        have y0 : ∀ z : Ext V, z.to.cell? ⟨w.heap.size + 1, 0, none⟩ = _ := fun z => ext_cell z t0
        have y1 : ∀ z : Ext V, z.to.cell? ⟨w.heap.size + 1, 1, none⟩ = _ := fun z => ext_cell z t1
        have X0 : Hid (Xc V 35 #[.agg #[.string y.n, .int .i64 y.g, .int .i64 y.i, .int .i64 y.t, .string y.a, .bool y.w]] (.agg #[.int .i64 k, .string s])) := fun z => C.out z.to
        have hsome := extSome V
        clear d0 d1 d2 d3 d4 d5 t0 t1
        refine ext_region (by kernel_rfl) (by kernel_rfl) ?_
        repeat (go_big_quiet_step ((first | (go_at_call 35; with_reducible exact ext_call _ (X0.out _)))))
        refine wpQuiet_nil ?_
        rintro _ ⟨z, hy⟩
        subst hy
        have HB1 := Lib.hid (HBW.out.trans (z.below.mono HBW.out.size))
        replace HXY := kpB z.below HXY
        replace HXL := kpB z.below HXL
        replace HXT := kpB z.below HXT
        replace HXR := kpB z.below HXR
        clear x0 x1 x2 x3 x4 x5 y0 y1 X0
        generalize z.to = W at HB1 HXY HXL HXT HXR ⊢
        clear z hsome
        go_wp2_with fail
        exact ⟨⟨j + 1, by go_num, by omega, HN2.out, HB1, HXL, HXT, HXR⟩, by simp [RowKit.intOf]; omega⟩
    · obtain rfl : j = l.length := by omega
      have e9 := HY.out fun i h => HN.out i h h
      subst e9
      clear HA HY HN
      obtain ⟨r0, r1, r2, r3, r4, r5⟩ := bx6 HXR.out
      have z0 := bxf HXR.out 0
      have z1 := bxf HXR.out 1
      have z2 := bxf HXR.out 2
      have z3 := bxf HXR.out 3
      have z4 := bxf HXR.out 4
      have z5 := bxf HXR.out 5
      go_wp2_with fail
      exact bodyPost_ret (Q.results_load_tmp Tryz.results34 _ _ (w.heap.size + 2) _ rfl (load_i (st6 HXR.out _ _ _ _ _ _))) rfl ⟨rfl, st6b HB.out (by omega) _ _ _ _ _ _⟩
end Go.Proofs.YtdmbngkkbgmlfaaGreatDoor.T
