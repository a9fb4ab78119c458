/- The document's Same on equal elements. Conditions: those of each theorem's head. -/
import Derived.Test.YtlklmoohoobjjaaGreatDoorBa

namespace Go.Proofs.YtlklmoohoobjjaaGreatDoor
open Go.RowKit Go.Lib Go.Shelf Tg

/-- What Same is asked for of one element. -/
def sameY (e : El) : Prop := ∀ (B : Nat) (w : World) (v v' : Value), In B w e v → In B w e v' → B ≤ w.heap.size →
    Calls Tryz.prog 8 #[v, v'] w fun r w' => r = .returned (.bool true) ∧ Below w.heap.size w w'
theorem bel2 {w W : World} {A A' : Array Value} {t : TypeId} (h : w.heap[W.heap.size]? = some (.cells A t (0, 0)) ∧ w.heap[W.heap.size + 1]? = some (.cells A' t (0, 0))) {w' : World} (hb : Below w.heap.size w w') :
    w'.heap[W.heap.size]? = some (.cells A t (0, 0)) ∧ w'.heap[W.heap.size + 1]? = some (.cells A' t (0, 0)) :=
  ⟨(hb.block _ (heap_lt h.1)).trans h.1, (hb.block _ (heap_lt h.2)).trans h.2⟩
set_option maxRecDepth 100000 in
set_option maxHeartbeats 8000000 in
theorem same_yes (e : El) : sameY e := by
  refine El.ind (P := sameY) (fun sp nm atr tx ks ih => ?_) e
  intro B w v v' hin hin' hB
  generalize hE : El.mk sp nm atr tx ks = E at hin hin'
  obtain rfl : E.ks = ks := by rw [← hE]; rfl
  clear hE
  obtain ⟨aA, cA, aK, cK, rfl, ⟨hq1, hq2⟩, hkm, hat, hks⟩ := hin.out
  obtain ⟨aA', cA', aK', cK', rfl, _, _, hat', hks'⟩ := hin'.out
  have hal : E.atr.length ≤ 140737488351232 := hin.sized.1.2.2.2
  have HW0 : Hid (Below w.heap.size w ((w.alloc (.cells #[.string E.sp, .string E.nm, .slice aA E.atr.length cA, .string E.tx, .slice aK E.ks.length cK] 30)).alloc (.cells #[.string E.sp, .string E.nm, .slice aA' E.atr.length cA', .string E.tx, .slice aK' E.ks.length cK'] 30))) := ((Below.refl _ w).alloc (Nat.le_refl _) _).alloc (by simp) _
  have HX0 : Hid (((w.alloc (.cells #[.string E.sp, .string E.nm, .slice aA E.atr.length cA, .string E.tx, .slice aK E.ks.length cK] 30)).alloc (.cells #[.string E.sp, .string E.nm, .slice aA' E.atr.length cA', .string E.tx, .slice aK' E.ks.length cK'] 30)).heap[w.heap.size]? = some (.cells #[.string E.sp, .string E.nm, .slice aA E.atr.length cA, .string E.tx, .slice aK E.ks.length cK] 30 (0, 0)) ∧
      ((w.alloc (.cells #[.string E.sp, .string E.nm, .slice aA E.atr.length cA, .string E.tx, .slice aK E.ks.length cK] 30)).alloc (.cells #[.string E.sp, .string E.nm, .slice aA' E.atr.length cA', .string E.tx, .slice aK' E.ks.length cK'] 30)).heap[w.heap.size + 1]? = some (.cells #[.string E.sp, .string E.nm, .slice aA' E.atr.length cA', .string E.tx, .slice aK' E.ks.length cK'] 30 (0, 0))) := by
    refine ⟨(Below.heap_alloc _ _ _ (by simp)).trans (box_new w _ _), ?_⟩
    have := box_new (w.alloc (.cells #[.string E.sp, .string E.nm, .slice aA E.atr.length cA, .string E.tx, .slice aK E.ks.length cK] 30)) #[.string E.sp, .string E.nm, .slice aA' E.atr.length cA', .string E.tx, .slice aK' E.ks.length cK'] 30
    simpa using this
  have HA := Lib.hid (hat.up hB)
  have HA' := Lib.hid (hat'.up hB)
  have HK := Lib.hid hks
  have HK' := Lib.hid hks'
  have HBB := Lib.hid hB
  have IH := Lib.hid ih
  unfold maxLen at hkm
  clear hin hin' hat hat' hks hks' ih hq1 hq2 hB
  go_enter Tryz.func8, Tryz.ntmps8
  go_wp2_with fail
  go_loopw [5] (fun i wr => ∃ k : Nat, i = .int .i64 k ∧ k ≤ E.atr.length ∧ Hid (Below w.heap.size w wr) ∧ Hid (wr.heap[w.heap.size]? = some (.cells #[.string E.sp, .string E.nm, .slice aA E.atr.length cA, .string E.tx, .slice aK E.ks.length cK] 30 (0, 0)) ∧ wr.heap[w.heap.size + 1]? = some (.cells #[.string E.sp, .string E.nm, .slice aA' E.atr.length cA', .string E.tx, .slice aK' E.ks.length cK'] 30 (0, 0)))) (fun i _ => E.atr.length - (RowKit.intOf i).toNat)
  case atStart => exact ⟨0, rfl, Nat.zero_le _, HW0.out, HX0.out⟩
  case round =>
    obtain ⟨k, rfl, hk, HB, HX⟩ := hrel
    clear HW0 HX0
    obtain ⟨x0, x1, x2, x3, x4⟩ := bx5 HX.out.1
    obtain ⟨x0', x1', x2', x3', x4'⟩ := bx5 HX.out.2
    by_cases hlt : k < E.atr.length
    · obtain ⟨b, o, rfl, hb, y0, y1⟩ := (HA.out.below HB.out) k hlt
      obtain ⟨b', o', rfl, hb', y0', y1'⟩ := (HA'.out.below HB.out) k hlt
      have q2 : ∀ x : Ext wr, x.to.cell? ⟨w.heap.size, 2, none⟩ = _ := fun x => ext_cell x x2
      have q2' : ∀ x : Ext wr, x.to.cell? ⟨w.heap.size + 1, 2, none⟩ = _ := fun x => ext_cell x x2'
      have z0 : ∀ x : Ext wr, x.to.cell? ⟨b, o + k * 2, none⟩ = some (.string E.atr[k].1) := fun x => ext_cell x y0
      have z1 : ∀ x : Ext wr, x.to.cell? ⟨b, o + k * 2 + 1, none⟩ = some (.string E.atr[k].2) := fun x => ext_cell x y1
      have z0' : ∀ x : Ext wr, x.to.cell? ⟨b', o' + k * 2, none⟩ = some (.string E.atr[k].1) := fun x => ext_cell x y0'
      have z1' : ∀ x : Ext wr, x.to.cell? ⟨b', o' + k * 2 + 1, none⟩ = some (.string E.atr[k].2) := fun x => ext_cell x y1'
      have hs := extSome wr
      generalize E.atr[k] = p at z0 z1 z0' z1'
      obtain ⟨p1, p2⟩ := p
      clear y0 y1 y0' y1' hb hb'
      go_wp2_with fail
      refine ext_region (by kernel_rfl) (by kernel_rfl) ?_
      repeat (go_big_quiet_step (fail))
      refine wpQuiet_nil ?_
      rintro _ ⟨x, hx⟩
      subst hx
      have HBX := Lib.hid (HB.out.trans (x.below.mono HB.out.size))
      have HXX := Lib.hid (bel2 HX.out x.below)
      clear z0 z1 z0' z1' q2 q2' x0 x1 x2 x3 x4 x0' x1' x2' x3' x4'
      go_wp2_with fail
      go_roundw
      case rel => exact ⟨k + 1, by go_num, by omega, HBX.out, HXX.out⟩
      case measure => simp [RowKit.intOf]; omega
    · go_wp2_with fail
      clear x0 x1 x2 x3 x4 x0' x1' x2' x3' x4'
      go_loopw [6] (fun i wr => ∃ k : Nat, i = .int .i64 k ∧ k ≤ E.ks.length ∧ Hid (Below w.heap.size w wr) ∧ Hid (wr.heap[w.heap.size]? = some (.cells #[.string E.sp, .string E.nm, .slice aA E.atr.length cA, .string E.tx, .slice aK E.ks.length cK] 30 (0, 0)) ∧ wr.heap[w.heap.size + 1]? = some (.cells #[.string E.sp, .string E.nm, .slice aA' E.atr.length cA', .string E.tx, .slice aK' E.ks.length cK'] 30 (0, 0)))) (fun i _ => E.ks.length - (RowKit.intOf i).toNat)
      case atStart => exact ⟨0, rfl, Nat.zero_le _, HB.out, HX.out⟩
      case round =>
        clear HB HX hlt hk
        obtain ⟨k, rfl, hk, HB, HX⟩ := hrel
        obtain ⟨x0, x1, x2, x3, x4⟩ := bx5 HX.out.1
        obtain ⟨x0', x1', x2', x3', x4'⟩ := bx5 HX.out.2
        by_cases hlt : k < E.ks.length
        · obtain ⟨b, o, a1, c1, a2, c2, rfl, hb, hf5, hkin⟩ := (HK.out.below (HB.out.mono HBB.out)) k hlt
          obtain ⟨b', o', a1', c1', a2', c2', rfl, hb', hf5', hkin'⟩ := (HK'.out.below (HB.out.mono HBB.out)) k hlt
          obtain ⟨y0, y1, y2, y3, y4⟩ := hf5
          obtain ⟨y0', y1', y2', y3', y4'⟩ := hf5'
          have q2 : ∀ x : Ext wr, x.to.cell? ⟨w.heap.size, 4, none⟩ = _ := fun x => ext_cell x x4
          have q2' : ∀ x : Ext wr, x.to.cell? ⟨w.heap.size + 1, 4, none⟩ = _ := fun x => ext_cell x x4'
          have z0 : ∀ x : Ext wr, x.to.cell? ⟨b, o + k * 5, none⟩ = _ := fun x => ext_cell x y0
          have z1 : ∀ x : Ext wr, x.to.cell? ⟨b, o + k * 5 + 1, none⟩ = _ := fun x => ext_cell x y1
          have z2 : ∀ x : Ext wr, x.to.cell? ⟨b, o + k * 5 + 2, none⟩ = _ := fun x => ext_cell x y2
          have z3 : ∀ x : Ext wr, x.to.cell? ⟨b, o + k * 5 + 3, none⟩ = _ := fun x => ext_cell x y3
          have z4 : ∀ x : Ext wr, x.to.cell? ⟨b, o + k * 5 + 4, none⟩ = _ := fun x => ext_cell x y4
          have z0' : ∀ x : Ext wr, x.to.cell? ⟨b', o' + k * 5, none⟩ = _ := fun x => ext_cell x y0'
          have z1' : ∀ x : Ext wr, x.to.cell? ⟨b', o' + k * 5 + 1, none⟩ = _ := fun x => ext_cell x y1'
          have z2' : ∀ x : Ext wr, x.to.cell? ⟨b', o' + k * 5 + 2, none⟩ = _ := fun x => ext_cell x y2'
          have z3' : ∀ x : Ext wr, x.to.cell? ⟨b', o' + k * 5 + 3, none⟩ = _ := fun x => ext_cell x y3'
          have z4' : ∀ x : Ext wr, x.to.cell? ⟨b', o' + k * 5 + 4, none⟩ = _ := fun x => ext_cell x y4'
          have hBw : Below B w wr := HB.out.mono HBB.out
          have hBs := Nat.le_trans HBB.out HB.out.size
          have HC : Hid (∀ x : Ext wr, Calls Tryz.prog 8 #[.agg #[.string E.ks[k].sp, .string E.ks[k].nm, .slice a1 E.ks[k].atr.length c1, .string E.ks[k].tx, .slice a2 E.ks[k].ks.length c2], .agg #[.string E.ks[k].sp, .string E.ks[k].nm, .slice a1' E.ks[k].atr.length c1', .string E.ks[k].tx, .slice a2' E.ks[k].ks.length c2']] x.to fun r w' => r = .returned (.bool true) ∧ Below x.to.heap.size x.to w') := fun x =>
            IH.out _ (List.getElem_mem hlt) B x.to _ _ (hkin.stay (x.below.mono hBs)) (hkin'.stay (x.below.mono hBs)) (Nat.le_trans hBs x.below.size)
          have hs := extSome wr
          clear y0 y1 y2 y3 y4 y0' y1' y2' y3' y4' hb hb' hkin hkin' hBw hBs
          generalize E.ks[k] = K at *
          go_wp2_with fail
          refine ext_region (by kernel_rfl) (by kernel_rfl) ?_
          repeat (go_big_quiet_step ((go_at_call 8; with_reducible exact ext_call _ (HC.out _))))
          refine wpQuiet_nil ?_
          rintro _ ⟨x, hx⟩
          subst hx
          have HBX := Lib.hid (HB.out.trans (x.below.mono HB.out.size))
          have HXX := Lib.hid (bel2 HX.out x.below)
          clear z0 z1 z2 z3 z4 z0' z1' z2' z3' z4' q2 q2' x0 x1 x2 x3 x4 x0' x1' x2' x3' x4' HC
          go_wp2_with fail
          go_roundw
          case rel => exact ⟨k + 1, by go_num, by omega, HBX.out, HXX.out⟩
          case measure => simp [RowKit.intOf]; omega
        · go_wp2_with fail
          go_ret
          exact ⟨rfl, HB.out⟩

end Go.Proofs.YtlklmoohoobjjaaGreatDoor
