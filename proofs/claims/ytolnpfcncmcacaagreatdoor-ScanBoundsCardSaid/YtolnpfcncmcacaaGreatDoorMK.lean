/- Layer 6 in one text: the document's Same and Events; the laws' first line; which events come. Conditions: those of each theorem's head. -/
import Derived.Test.YtolnpfcncmcacaaGreatDoorMJ

/- The contract of the document's own Same, for two values that read as one element. No condition. -/
namespace Go.Proofs.YtolnpfcncmcacaaGreatDoor
open Go.RowKit Go.Lib Go.Shelf Tg Sn

/-- What Same is asked for of one element. -/
def sameY (e : El) : Prop := ∀ (B : Nat) (w : World) (v v' : Value), In B w e v → In B w e v' → B ≤ w.heap.size →
    Calls Tryz.prog 24 #[v, v'] w fun r w' => r = .returned (.bool true) ∧ Below w.heap.size w w'
theorem bel2 {w W : World} {A A' : Array Value} {t : TypeId} (h : w.heap[W.heap.size]? = some (.cells A t (0, 0)) ∧ w.heap[W.heap.size + 1]? = some (.cells A' t (0, 0))) {w' : World} (hb : Below w.heap.size w w') :
    w'.heap[W.heap.size]? = some (.cells A t (0, 0)) ∧ w'.heap[W.heap.size + 1]? = some (.cells A' t (0, 0)) :=
  ⟨(hb.block _ (heap_lt h.1)).trans h.1, (hb.block _ (heap_lt h.2)).trans h.2⟩
set_option maxRecDepth 100000 in
set_option maxHeartbeats 8000000 in
theorem same_yes (e : El) : sameY e := by
  refine El.ind (P := sameY) (fun sp nm atr tx ks ih => ?_) e
  intro B w v v' hin hin' hB
  generalize hE : El.mk sp nm atr tx ks = E at hin hin'
  obtain rfl : E.ks = ks := by rw [← hE]; rfl
  clear hE
  obtain ⟨aA, cA, aK, cK, rfl, ⟨hq1, hq2⟩, hkm, hat, hks⟩ := hin.out
  obtain ⟨aA', cA', aK', cK', rfl, _, _, hat', hks'⟩ := hin'.out
  have hal : E.atr.length ≤ 140737488351232 := hin.sized.1.2.2.2
  have HW0 : Hid (Below w.heap.size w ((w.alloc (.cells #[.string E.sp, .string E.nm, .slice aA E.atr.length cA, .string E.tx, .slice aK E.ks.length cK] 48)).alloc (.cells #[.string E.sp, .string E.nm, .slice aA' E.atr.length cA', .string E.tx, .slice aK' E.ks.length cK'] 48))) := ((Below.refl _ w).alloc (Nat.le_refl _) _).alloc (by simp) _
  have HX0 : Hid (((w.alloc (.cells #[.string E.sp, .string E.nm, .slice aA E.atr.length cA, .string E.tx, .slice aK E.ks.length cK] 48)).alloc (.cells #[.string E.sp, .string E.nm, .slice aA' E.atr.length cA', .string E.tx, .slice aK' E.ks.length cK'] 48)).heap[w.heap.size]? = some (.cells #[.string E.sp, .string E.nm, .slice aA E.atr.length cA, .string E.tx, .slice aK E.ks.length cK] 48 (0, 0)) ∧
      ((w.alloc (.cells #[.string E.sp, .string E.nm, .slice aA E.atr.length cA, .string E.tx, .slice aK E.ks.length cK] 48)).alloc (.cells #[.string E.sp, .string E.nm, .slice aA' E.atr.length cA', .string E.tx, .slice aK' E.ks.length cK'] 48)).heap[w.heap.size + 1]? = some (.cells #[.string E.sp, .string E.nm, .slice aA' E.atr.length cA', .string E.tx, .slice aK' E.ks.length cK'] 48 (0, 0))) := by
    refine ⟨(Below.heap_alloc _ _ _ (by simp)).trans (box_new w _ _), ?_⟩
    have := box_new (w.alloc (.cells #[.string E.sp, .string E.nm, .slice aA E.atr.length cA, .string E.tx, .slice aK E.ks.length cK] 48)) #[.string E.sp, .string E.nm, .slice aA' E.atr.length cA', .string E.tx, .slice aK' E.ks.length cK'] 48
    simpa using this
  have HA := Lib.hid (hat.up hB)
  have HA' := Lib.hid (hat'.up hB)
  have HK := Lib.hid hks
  have HK' := Lib.hid hks'
  have HBB := Lib.hid hB
  have IH := Lib.hid ih
  unfold maxLen at hkm
  clear hin hin' hat hat' hks hks' ih hq1 hq2 hB
  go_enter Tryz.func24, Tryz.ntmps24
  go_wp2_with fail
  go_loopw [5] (fun i wr => ∃ k : Nat, i = .int .i64 k ∧ k ≤ E.atr.length ∧ Hid (Below w.heap.size w wr) ∧ Hid (wr.heap[w.heap.size]? = some (.cells #[.string E.sp, .string E.nm, .slice aA E.atr.length cA, .string E.tx, .slice aK E.ks.length cK] 48 (0, 0)) ∧ wr.heap[w.heap.size + 1]? = some (.cells #[.string E.sp, .string E.nm, .slice aA' E.atr.length cA', .string E.tx, .slice aK' E.ks.length cK'] 48 (0, 0)))) (fun i _ => E.atr.length - (RowKit.intOf i).toNat)
  case atStart => exact ⟨0, rfl, Nat.zero_le _, HW0.out, HX0.out⟩
  case round =>
    obtain ⟨k, rfl, hk, HB, HX⟩ := hrel
    clear HW0 HX0
    obtain ⟨x0, x1, x2, x3, x4⟩ := bx5 HX.out.1
    obtain ⟨x0', x1', x2', x3', x4'⟩ := bx5 HX.out.2
    by_cases hlt : k < E.atr.length
    · obtain ⟨b, o, rfl, hb, y0, y1⟩ := (HA.out.below HB.out) k hlt
      obtain ⟨b', o', rfl, hb', y0', y1'⟩ := (HA'.out.below HB.out) k hlt
      have q2 : ∀ x : Ext wr, x.to.cell? ⟨w.heap.size, 2, none⟩ = _ := fun x => ext_cell x x2
      have q2' : ∀ x : Ext wr, x.to.cell? ⟨w.heap.size + 1, 2, none⟩ = _ := fun x => ext_cell x x2'
      have z0 : ∀ x : Ext wr, x.to.cell? ⟨b, o + k * 2, none⟩ = some (.string E.atr[k].1) := fun x => ext_cell x y0
      have z1 : ∀ x : Ext wr, x.to.cell? ⟨b, o + k * 2 + 1, none⟩ = some (.string E.atr[k].2) := fun x => ext_cell x y1
      have z0' : ∀ x : Ext wr, x.to.cell? ⟨b', o' + k * 2, none⟩ = some (.string E.atr[k].1) := fun x => ext_cell x y0'
      have z1' : ∀ x : Ext wr, x.to.cell? ⟨b', o' + k * 2 + 1, none⟩ = some (.string E.atr[k].2) := fun x => ext_cell x y1'
      have hs := extSome wr
      generalize E.atr[k] = p at z0 z1 z0' z1'
      obtain ⟨p1, p2⟩ := p
      clear y0 y1 y0' y1' hb hb'
      go_wp2_with fail
      refine ext_region (by kernel_rfl) (by kernel_rfl) ?_
      repeat (go_big_quiet_step (fail))
      refine wpQuiet_nil ?_
      rintro _ ⟨x, hx⟩
      subst hx
      have HBX := Lib.hid (HB.out.trans (x.below.mono HB.out.size))
      have HXX := Lib.hid (bel2 HX.out x.below)
      clear z0 z1 z0' z1' q2 q2' x0 x1 x2 x3 x4 x0' x1' x2' x3' x4'
      go_wp2_with fail
      go_roundw
      case rel => exact ⟨k + 1, by go_num, by omega, HBX.out, HXX.out⟩
      case measure => simp [RowKit.intOf]; omega
    · go_wp2_with fail
      clear x0 x1 x2 x3 x4 x0' x1' x2' x3' x4'
      go_loopw [6] (fun i wr => ∃ k : Nat, i = .int .i64 k ∧ k ≤ E.ks.length ∧ Hid (Below w.heap.size w wr) ∧ Hid (wr.heap[w.heap.size]? = some (.cells #[.string E.sp, .string E.nm, .slice aA E.atr.length cA, .string E.tx, .slice aK E.ks.length cK] 48 (0, 0)) ∧ wr.heap[w.heap.size + 1]? = some (.cells #[.string E.sp, .string E.nm, .slice aA' E.atr.length cA', .string E.tx, .slice aK' E.ks.length cK'] 48 (0, 0)))) (fun i _ => E.ks.length - (RowKit.intOf i).toNat)
      case atStart => exact ⟨0, rfl, Nat.zero_le _, HB.out, HX.out⟩
      case round =>
        clear HB HX hlt hk
        obtain ⟨k, rfl, hk, HB, HX⟩ := hrel
        obtain ⟨x0, x1, x2, x3, x4⟩ := bx5 HX.out.1
        obtain ⟨x0', x1', x2', x3', x4'⟩ := bx5 HX.out.2
        by_cases hlt : k < E.ks.length
        · obtain ⟨b, o, a1, c1, a2, c2, rfl, hb, hf5, hkin⟩ := (HK.out.below (HB.out.mono HBB.out)) k hlt
          obtain ⟨b', o', a1', c1', a2', c2', rfl, hb', hf5', hkin'⟩ := (HK'.out.below (HB.out.mono HBB.out)) k hlt
          obtain ⟨y0, y1, y2, y3, y4⟩ := hf5
          obtain ⟨y0', y1', y2', y3', y4'⟩ := hf5'
          have q2 : ∀ x : Ext wr, x.to.cell? ⟨w.heap.size, 4, none⟩ = _ := fun x => ext_cell x x4
          have q2' : ∀ x : Ext wr, x.to.cell? ⟨w.heap.size + 1, 4, none⟩ = _ := fun x => ext_cell x x4'
          have z0 : ∀ x : Ext wr, x.to.cell? ⟨b, o + k * 5, none⟩ = _ := fun x => ext_cell x y0
          have z1 : ∀ x : Ext wr, x.to.cell? ⟨b, o + k * 5 + 1, none⟩ = _ := fun x => ext_cell x y1
          have z2 : ∀ x : Ext wr, x.to.cell? ⟨b, o + k * 5 + 2, none⟩ = _ := fun x => ext_cell x y2
          have z3 : ∀ x : Ext wr, x.to.cell? ⟨b, o + k * 5 + 3, none⟩ = _ := fun x => ext_cell x y3
          have z4 : ∀ x : Ext wr, x.to.cell? ⟨b, o + k * 5 + 4, none⟩ = _ := fun x => ext_cell x y4
          have z0' : ∀ x : Ext wr, x.to.cell? ⟨b', o' + k * 5, none⟩ = _ := fun x => ext_cell x y0'
          have z1' : ∀ x : Ext wr, x.to.cell? ⟨b', o' + k * 5 + 1, none⟩ = _ := fun x => ext_cell x y1'
          have z2' : ∀ x : Ext wr, x.to.cell? ⟨b', o' + k * 5 + 2, none⟩ = _ := fun x => ext_cell x y2'
          have z3' : ∀ x : Ext wr, x.to.cell? ⟨b', o' + k * 5 + 3, none⟩ = _ := fun x => ext_cell x y3'
          have z4' : ∀ x : Ext wr, x.to.cell? ⟨b', o' + k * 5 + 4, none⟩ = _ := fun x => ext_cell x y4'
          have hBw : Below B w wr := HB.out.mono HBB.out
          have hBs := Nat.le_trans HBB.out HB.out.size
          have HC : Hid (∀ x : Ext wr, Calls Tryz.prog 24 #[.agg #[.string E.ks[k].sp, .string E.ks[k].nm, .slice a1 E.ks[k].atr.length c1, .string E.ks[k].tx, .slice a2 E.ks[k].ks.length c2], .agg #[.string E.ks[k].sp, .string E.ks[k].nm, .slice a1' E.ks[k].atr.length c1', .string E.ks[k].tx, .slice a2' E.ks[k].ks.length c2']] x.to fun r w' => r = .returned (.bool true) ∧ Below x.to.heap.size x.to w') := fun x =>
            IH.out _ (List.getElem_mem hlt) B x.to _ _ (hkin.stay (x.below.mono hBs)) (hkin'.stay (x.below.mono hBs)) (Nat.le_trans hBs x.below.size)
          have hs := extSome wr
          clear y0 y1 y2 y3 y4 y0' y1' y2' y3' y4' hb hb' hkin hkin' hBw hBs
          generalize E.ks[k] = K at *
          go_wp2_with fail
          refine ext_region (by kernel_rfl) (by kernel_rfl) ?_
          repeat (go_big_quiet_step ((go_at_call 24; with_reducible exact ext_call _ (HC.out _))))
          refine wpQuiet_nil ?_
          rintro _ ⟨x, hx⟩
          subst hx
          have HBX := Lib.hid (HB.out.trans (x.below.mono HB.out.size))
          have HXX := Lib.hid (bel2 HX.out x.below)
          clear z0 z1 z2 z3 z4 z0' z1' z2' z3' z4' q2 q2' x0 x1 x2 x3 x4 x0' x1' x2' x3' x4' HC
          go_wp2_with fail
          go_roundw
          case rel => exact ⟨k + 1, by go_num, by omega, HBX.out, HXX.out⟩
          case measure => simp [RowKit.intOf]; omega
        · go_wp2_with fail
          go_ret
          exact ⟨rfl, HB.out⟩
end Go.Proofs.YtolnpfcncmcacaaGreatDoor

/- The contract of the document's own Events, for two rows that read as the same events. Condition: at most 1048576 events. -/
namespace Go.Proofs.YtolnpfcncmcacaaGreatDoor
open Go.RowKit Go.Lib Go.Shelf Tg Sn

theorem EvRow.below {B : Nat} {S : Nat → Prop} {w w' : World} {x : Value} {evs : List Ev} (h : EvRow B S w x evs) (hb : Below w.heap.size w w') : EvRow B S w' x evs :=
  h.put (fun b _ hlt _ => hb.block b hlt) fun _ _ hi => hi.keep fun b _ hlt => hb.block b hlt
/-- The cells of one event of a row. -/
theorem EvRow.cells {B : Nat} {S : Nat → Prop} {w : World} {x : Value} {evs : List Ev} (h : EvRow B S w x evs) {k : Nat} (hk : k < evs.length) :
    ∃ g c v0 v1 v2 v3 v4, x = .slice (some ⟨g, 0, none⟩) evs.length c ∧ w.cell? ⟨g, k * 7, none⟩ = some (.int .i64 (evs[k].kind : Int)) ∧ w.cell? ⟨g, k * 7 + 1, none⟩ = some v0 ∧ w.cell? ⟨g, k * 7 + 2, none⟩ = some v1 ∧ w.cell? ⟨g, k * 7 + 3, none⟩ = some v2 ∧ w.cell? ⟨g, k * 7 + 4, none⟩ = some v3 ∧ w.cell? ⟨g, k * 7 + 5, none⟩ = some v4 ∧ w.cell? ⟨g, k * 7 + 6, none⟩ = some (.int .i64 (evs[k].err : Int)) ∧ InS S w evs[k].elem (.agg #[v0, v1, v2, v3, v4]) := by
  obtain ⟨xs, h1, h2⟩ := h
  obtain ⟨g, c, rfl, _, _⟩ := h1.form (by omega)
  obtain ⟨v0, v1, v2, v3, v4, a0, a1, a2, a3, a4, a5, a6, hi⟩ := h2.2 k hk
  have e : ∀ j, j < 7 → w.cell? ⟨g, k * 7 + j, none⟩ = xs[k * 7 + j]? := fun j hj => h1.cellAt _ (by omega)
  exact ⟨g, c, v0, v1, v2, v3, v4, rfl, (e 0 (by decide)).trans a0, (e 1 (by decide)).trans a1, (e 2 (by decide)).trans a2, (e 3 (by decide)).trans a3, (e 4 (by decide)).trans a4, (e 5 (by decide)).trans a5, (e 6 (by decide)).trans a6, hi⟩
theorem EvRow.shape {B : Nat} {S : Nat → Prop} {w : World} {x : Value} {evs : List Ev} (h : EvRow B S w x evs) : ∃ a c, x = .slice a evs.length c := by
  obtain ⟨xs, h1, _⟩ := h
  exact own_form h1
set_option maxRecDepth 100000 in
set_option maxHeartbeats 8000000 in
theorem events_yes (evs : List Ev) (B1 B2 : Nat) (S1 S2 : Nat → Prop) (x1 x2 : Value) (w : World) (h1 : EvRow B1 S1 w x1 evs) (h2 : EvRow B2 S2 w x2 evs) (hl : evs.length ≤ 1048576) :
    Calls Tryz.prog 8 #[x1, x2] w fun r w' => r = .returned (.bool true) ∧ Below w.heap.size w w' := by
  have H1 := Lib.hid h1
  have H2 := Lib.hid h2
  obtain ⟨a1, c1, rfl⟩ := h1.shape
  obtain ⟨a2, c2, rfl⟩ := h2.shape
  have HW : Hid (Below w.heap.size w w) := Below.refl _ _
  clear h1 h2
  go_enter Tryz.func8, Tryz.ntmps8
  go_wp2_with fail
  go_loopw [5] (fun i wr => ∃ k : Nat, i = .int .i64 k ∧ k ≤ evs.length ∧ Hid (Below w.heap.size w wr)) (fun i _ => evs.length - (RowKit.intOf i).toNat)
  case atStart => exact ⟨0, rfl, Nat.zero_le _, HW.out⟩
  case round =>
    obtain ⟨k, rfl, hk, HB⟩ := hrel
    by_cases hlt : k < evs.length
    · obtain ⟨g, d, v0, v1, v2, v3, v4, hx, y0, y1, y2, y3, y4, y5, y6, hi⟩ := (H1.out.below HB.out).cells hlt
      obtain ⟨g', d', v0', v1', v2', v3', v4', hx', y0', y1', y2', y3', y4', y5', y6', hi'⟩ := (H2.out.below HB.out).cells hlt
      simp only [Value.slice.injEq] at hx hx'
      obtain ⟨rfl, _, _⟩ := hx
      obtain ⟨rfl, _, _⟩ := hx'
      have z0 : ∀ x : Ext wr, x.to.cell? ⟨g, k * 7, none⟩ = _ := fun x => ext_cell x y0
      have z1 : ∀ x : Ext wr, x.to.cell? ⟨g, k * 7 + 1, none⟩ = _ := fun x => ext_cell x y1
      have z2 : ∀ x : Ext wr, x.to.cell? ⟨g, k * 7 + 2, none⟩ = _ := fun x => ext_cell x y2
      have z3 : ∀ x : Ext wr, x.to.cell? ⟨g, k * 7 + 3, none⟩ = _ := fun x => ext_cell x y3
      have z4 : ∀ x : Ext wr, x.to.cell? ⟨g, k * 7 + 4, none⟩ = _ := fun x => ext_cell x y4
      have z5 : ∀ x : Ext wr, x.to.cell? ⟨g, k * 7 + 5, none⟩ = _ := fun x => ext_cell x y5
      have z6 : ∀ x : Ext wr, x.to.cell? ⟨g, k * 7 + 6, none⟩ = _ := fun x => ext_cell x y6
      have z0' : ∀ x : Ext wr, x.to.cell? ⟨g', k * 7, none⟩ = _ := fun x => ext_cell x y0'
      have z1' : ∀ x : Ext wr, x.to.cell? ⟨g', k * 7 + 1, none⟩ = _ := fun x => ext_cell x y1'
      have z2' : ∀ x : Ext wr, x.to.cell? ⟨g', k * 7 + 2, none⟩ = _ := fun x => ext_cell x y2'
      have z3' : ∀ x : Ext wr, x.to.cell? ⟨g', k * 7 + 3, none⟩ = _ := fun x => ext_cell x y3'
      have z4' : ∀ x : Ext wr, x.to.cell? ⟨g', k * 7 + 4, none⟩ = _ := fun x => ext_cell x y4'
      have z5' : ∀ x : Ext wr, x.to.cell? ⟨g', k * 7 + 5, none⟩ = _ := fun x => ext_cell x y5'
      have z6' : ∀ x : Ext wr, x.to.cell? ⟨g', k * 7 + 6, none⟩ = _ := fun x => ext_cell x y6'
      have HC : Hid (∀ x : Ext wr, Calls Tryz.prog 24 #[.agg #[v0, v1, v2, v3, v4], .agg #[v0', v1', v2', v3', v4']] x.to fun r w' => r = .returned (.bool true) ∧ Below x.to.heap.size x.to w') := fun x =>
        same_yes _ wr.heap.size x.to _ _ (hi.toIn.stay x.below) (hi'.toIn.stay x.below) x.below.size
      have hs := extSome wr
      obtain ⟨sp, nm, aa, an, ac, tx, ka, kn, kc, rfl, rfl, rfl, rfl, rfl⟩ := hi.shape
      obtain ⟨sp', nm', aa', an', ac', tx', ka', kn', kc', rfl, rfl, rfl, rfl, rfl⟩ := hi'.shape
      clear y0 y1 y2 y3 y4 y5 y6 y0' y1' y2' y3' y4' y5' y6' hi hi'
      generalize evs[k].kind = kd at z0 z0'
      generalize evs[k].err = er at z6 z6'
      go_wp2_with fail
      refine ext_region (by kernel_rfl) (by kernel_rfl) ?_
      repeat (go_big_quiet_step ((go_at_call 24; with_reducible exact ext_call _ (HC.out _))))
      refine wpQuiet_nil ?_
      rintro _ ⟨x, hx⟩
      subst hx
      have HBX := Lib.hid (HB.out.trans (x.below.mono HB.out.size))
      clear z0 z1 z2 z3 z4 z5 z6 z0' z1' z2' z3' z4' z5' z6' HC
      go_wp2_with fail
      go_roundw
      case rel => exact ⟨k + 1, by go_num, by omega, HBX.out⟩
      case measure => simp [RowKit.intOf]; omega
    · go_wp2_with fail
      go_ret
      exact ⟨rfl, HB.out⟩
end Go.Proofs.YtolnpfcncmcacaaGreatDoor

/- What a caller makes of Feed's answers: a row that all of them are appended to; a stream's events reckoned where all its tokens are plain letters. No condition beyond what each theorem's head says. -/
namespace Go.Proofs.YtolnpfcncmcacaaGreatDoor
open Go.RowKit Go.Lib Go.Shelf Tg Sn

theorem Md.farP {N P : Nat} {v0 v : Vw} {w0 w : World} {st : St} {evs : List Ev} {x : Value} (h : Md N P v0 w0 st evs x v w) {b : Nat} (e : x.ownBlock = some b) : ¬ Mut P v b := by
  intro hm
  cases ho : st.over with
  | false => exact ((h.sc.1 ho).off b (h.own b e)).2 hm
  | true =>
    obtain ⟨xs, h1, _⟩ := h.row
    have := (h.sc.2 ho).2 b hm
    have := (own_heap h1 e).1
    have := h.low.2
    omega
theorem Md.turn2 {N P : Nat} {v0 v v' : Vw} {w0 w w' : World} {st st' : St} {evs : List Ev} {x : Value} (h : Md N P v0 w0 st evs x v w) (hs : Scn N P v' w' st') (hf : Fr P v w w' v') : Md N P v0 w0 st' evs x v' w' :=
  ⟨hs, h.fr.trans hf, h.row.put (fun b _ hlt e => hf.block b hlt (h.farP e)) (fun _ _ hi => hi.fr hf), fun b e => hf.farLo b (h.own b e), h.low⟩
theorem EvsAt.oneCell {S : Nat → Prop} {w : World} {xs : List Value} {evs : List Ev} (h : EvsAt S w xs evs) : ∀ u ∈ xs, u.oneCell' = true := by
  intro u hu
  obtain ⟨j, hj, rfl⟩ := List.getElem_of_mem hu
  have hlen := h.1
  have hi : j / 7 < evs.length := by omega
  obtain ⟨v0, v1, v2, v3, v4, a0, a1, a2, a3, a4, a5, a6, hin⟩ := h.2 _ hi
  obtain ⟨sp, nm, aa, an, ac, tx, ka, kn, kc, rfl, rfl, rfl, rfl, rfl⟩ := hin.shape
  have hj2 : xs[j]? = some xs[j] := List.getElem?_eq_getElem hj
  have hr : j % 7 = 0 ∨ j % 7 = 1 ∨ j % 7 = 2 ∨ j % 7 = 3 ∨ j % 7 = 4 ∨ j % 7 = 5 ∨ j % 7 = 6 := by omega
  have key : ∀ y, xs[j]? = some y → xs[j] = y := fun y hy => by rw [hj2] at hy; exact Option.some.inj hy
  rcases hr with hr | hr | hr | hr | hr | hr | hr
  · rw [show j / 7 * 7 = j by omega] at a0; rw [key _ a0]; rfl
  · rw [show j / 7 * 7 + 1 = j by omega] at a1; rw [key _ a1]; rfl
  · rw [show j / 7 * 7 + 2 = j by omega] at a2; rw [key _ a2]; rfl
  · rw [show j / 7 * 7 + 3 = j by omega] at a3; rw [key _ a3]; rfl
  · rw [show j / 7 * 7 + 4 = j by omega] at a4; rw [key _ a4]; rfl
  · rw [show j / 7 * 7 + 5 = j by omega] at a5; rw [key _ a5]; rfl
  · rw [show j / 7 * 7 + 6 = j by omega] at a6; rw [key _ a6]; rfl
/-- An append of nothing. -/
theorem run_append_zero {w : World} {a b : Option Addr} {n cap c : Nat} {i0 : TypeInfo} (hi0 : Tryz.prog.info? 50 = some i0) (hn : n ≤ cap) :
    ∀ ty, (Builtin.append_ #[27, 27] ty #[.slice b n cap, .slice a 0 c]).run Tryz.prog w = .ok (.slice b n cap) w := by
  intro ty
  cases b <;> cases a <;> simp [Builtin.append_, run_underlying Tryz.underlying27, sizeOf, typeInfo, hi0, Builtin.lenOf, Builtin.firstCells, loadCells, loadCellsFrom, storeCells, hn]
/-- The answer of Feed is appended to the caller's row. -/
theorem Md.fed {N P : Nat} {v0 v : Vw} {w0 w w' : World} {st : St} {evs : List Ev} {x : Value} {l : B8} {e : Ending} (h : Md N P v0 w0 st evs x v w) (hF : FdP N P v st l w e w') (hl : evs.length + (Sn.feed st l).2.length ≤ 1048576) :
    ∃ y x' v' w9, e = .returned y ∧ (∀ ty, (Builtin.append_ #[27, 27] ty #[x, y]).run Tryz.prog w' = .ok x' w9) ∧ Md N P v0 w0 (Sn.feed st l).1 (evs ++ (Sn.feed st l).2) x' v' w9 := by
  obtain ⟨i0, hi0, hz0, hz1, hz2⟩ := info_parts infoEv
  obtain ⟨v', y, he, ⟨ys, hy, hB⟩, hs, hf, _, _⟩ := hF
  have h1 := h.turn2 hs hf
  obtain ⟨xs, hx, hA⟩ := h1.row
  have hbs : w0.heap.size ≤ w'.heap.size := h1.fr.size
  rcases Nat.eq_zero_or_pos (Sn.feed st l).2.length with h0 | h0
  · obtain ⟨a, c, rfl⟩ := own_form hy
    rw [h0] at he
    have hnil : (Sn.feed st l).2 = [] := List.length_eq_zero_iff.1 h0
    obtain ⟨b, n, cap, rfl, hn⟩ : ∃ b n cap, x = .slice b n cap ∧ n ≤ cap := by
      rcases hx.2 with ⟨rfl, _⟩ | ⟨g, cap, cur, rfl, _, _, q3, _⟩
      · exact ⟨none, 0, 0, rfl, Nat.le_refl _⟩
      · exact ⟨_, _, _, rfl, q3⟩
    refine ⟨_, .slice b n cap, v', w', he, run_append_zero hi0 hn, ?_⟩
    rw [hnil, List.append_nil]
    exact h1
  · obtain ⟨g', c', rfl, _, _⟩ := hy.form h0
    have hbig : evs.length + (Sn.feed st l).2.length ≤ maxLen := by unfold maxLen; omega
    have K := fun ty => run_append_lies (P := Tryz.prog) w' 27 ty w0.heap.size 50 i0 _ 7 112 Tryz.underlying27 hi0 hz0 hz1 hz2 rfl (by decide) x evs.length xs hx ⟨g', 0, none⟩ (Sn.feed st l).2.length c' ys hy.1 (hy.cells (g := g') rfl) hB.oneCell h0 hbig (by omega) hbs w'.heap.size rfl
    obtain ⟨g, cap, w9, hr, hown, hgrow, hat, hlt⟩ := K 0
    refine ⟨_, .slice (some ⟨g, 0, none⟩) (evs.length + (Sn.feed st l).2.length) cap, plus v' g, w9, he, fun ty => ?_, ?_⟩
    · have e1 : ∀ t2, Builtin.append_ #[27, 27] t2 #[x, .slice (some ⟨g', 0, none⟩) (Sn.feed st l).2.length c'] = Builtin.append_ #[27, 27] 0 #[x, .slice (some ⟨g', 0, none⟩) (Sn.feed st l).2.length c'] := fun t2 => rfl
      rw [e1 ty]; exact hr
    · exact h1.app hx hA hB rfl hown ((Ow.refl _ _).grown hgrow (fun b e _ => e)) (hat.imp id (fun e => by omega))

/-- An append whose outcome is known, at the walk's operation. -/
theorem wpList_append_is {P : Program} {ops : Array Oper} {rest : List Oper} {o : Oper} {a : Act} {Q : Exit → Act → World → Prop} {w w9 : World} (hgd : o.guard = none) (s x : Operand) (t : TypeId)
    (ho : o.op = .call { callee := .builtin .append, args := #[s, x], argTypes := #[t, t] }) (v y r : Value) (hs : a.eval s = v) (hx : a.eval x = y)
    (hr : ∀ ty, (Builtin.append_ #[t, t] ty #[v, y]).run P w = .ok r w9) (h : wpList P ops Q rest (a.put o.dst r) w9) : wpList P ops Q (o :: rest) a w :=
  wpList_plain hgd fun _ hK => by
    unfold Oper.wp execOp
    simp only [ho, resolve, invoke, builtin, Sem.run_bind, Sem.run_pure, Result.andThen_ok, List.map_toArray, List.map_cons, List.map_nil, hs, hx, hr]
    exact hK _ _ h
/-! ### Events reckoned, where tokens are plain letters -/
def asc (t : B8) : Bool := t.all fun b => decide (32 ≤ b.toNat) && decide (b.toNat < 127)
theorem asc_text : ∀ {t : B8}, asc t = true → isTx t = true := by
  intro t h
  rw [isTx_iff]
  induction t with
  | nil => exact ⟨[], Sg.IsT.nil⟩
  | cons b r ih =>
    simp only [asc, List.all_cons, Bool.and_eq_true, decide_eq_true_eq] at h
    obtain ⟨⟨h1, h2⟩, h3⟩ := h
    obtain ⟨cs, hc⟩ := ih h3
    have hk : Sg.ok b.toNat = true := Sg.ok_mk ((Sg.isSg_iff _).2 (by omega)) ((Sg.plain_iff _).2 (.inr ⟨h1, by omega, by omega⟩))
    have he : Sg.enc b.toNat = [b] := by rw [enc_small (by omega), Sg.u_of rfl]
    have := (Sg.IsT.one hk).append hc
    rw [he] at this
    exact ⟨_, this⟩
def takeX (s0 : St) (t : B8) (tx : Bool) : St × Ev × Nat :=
  if 16384 < (took s0 t).size then (took s0 t, Ev0, 62) else if tx = false then (took s0 t, Ev0, 63) else if Sg.nb t 0 ≠ 60 then Sn.chars (took s0 t) t else if Sg.nb t 1 = 63 ∧ s0.begun = false ∧ prologue t = true then (took s0 t, Ev0, 0) else if Sg.nb t 1 = 63 ∨ Sg.nb t 1 = 33 then (took s0 t, Ev0, 61) else if Sg.nb t 1 = 47 then tagEnd (took s0 t) t else tagBegin (took s0 t) t
theorem takeX_eq (s : St) (t : B8) : Sn.take s t = takeX s t (isTx t) := rfl
def stepC (s : St) (c : UInt8) : Option (St × Ev × Nat) :=
  if (Sn.cut s c).2 = [] then some ((Sn.cut s c).1, Ev0, if 16384 < (Sn.cut s c).1.token.length then 62 else 0) else if asc (Sn.cut s c).2 then some (takeX (Sn.cut s c).1 (Sn.cut s c).2 true) else none
theorem stepC_ok {s : St} {c : UInt8} {r : St × Ev × Nat} (h : stepC s c = some r) : Sn.step s c = r := by
  unfold stepC at h
  unfold Sn.step
  split at h
  · rename_i h1; rw [if_pos h1]; exact Option.some.inj h
  · rename_i h1
    rw [if_neg h1]
    split at h
    · rename_i h2
      rw [takeX_eq, asc_text h2]; exact Option.some.inj h
    · cases h
def oneC (s : St) (c : UInt8) : Option (St × List Ev) :=
  if s.over then some (s, []) else match stepC s c with
    | none => none
    | some r => some (if r.2.2 = 0 then (r.1, if r.2.1.kind = 0 then [] else [r.2.1]) else ((Sn.fail r.1 r.2.2).1, [(Sn.fail r.1 r.2.2).2]))
theorem oneC_ok {s : St} {c : UInt8} {r : St × List Ev} (h : oneC s c = some r) : Sn.one s c = r := by
  unfold oneC at h
  unfold Sn.one
  split at h
  · rename_i h1; rw [if_pos h1]; exact Option.some.inj h
  · rename_i h1
    rw [if_neg h1]
    split at h
    · cases h
    · rename_i q hq
      simp only [stepC_ok hq]
      exact Option.some.inj h
def feedC (s : St) : B8 → Option (St × List Ev)
  | [] => some (s, [])
  | c :: r => match oneC s c with
    | none => none
    | some q => match feedC q.1 r with
      | none => none
      | some p => some (p.1, q.2 ++ p.2)
theorem feedC_ok : ∀ {l : B8} {s : St} {r : St × List Ev}, feedC s l = some r → Sn.feed s l = r
  | [], s, r, h => Option.some.inj h
  | c :: l, s, r, h => by
    unfold feedC at h
    split at h
    · cases h
    · rename_i q hq
      split at h
      · cases h
      · rename_i p hp
        simp only [Sn.feed, oneC_ok hq, feedC_ok hp]
        exact Option.some.inj h
def liveT1 : B8 := [60, 97, 32, 120, 109, 108, 110, 115, 61, 39, 98, 39, 62, 60, 99, 62, 120, 38, 108, 116, 59, 60, 47, 99, 62, 60, 47, 97, 62]
def liveT2 : B8 := [60, 97, 32, 120, 109, 108, 110, 115, 61, 39, 98, 39, 62, 60, 33, 45, 45, 32, 45, 45, 62]
def liveE1 : El := .mk ⟨#[98]⟩ ⟨#[97]⟩ [] ⟨#[]⟩ []
def liveE2 : El := .mk ⟨#[98]⟩ ⟨#[99]⟩ [] ⟨#[120, 60]⟩ []
theorem live1C : (feedC St0 liveT1).map (fun r => (r.2, r.1.err)) = some ([⟨1, liveE1, 0⟩, ⟨2, liveE2, 0⟩, ⟨3, El0, 0⟩], 0) := by kernel_rfl
theorem live2C : (feedC St0 liveT2).map (fun r => (r.2, r.1.err)) = some ([⟨1, liveE1, 0⟩, ⟨4, El0, 61⟩], 61) := by kernel_rfl
theorem feedC_map {l : B8} {evs : List Ev} {n : Nat} (h : (feedC St0 l).map (fun r => (r.2, r.1.err)) = some (evs, n)) : (Sn.feed St0 l).2 = evs ∧ (Sn.feed St0 l).1.err = n := by
  cases hc : feedC St0 l with
  | none => rw [hc] at h; cases h
  | some r =>
    rw [hc] at h
    rw [feedC_ok hc]
    simp only [Option.map_some, Option.some.injEq, Prod.mk.injEq] at h
    exact h
theorem live1 : (Sn.feed St0 liveT1).2 = [⟨1, liveE1, 0⟩, ⟨2, liveE2, 0⟩, ⟨3, El0, 0⟩] ∧ (Sn.feed St0 liveT1).1.err = 0 := feedC_map live1C
theorem live2 : (Sn.feed St0 liveT2).2 = [⟨1, liveE1, 0⟩, ⟨4, El0, 61⟩] ∧ (Sn.feed St0 liveT2).1.err = 61 := feedC_map live2C
end Go.Proofs.YtolnpfcncmcacaaGreatDoor

/- The contract of the laws' first line: a stream fed byte by byte, and one with something wrong. Condition: strconv.ErrSyntax holds an error. -/
namespace Go.Proofs.YtolnpfcncmcacaaGreatDoor
open Go.RowKit Go.Lib Go.Shelf Tg Sn

theorem feed_more (s : St) (l : B8) {i j : Nat} (h : i ≤ j) : Sn.feed s (l.take j) = ((Sn.feed (Sn.feed s (l.take i)).1 ((l.take j).drop i)).1, (Sn.feed s (l.take i)).2 ++ (Sn.feed (Sn.feed s (l.take i)).1 ((l.take j).drop i)).2) := by
  have e := Sn.feed_append s (l.take i) ((l.take j).drop i)
  have e2 : l.take i = (l.take j).take i := by rw [List.take_take, Nat.min_eq_left h]
  rw [← e, e2, List.take_append_drop]
theorem EvRow.all {B : Nat} {S : Nat → Prop} {w : World} {x : Value} {evs : List Ev} (h : EvRow B S w x evs) (h0 : 0 < evs.length) :
    ∃ g c, x = .slice (some ⟨g, 0, none⟩) evs.length c ∧ ∀ k (hk : k < evs.length), ∃ v0 v1 v2 v3 v4, w.cell? ⟨g, k * 7, none⟩ = some (.int .i64 (evs[k].kind : Int)) ∧ w.cell? ⟨g, k * 7 + 1, none⟩ = some v0 ∧ w.cell? ⟨g, k * 7 + 2, none⟩ = some v1 ∧ w.cell? ⟨g, k * 7 + 3, none⟩ = some v2 ∧ w.cell? ⟨g, k * 7 + 4, none⟩ = some v3 ∧ w.cell? ⟨g, k * 7 + 5, none⟩ = some v4 ∧ w.cell? ⟨g, k * 7 + 6, none⟩ = some (.int .i64 (evs[k].err : Int)) ∧ InS S w evs[k].elem (.agg #[v0, v1, v2, v3, v4]) := by
  obtain ⟨g, c, _, _, _, _, _, rfl, _⟩ := h.cells h0
  refine ⟨g, c, rfl, fun k hk => ?_⟩
  obtain ⟨g', c', v0, v1, v2, v3, v4, hx, r⟩ := h.cells hk
  simp only [Value.slice.injEq, Option.some.injEq, Addr.mk.injEq, and_true, true_and] at hx
  obtain ⟨rfl, _⟩ := hx
  exact ⟨v0, v1, v2, v3, v4, r⟩
theorem Scn.told {N P : Nat} {v : Vw} {w : World} {s : St} (h : Scn N P v w s) : w.cell? ⟨P, 6, none⟩ = some (.int .i64 (s.err : Int)) ∧ ∃ a c, w.cell? ⟨P, 3, none⟩ = some (.slice a s.os.length c) := by
  cases ho : s.over with
  | false =>
    have hS := h.1 ho
    obtain ⟨⟨_, _, _, x3, _, _, x6⟩, _⟩ := bxS hS.box
    obtain ⟨a, c, e⟩ := hS.opnIs
    rw [e] at x3
    exact ⟨x6, a, c, x3⟩
  | true =>
    obtain ⟨⟨t, q, b, a, c, z, hd⟩, _⟩ := h.2 ho
    exact ⟨(bx7 hd).2.2.2.2.2.2, a, c, (bx7 hd).2.2.2.1⟩
theorem vw0_only {P b : Nat} (h : Mut P Vw0 b) : b = P := vw0_mut (f := fun _ => False) h
/-- A new scanner, ready to be fed. -/
theorem scn_new {w : World} (hG : Gd w) : Scn (w.heap.size + 1) w.heap.size Vw0 (w.alloc (.cells (scells Vw0 St0) 62)) St0 :=
  ⟨fun _ => sc_new (box_new w _ _) (hG.below ((Below.refl _ _).alloc (Nat.le_refl _) _)) (by have := hG.lt; omega) (by have := hG.lt; omega) (by simp), fun h => by cases h⟩
theorem gd_fr {P : Nat} {w w' : World} {v' : Vw} (hG : Gd w) (hf : Fr P Vw0 w w' v') (hP : 3 ≠ P) : Gd w' :=
  hG.keep (hf.block _ hG.lt (fun hm => hP (vw0_only hm)))
theorem lit_leaf (S : Nat → Prop) (w : World) (sp nm tx : ByteArray) (h : sp.size ≤ 1048576 ∧ nm.size ≤ 1048576 ∧ tx.size ≤ 1048576) : InS S w (.mk sp nm [] tx []) (.agg #[.string sp, .string nm, .slice none 0 0, .string tx, .slice none 0 0]) :=
  .mk sp nm [] tx [] _ none 0 (fun _ _ => .bool false) ⟨⟨by omega, by omega, by omega, Nat.zero_le _⟩, fun a h => by cases h⟩ (SlA.nil _ _) (Nat.zero_le _) (fun i h => by cases h) (fun i h => by cases h)
/-- Rows and what they hold stay where only a new scanner is fed. -/
theorem EvRow.aside {B P : Nat} {S : Nat → Prop} {w W w' : World} {x : Value} {evs : List Ev} {v' : Vw} (h : EvRow B S w x evs) (hb : Below w.heap.size w W) (hP : w.heap.size ≤ P) (hf : Fr P Vw0 W w' v') : EvRow B S w' x evs :=
  h.put (fun b _ hlt _ => (hf.block b (Nat.lt_of_lt_of_le hlt hb.size) (fun hm => by have := vw0_only hm; omega)).trans (hb.block b hlt)) fun _ _ hi => hi.keep fun b _ hlt => (hf.block b (Nat.lt_of_lt_of_le hlt hb.size) (fun hm => by have := vw0_only hm; omega)).trans (hb.block b hlt)
set_option maxRecDepth 100000 in
set_option maxHeartbeats 8000000 in
theorem live_any (w : World) (hG : Gd w) : Calls Tryz.prog 6 #[] w fun e w' => e = .returned (.bool true) ∧ Below w.heap.size w w' := by
  have HG := Lib.hid hG
  have HGL := Lib.hid hG.lt
  have HN := Lib.hid (new_any)
  have S1 := Lib.hid (scn_new hG)
  have HB1 : Hid (Below w.heap.size w (w.alloc (.cells (scells Vw0 St0) 62))) := (Below.refl _ _).alloc (Nat.le_refl _) _
  have HZ1 : Hid ((w.alloc (.cells (scells Vw0 St0) 62)).heap.size = w.heap.size + 1) := by show _ = _; simp
  clear hG
  go_enter Tryz.func6, Tryz.ntmps6
  go_wp2_with fail
  refine (HN.out _).mono ?_
  rintro r w1 ⟨rfl, rfl⟩
  generalize w.alloc (.cells (scells Vw0 St0) 62) = W1 at S1 HB1 HZ1 ⊢
  go_wp2_with fail
  generalize hT : (⟨#[60, 97, 32, 120, 109, 108, 110, 115, 61, 39, 98, 39, 62, 60, 99, 62, 120, 38, 108, 116, 59, 60, 47, 99, 62, 60, 47, 97, 62]⟩ : ByteArray) = T
  have HTL : Hid (T.data.toList = liveT1) := by rw [← hT]; rfl
  have hts : T.size = 29 := by rw [← hT]; rfl
  clear hT
  have HM0 : Hid (Md (w.heap.size + 1) w.heap.size Vw0 W1 (Sn.feed St0 (liveT1.take 0)).1 (Sn.feed St0 (liveT1.take 0)).2 (.slice none 0 0) Vw0 W1) := by
    show Md _ _ _ _ _ _ _ _ _
    rw [List.take_zero]
    exact Md.start S1.out (by rw [HZ1.out]; omega)
  go_loopw [3, 4] (fun x i wr => ∃ (k : Nat) (vk : Vw), i = .int .i64 k ∧ k ≤ 29 ∧ Hid (Md (w.heap.size + 1) w.heap.size Vw0 W1 (Sn.feed St0 (liveT1.take k)).1 (Sn.feed St0 (liveT1.take k)).2 x vk wr)) (fun _ i _ => 29 - (RowKit.intOf i).toNat)
  case atStart => exact ⟨0, Vw0, rfl, Nat.zero_le _, HM0.out⟩
  case round =>
    obtain ⟨k, vk, rfl, hk, HM⟩ := hrel
    clear HM0 S1
    by_cases hlt : k < 29
    · have g1 : IntKind.i64.wrap ((k : Int) + 1) = ((k + 1 : Nat) : Int) := by rw [IntWalk.i64_in _ (by omega)]; omega
      have h1s := HM.out.fr.size
      have h1z := HZ1.out
      have hps : (T.extract k (k + 1)).size ≤ 1048576 := by rw [← By.len_size, By.extract_cut, List.length_drop, List.length_take, By.len_size]; omega
      have D := Lib.hid (feed_any _ _ _ _ (T.extract k (k + 1)) wr HM.out.sc (fun ho => feed_iv _ iv0 ho) (by omega) hps)
      have HL := Lib.hid (show (Sn.feed St0 (liveT1.take k)).2.length ≤ 29 by have := feed_len St0 (liveT1.take k); rw [List.length_take] at this; omega)
      have HPL : Hid ((T.extract k (k + 1)).data.toList = (liveT1.take (k + 1)).drop k) := by show _ = _; rw [By.extract_cut, HTL.out]
      have HNX := Lib.hid (feed_more St0 liveT1 (Nat.le_succ k))
      clear hps h1s h1z
      go_wp2_with fail
      refine D.out.mono ?_
      rintro r w2 hF
      rw [HPL.out] at hF
      obtain ⟨y, x', v', w9, rfl, hrun, hM⟩ := HM.out.fed hF (by
        have := feed_len (Sn.feed St0 (liveT1.take k)).1 ((liveT1.take (k + 1)).drop k)
        have h3 := HL.out
        rw [List.length_drop, List.length_take] at this
        have h4 : liveT1.length = 29 := rfl
        omega)
      have HR := Lib.hid hrun
      have HM2 : Hid (Md (w.heap.size + 1) w.heap.size Vw0 W1 (Sn.feed St0 (liveT1.take (k + 1))).1 (Sn.feed St0 (liveT1.take (k + 1))).2 x' v' w9) := by
        show Md _ _ _ _ _ _ _ _ _
        rw [HNX.out]; exact hM
      clear hF hrun hM D HM HNX
      go_wp2_with (at_builtin; refine wpList_append_is rfl _ _ 27 rfl _ _ _ rfl rfl HR.out ?_)
      go_roundw
      case rel => exact ⟨k + 1, v', by go_num, by omega, HM2.out⟩
      case measure => simp [RowKit.intOf]; omega
    · obtain rfl : k = 29 := by omega
      have hM := HM.out
      rw [show liveT1.take 29 = liveT1 from rfl, live1.1] at hM
      have HM2 := Lib.hid hM
      have HSF := Lib.hid (show (Sn.feed St0 liveT1).1.err = 0 from live1.2)
      have HG2 := Lib.hid (gd_fr (HG.out.below HB1.out) hM.fr (by have := HGL.out; omega))
      clear hM HM
      have S2 := Lib.hid (scn_new HG2.out)
      have hws := HM2.out.fr.size
      have hwz := HZ1.out
      go_wp2_with fail
      refine (HN.out _).mono ?_
      rintro r w2 ⟨rfl, rfl⟩
      have HB2 : Hid (Below wr.heap.size wr (wr.alloc (.cells (scells Vw0 St0) 62))) := (Below.refl _ _).alloc (Nat.le_refl _) _
      have HZ2 : Hid ((wr.alloc (.cells (scells Vw0 St0) 62)).heap.size = wr.heap.size + 1) := by show _ = _; simp
      have D := Lib.hid (feed_any _ _ _ _ ⟨#[60, 97, 32, 120, 109, 108, 110, 115, 61, 39, 98, 39, 62, 60, 33, 45, 45, 32, 45, 45, 62]⟩ _ S2.out (fun _ => iv0) (by rw [HZ2.out]; omega) (by decide))
      generalize wr.alloc (.cells (scells Vw0 St0) 62) = W2 at S2 HB2 HZ2 D ⊢
      go_wp2_with fail
      refine D.out.mono ?_
      rintro r w3 ⟨v3, m, rfl, hR3, hS3, hF3, _, _⟩
      have hR3 : EvRow W2.heap.size (Imm (wr.heap.size + 1) wr.heap.size v3) w3 m (Sn.feed St0 liveT2).2 := hR3
      have hS3 : Scn (wr.heap.size + 1) wr.heap.size v3 w3 (Sn.feed St0 liveT2).1 := hS3
      rw [live2.1] at hR3
      have hR1 := HM2.out.row.aside HB2.out (Nat.le_refl _) hF3
      obtain ⟨g, c, hx, hA⟩ := hR1.all (by decide)
      obtain ⟨g', c', hx', hA'⟩ := hR3.all (by decide)
      obtain ⟨_, _, _, _, _, a0, _⟩ := hA 0 (by decide)
      obtain ⟨b0, b1, b2, b3, b4, a1, a10, a11, a12, a13, a14, _, hI⟩ := hA 1 (by decide)
      obtain ⟨_, _, _, _, _, a2, _⟩ := hA 2 (by decide)
      obtain ⟨_, _, _, _, _, _, _, _, _, _, _, c1, _⟩ := hA' 1 (by decide)
      have e3 := hS3.told.1
      rw [live2.2] at e3
      have e1 := HM2.out.sc.told.1
      rw [HSF.out] at e1
      have hPw : w.heap.size < W2.heap.size := by rw [HZ2.out]; omega
      have e1 : w3.cell? ⟨w.heap.size, 6, none⟩ = some (.int .i64 0) := (World.cell?_of_block (a := ⟨w.heap.size, 6, none⟩) ((hF3.block _ hPw (fun hm => by have := vw0_only hm; omega)).trans (HB2.out.block _ (by show w.heap.size < wr.heap.size; omega)))).trans e1
      have hx : u3 = .slice (some ⟨g, 0, none⟩) 3 c := hx
      have hx' : m = .slice (some ⟨g', 0, none⟩) 2 c' := hx'
      subst hx
      subst hx'
      have a0 : w3.cell? ⟨g, 0, none⟩ = some (.int .i64 1) := a0
      have a1 : w3.cell? ⟨g, 7, none⟩ = some (.int .i64 2) := a1
      have a10 : w3.cell? ⟨g, 8, none⟩ = some b0 := a10
      have a11 : w3.cell? ⟨g, 9, none⟩ = some b1 := a11
      have a12 : w3.cell? ⟨g, 10, none⟩ = some b2 := a12
      have a13 : w3.cell? ⟨g, 11, none⟩ = some b3 := a13
      have a14 : w3.cell? ⟨g, 12, none⟩ = some b4 := a14
      have a2 : w3.cell? ⟨g, 14, none⟩ = some (.int .i64 3) := a2
      have c1 : w3.cell? ⟨g', 13, none⟩ = some (.int .i64 61) := c1
      have e3 : w3.cell? ⟨wr.heap.size, 6, none⟩ = some (.int .i64 61) := e3
      have hI : InS (Imm (w.heap.size + 1) w.heap.size vk) w3 liveE2 (.agg #[b0, b1, b2, b3, b4]) := hI
      have SM := Lib.hid (same_yes liveE2 w3.heap.size w3 _ _ hI.toIn (lit_leaf (fun _ => True) w3 ⟨#[98]⟩ ⟨#[99]⟩ ⟨#[120, 60]⟩ (by decide)).toIn (Nat.le_refl _))
      obtain ⟨sp, nm, aa, an, ac, tx, ka, kn, kc, rfl, rfl, rfl, rfl, rfl⟩ := hI.shape
      have HF : Hid (Below w.heap.size w w3) := by
        refine HB1.out.trans ⟨?_, ?_, ?_, ?_, fun b hb => ?_⟩
        · exact hF3.os.trans (HB2.out.os.trans HM2.out.fr.os)
        · exact hF3.tape.trans (HB2.out.tape.trans HM2.out.fr.tape)
        · exact hF3.output.trans (HB2.out.output.trans HM2.out.fr.output)
        · exact Nat.le_trans HM2.out.fr.size (Nat.le_trans HB2.out.size hF3.size)
        · have hbr : b < wr.heap.size := by omega
          exact (hF3.block b (Nat.lt_of_lt_of_le hbr HB2.out.size) (fun hm => by have := vw0_only hm; omega)).trans ((HB2.out.block b hbr).trans (HM2.out.fr.block b (by omega) (fun hm => by have := vw0_only hm; omega)))
      have l1 := World.block_lt_of_cell? w3 _ a0
      have l2 := World.block_lt_of_cell? w3 _ c1
      have l3 := World.block_lt_of_cell? w3 _ e3
      have l4 := World.block_lt_of_cell? w3 _ e1
      clear hF3 hR1 hR3 hS3 hA hA' hI D HM2 HG2 S2 hPw HB2 HZ2 HSF
      go_wp2_with fail
      refine SM.out.mono ?_
      rintro r w4 ⟨rfl, hb⟩
      have a2 := (hb.cell (p := ⟨g, 14, none⟩) l1).trans a2
      have c1 := (hb.cell (p := ⟨g', 13, none⟩) l2).trans c1
      have e3 := (hb.cell (p := ⟨wr.heap.size, 6, none⟩) l3).trans e3
      have e1 := (hb.cell (p := ⟨w.heap.size, 6, none⟩) l4).trans e1
      have HF4 := Lib.hid (HF.out.trans (hb.mono HF.out.size))
      clear hb SM a0 a1 a10 a11 a12 a13 a14
      go_wp2_with fail
      refine (err_any _ 0 w4 e1).mono ?_
      rintro r w5 ⟨rfl, rfl⟩
      go_wp2_with fail
      refine (num_any _ w4).mono ?_
      rintro r w5 ⟨rfl, rfl⟩
      go_wp2_with fail
      refine (num_any _ w4).mono ?_
      rintro r w5 ⟨rfl, rfl⟩
      go_wp2_with fail
      refine (err_any _ 61 w4 e3).mono ?_
      rintro r w5 ⟨rfl, rfl⟩
      go_wp2_with fail
      refine (num_any _ w4).mono ?_
      rintro r w5 ⟨rfl, rfl⟩
      go_wp2_with fail
      go_ret
      exact ⟨rfl, HF4.out⟩
end Go.Proofs.YtolnpfcncmcacaaGreatDoor

/- Which events come of a stream, and in which order. No condition; nothing of the program stands here. -/
namespace Go.Proofs.YtolnpfcncmcacaaGreatDoor
open Go.RowKit Go.Lib Go.Shelf Tg Sn

/-- What one token may bring about, where nothing is wrong. -/
def Kn (s : St) (r : St × Ev × Nat) : Prop := r.1.err = s.err ∧ r.2.1.err = 0 ∧
  ((r.2.1.kind = 0 ∧ r.1.over = s.over ∧ (r.1.os = [] ↔ s.os = [])) ∨ (r.2.1.kind = 1 ∧ s.os = [] ∧ r.1.os ≠ [] ∧ r.1.over = s.over) ∨ (r.2.1.kind = 2 ∧ s.os ≠ [] ∧ r.1.os ≠ [] ∧ r.1.over = s.over) ∨ (r.2.1.kind = 3 ∧ s.os ≠ [] ∧ r.1.over = true))
theorem Kn.none {s s' : St} {n : Nat} (h1 : s'.err = s.err) (h2 : s'.over = s.over) (h3 : s'.os = [] ↔ s.os = []) : Kn s (s', Ev0, n) := ⟨h1, rfl, .inl ⟨rfl, h2, h3⟩⟩
theorem onLast_nil (f : El → El) (os : List Sn.Op) : onLast f os = [] ↔ os = [] := by
  by_cases h : os = []
  · subst h; simp [onLast]
  · obtain ⟨i, x, rfl⟩ := snoc_of h
    rw [onLast_snoc]; simp
theorem Kn.shut {s : St} (hne : s.os ≠ []) : Kn s ((Sn.shut s).1, (Sn.shut s).2, 0) := by
  obtain ⟨ini, o, ho⟩ := snoc_of hne
  have e1 : s.os.dropLast = ini := by rw [ho]; simp
  have e2 : s.os.getLast? = some o := by rw [ho]; simp
  unfold Sn.shut
  simp only [e1, e2, Option.getD_some]
  by_cases c0 : ini.length = 0
  · simp only [if_pos c0]
    exact ⟨rfl, rfl, .inr (.inr (.inr ⟨rfl, hne, rfl⟩))⟩
  · have hi : ini ≠ [] := fun e => c0 (by rw [e]; rfl)
    by_cases c1 : ini.length = 1
    · simp only [if_neg c0, if_pos c1]
      exact ⟨rfl, rfl, .inr (.inr (.inl ⟨rfl, hne, hi, rfl⟩))⟩
    · simp only [if_neg c0, if_neg c1]
      refine Kn.none rfl rfl ⟨fun h => absurd ((onLast_nil (El.addKid · o.elem) ini).1 h) hi, fun h => absurd h hne⟩
theorem Kn.back {s : St} {t : B8} {r : St × Ev × Nat} (h : Kn (took s t) r) : Kn s r := h
theorem Kn.chars (s : St) (t : B8) : Kn s (Sn.chars s t) := by
  by_cases h1 : s.os.length ≤ 1
  · rw [chars_out h1]; exact Kn.none rfl rfl Iff.rfl
  · rw [chars_in h1]; exact Kn.none rfl rfl (onLast_nil (El.addTx · (qt t).2) s.os)
theorem Kn.end (s : St) (t : B8) : Kn s (tagEnd s t) := by
  rcases tagEnd_or s t with e | ⟨hne, e⟩
  · rw [e]; exact Kn.none rfl rfl Iff.rfl
  · rw [e]; exact Kn.shut hne
theorem Kn.begin (s : St) (t : B8) : Kn s (tagBegin s t) := by
  rcases tagBegin_or s t with ⟨n, hn, e⟩ | ⟨o, el, he, h0, e⟩ | ⟨o, h0, h16, k1, k2, e | e⟩
  · rw [e]; exact Kn.none rfl rfl Iff.rfl
  · rw [e]; exact ⟨rfl, rfl, .inr (.inl ⟨rfl, List.length_eq_zero_iff.1 h0, by simp, rfl⟩)⟩
  · rw [e]
    refine Kn.none rfl rfl ⟨fun h => ?_, fun h => absurd (by rw [h]; rfl) h0⟩
    have h : s.os ++ [o] = [] := h
    simp at h
  · rw [e]
    have K := Kn.shut (s := { s with os := s.os ++ [o] }) (by simp)
    obtain ⟨a, b, c⟩ := K
    have hs : s.os ≠ [] := fun h => h0 (by rw [h]; rfl)
    refine ⟨a, b, ?_⟩
    rcases c with ⟨c1, c2, c3⟩ | ⟨c1, c2, _⟩ | ⟨c1, _, c3, c4⟩ | ⟨c1, _, c3⟩
    · refine .inl ⟨c1, c2, fun h => ?_, fun h => absurd h hs⟩
      have := c3.1 h
      simp at this
    · simp at c2
    · exact .inr (.inr (.inl ⟨c1, hs, c3, c4⟩))
    · exact .inr (.inr (.inr ⟨c1, hs, c3⟩))
theorem Kn.take (s : St) (t : B8) : Kn s (Sn.take s t) := by
  rw [tk_eq]
  have k0 : ∀ n, Kn s (took s t, Ev0, n) := fun n => Kn.none rfl rfl Iff.rfl
  by_cases h1 : 16384 < (took s t).size
  · rw [if_pos h1]; exact k0 _
  rw [if_neg h1]
  by_cases h2 : isTx t = false
  · rw [if_pos h2]; exact k0 _
  rw [if_neg h2]
  by_cases h3 : Sg.nb t 0 ≠ 60
  · rw [if_pos h3]; exact Kn.back (Kn.chars _ _)
  rw [if_neg h3]
  by_cases h4 : Sg.nb t 1 = 63 ∧ s.begun = false ∧ prologue t = true
  · rw [if_pos h4]; exact k0 _
  rw [if_neg h4]
  by_cases h5 : Sg.nb t 1 = 63 ∨ Sg.nb t 1 = 33
  · rw [if_pos h5]; exact k0 _
  rw [if_neg h5]
  by_cases h6 : Sg.nb t 1 = 47
  · rw [if_pos h6]; exact Kn.back (Kn.end _ _)
  · rw [if_neg h6]; exact Kn.back (Kn.begin _ _)
theorem Kn.step (s : St) (c : UInt8) : Kn s (Sn.step s c) := by
  obtain ⟨l, q, r, e, _, _⟩ := cut_eq s c
  unfold Sn.step
  simp only [e]
  split
  · exact Kn.none rfl rfl Iff.rfl
  · exact Kn.take { s with token := l, quote := q } r
/-- The events so far, and how the scanner stands to them. -/
structure Evl (st : St) (evs : List Ev) : Prop where
  all : ∀ i (h : i < evs.length), (1 ≤ evs[i].kind ∧ evs[i].kind ≤ 4) ∧ (evs[i].kind = 4 ↔ evs[i].err ≠ 0) ∧ (evs[i].kind ≠ 4 → (evs[i].kind = 1 ↔ i = 0)) ∧ (evs[i].kind = 4 ∨ evs[i].kind = 3 → i + 1 = evs.length)
  run : st.over = false → st.err = 0 ∧ (evs = [] ↔ st.os = []) ∧ ∀ i (h : i < evs.length), evs[i].kind ≠ 3 ∧ evs[i].kind ≠ 4
  done : st.over = true → ∃ ini ev, evs = ini ++ [ev] ∧ (ev.kind = 4 ∨ ev.kind = 3) ∧ ev.err = st.err
theorem evl0 : Evl St0 [] := ⟨fun i h => (by cases h), fun _ => ⟨rfl, Iff.intro (fun _ => rfl) (fun _ => rfl), fun i h => by cases h⟩, fun h => by cases h⟩
theorem Evl.more {st st' : St} {evs : List Ev} {ev : Ev} (h : Evl st evs) (ho : st.over = false) (h1 : 1 ≤ ev.kind ∧ ev.kind ≤ 4) (h2 : ev.kind = 4 ↔ ev.err ≠ 0) (h3 : ev.kind ≠ 4 → (ev.kind = 1 ↔ evs = []))
    (hr : st'.over = false → st'.err = 0 ∧ st'.os ≠ [] ∧ ev.kind ≠ 3 ∧ ev.kind ≠ 4) (hd : st'.over = true → (ev.kind = 4 ∨ ev.kind = 3) ∧ ev.err = st'.err) : Evl st' (evs ++ [ev]) := by
  obtain ⟨r1, r2, r3⟩ := h.run ho
  refine ⟨fun i hi => ?_, fun h0 => ?_, fun h0 => ⟨evs, ev, rfl, hd h0⟩⟩
  · by_cases hl : i < evs.length
    · rw [List.getElem_append_left hl]
      obtain ⟨a1, a2, a3, _⟩ := h.all i hl
      exact ⟨a1, a2, a3, fun hc => by have := r3 i hl; omega⟩
    · have hi2 : i = evs.length := by simp at hi; omega
      subst hi2
      rw [List.getElem_append_right (Nat.le_refl _)]
      simp only [Nat.sub_self, List.getElem_cons_zero]
      refine ⟨h1, h2, fun h4 => ?_, fun _ => by simp⟩
      rw [h3 h4, List.length_eq_zero_iff]
  · obtain ⟨q1, q2, q3, q4⟩ := hr h0
    refine ⟨q1, ⟨fun e => by simp at e, fun e => absurd e q2⟩, fun i hi => ?_⟩
    by_cases hl : i < evs.length
    · rw [List.getElem_append_left hl]; exact r3 i hl
    · have hi2 : i = evs.length := by simp at hi; omega
      subst hi2
      rw [List.getElem_append_right (Nat.le_refl _)]
      simp only [Nat.sub_self, List.getElem_cons_zero]
      exact ⟨q3, q4⟩
theorem Evl.one {st : St} {evs : List Ev} (h : Evl st evs) (c : UInt8) : Evl (Sn.one st c).1 (evs ++ (Sn.one st c).2) := by
  cases ho : st.over with
  | true => rw [over_one ho, List.append_nil]; exact h
  | false =>
    obtain ⟨r1, r2, r3⟩ := h.run ho
    by_cases h2 : (Sn.step st c).2.2 = 0
    · obtain ⟨k1, k2, k3⟩ := Kn.step st c
      rcases k3 with ⟨c1, c2, c3⟩ | ⟨c1, c2, c3, c4⟩ | ⟨c1, c2, c3, c4⟩ | ⟨c1, c2, c3⟩
      · rw [one_none ho h2 c1, List.append_nil]
        exact ⟨h.all, fun _ => ⟨by rw [k1]; exact r1, by rw [r2, c3], r3⟩, fun h0 => by rw [c2, ho] at h0; cases h0⟩
      · rw [one_some ho h2 (by omega)]
        exact h.more ho (by omega) ⟨fun e => by omega, fun e => absurd k2 e⟩ (fun _ => ⟨fun _ => r2.2 c2, fun _ => c1⟩) (fun _ => ⟨by rw [k1]; exact r1, c3, by omega, by omega⟩) (fun h0 => by rw [c4, ho] at h0; cases h0)
      · rw [one_some ho h2 (by omega)]
        exact h.more ho (by omega) ⟨fun e => by omega, fun e => absurd k2 e⟩ (fun _ => ⟨fun e => by omega, fun e => absurd (r2.1 e) c2⟩) (fun _ => ⟨by rw [k1]; exact r1, c3, by omega, by omega⟩) (fun h0 => by rw [c4, ho] at h0; cases h0)
      · rw [one_some ho h2 (by omega)]
        exact h.more ho (by omega) ⟨fun e => by omega, fun e => absurd k2 e⟩ (fun _ => ⟨fun e => by omega, fun e => absurd (r2.1 e) c2⟩) (fun h0 => by rw [c3] at h0; cases h0) (fun _ => ⟨.inr c1, by rw [k2, k1, r1]⟩)
    · rw [one_fail ho h2]
      exact h.more ho ⟨by show 1 ≤ 4; decide, Nat.le_refl 4⟩ ⟨fun _ => h2, fun _ => rfl⟩ (fun h4 => absurd rfl h4) (fun h0 => by cases h0) (fun _ => ⟨.inl rfl, rfl⟩)
theorem Evl.feed : ∀ (l : B8) {st : St} {evs : List Ev}, Evl st evs → Evl (Sn.feed st l).1 (evs ++ (Sn.feed st l).2)
  | [], _, evs, h => by simp only [Sn.feed, List.append_nil]; exact h
  | c :: r, _, evs, h => by
    simp only [Sn.feed, ← List.append_assoc]
    exact Evl.feed r (h.one c)
theorem evl (l : B8) : Evl (Sn.feed St0 l).1 (Sn.feed St0 l).2 := by
  have := Evl.feed l evl0
  rwa [List.nil_append] at this
end Go.Proofs.YtolnpfcncmcacaaGreatDoor
