/- Layer 6 in one text: the document's Same and Events; the laws' first line; which events come. Conditions: those of each theorem's head. -/
import Derived.Test.YtolnpfcncmcacaaGreatDoorMJ
/- The contract of the document's own Same, for two values that read as one element. No condition. -/
set_option maxRecDepth 100000
set_option maxHeartbeats 8000000
namespace Go.Proofs.YtolnpfcncmcacaaGreatDoor
open Go.RowKit Go.Lib Go.Shelf Tg Sn
def sameY (e : El) : Prop := ∀ (B : Nat) (w : World) (v v' : Value), In B w e v → In B w e v' → B ≤ w.heap.size →
   Calls Tryz.prog 24 #[v, v'] w fun r w' => r = .returned (.bool true) ∧ Below w.heap.size w w'
theorem bel2 {w W : World} {A A' : Array Value} {t : TypeId} (h : w.heap[W.heap.size]? = some (.cells A t (0, 0)) ∧ w.heap[W.heap.size + 1]? = some (.cells A' t (0, 0))) {w' : World} (hb : Below w.heap.size w w') :
   w'.heap[W.heap.size]? = some (.cells A t (0, 0)) ∧ w'.heap[W.heap.size + 1]? = some (.cells A' t (0, 0)) :=
 ⟨(hb.block _ (heap_lt h.1)).trans h.1, (hb.block _ (heap_lt h.2)).trans h.2⟩
theorem same_yes (e : El) : sameY e := by
 refine El.ind (P := sameY) (fun sp nm atr tx ks ih => ?_) e
 intro B w v v' hin hin' hB
 generalize hE : El.mk sp nm atr tx ks = E at hin hin'
 obtain rfl : E.ks = ks := by rw [← hE]; rfl
 clear hE
 obtain ⟨aA, cA, aK, cK, rfl, ⟨hq1, hq2⟩, hkm, hat, hks⟩ := hin.out
 obtain ⟨aA', cA', aK', cK', rfl, _, _, hat', hks'⟩ := hin'.out
 have hal : E.atr.length ≤ 140737488351232 := hin.sized.1.2.2.2
 have HW0 : Hid (Below w.heap.size w ((w.alloc (.cells #[.string E.sp, .string E.nm, .slice aA E.atr.length cA, .string E.tx, .slice aK E.ks.length cK] 48)).alloc (.cells #[.string E.sp, .string E.nm, .slice aA' E.atr.length cA', .string E.tx, .slice aK' E.ks.length cK'] 48))) := ((Below.refl _ w).alloc (Nat.le_refl _) _).alloc (by simp) _
 have HX0 : Hid (((w.alloc (.cells #[.string E.sp, .string E.nm, .slice aA E.atr.length cA, .string E.tx, .slice aK E.ks.length cK] 48)).alloc (.cells #[.string E.sp, .string E.nm, .slice aA' E.atr.length cA', .string E.tx, .slice aK' E.ks.length cK'] 48)).heap[w.heap.size]? = some (.cells #[.string E.sp, .string E.nm, .slice aA E.atr.length cA, .string E.tx, .slice aK E.ks.length cK] 48 (0, 0)) ∧
     ((w.alloc (.cells #[.string E.sp, .string E.nm, .slice aA E.atr.length cA, .string E.tx, .slice aK E.ks.length cK] 48)).alloc (.cells #[.string E.sp, .string E.nm, .slice aA' E.atr.length cA', .string E.tx, .slice aK' E.ks.length cK'] 48)).heap[w.heap.size + 1]? = some (.cells #[.string E.sp, .string E.nm, .slice aA' E.atr.length cA', .string E.tx, .slice aK' E.ks.length cK'] 48 (0, 0))) := by
   refine ⟨(Below.heap_alloc _ _ _ (by simp)).trans (box_new w _ _), ?_⟩
   have := box_new (w.alloc (.cells #[.string E.sp, .string E.nm, .slice aA E.atr.length cA, .string E.tx, .slice aK E.ks.length cK] 48)) #[.string E.sp, .string E.nm, .slice aA' E.atr.length cA', .string E.tx, .slice aK' E.ks.length cK'] 48
   simpa using this
 have HA := Lib.hid (hat.up hB)
 have HA' := Lib.hid (hat'.up hB)
 have HK := Lib.hid hks
 have HK' := Lib.hid hks'
 have HBB := Lib.hid hB
 have IH := Lib.hid ih
 unfold maxLen at hkm
 clear hin hin' hat hat' hks hks' ih hq1 hq2 hB
 go_enter Tryz.func24, Tryz.ntmps24
 go_wp2_with fail
 go_loopw [5] (fun i wr => ∃ k : Nat, i = .int .i64 k ∧ k ≤ E.atr.length ∧ Hid (Below w.heap.size w wr) ∧ Hid (wr.heap[w.heap.size]? = some (.cells #[.string E.sp, .string E.nm, .slice aA E.atr.length cA, .string E.tx, .slice aK E.ks.length cK] 48 (0, 0)) ∧ wr.heap[w.heap.size + 1]? = some (.cells #[.string E.sp, .string E.nm, .slice aA' E.atr.length cA', .string E.tx, .slice aK' E.ks.length cK'] 48 (0, 0)))) (fun i _ => E.atr.length - (RowKit.intOf i).toNat)
 case atStart => exact ⟨0, rfl, Nat.zero_le _, HW0.out, HX0.out⟩
 case round =>
   obtain ⟨k, rfl, hk, HB, HX⟩ := hrel
   clear HW0 HX0
   obtain ⟨x0, x1, x2, x3, x4⟩ := bx5 HX.out.1
   obtain ⟨x0', x1', x2', x3', x4'⟩ := bx5 HX.out.2
   by_cases hlt : k < E.atr.length
   · obtain ⟨b, o, rfl, hb, y0, y1⟩ := (HA.out.below HB.out) k hlt
     obtain ⟨b', o', rfl, hb', y0', y1'⟩ := (HA'.out.below HB.out) k hlt
     have q2 : ∀ x : Ext wr, x.to.cell? ⟨w.heap.size, 2, none⟩ = _ := fun x => ext_cell x x2
     have q2' : ∀ x : Ext wr, x.to.cell? ⟨w.heap.size + 1, 2, none⟩ = _ := fun x => ext_cell x x2'
     have z0 : ∀ x : Ext wr, x.to.cell? ⟨b, o + k * 2, none⟩ = some (.string E.atr[k].1) := fun x => ext_cell x y0
     have z1 : ∀ x : Ext wr, x.to.cell? ⟨b, o + k * 2 + 1, none⟩ = some (.string E.atr[k].2) := fun x => ext_cell x y1
     have z0' : ∀ x : Ext wr, x.to.cell? ⟨b', o' + k * 2, none⟩ = some (.string E.atr[k].1) := fun x => ext_cell x y0'
     have z1' : ∀ x : Ext wr, x.to.cell? ⟨b', o' + k * 2 + 1, none⟩ = some (.string E.atr[k].2) := fun x => ext_cell x y1'
     have hs := extSome wr
     generalize E.atr[k] = p at z0 z1 z0' z1'
     obtain ⟨p1, p2⟩ := p
     clear y0 y1 y0' y1' hb hb'
     go_wp2_with fail
     refine ext_region (by kernel_rfl) (by kernel_rfl) ?_
     repeat (go_big_quiet_step (fail))
     refine wpQuiet_nil ?_
     rintro _ ⟨x, hx⟩
     subst hx
     have HBX := Lib.hid (HB.out.trans (x.below.mono HB.out.size))
     have HXX := Lib.hid (bel2 HX.out x.below)
     clear z0 z1 z0' z1' q2 q2' x0 x1 x2 x3 x4 x0' x1' x2' x3' x4'
     go_wp2_with fail
     go_roundw
     case rel => exact ⟨k + 1, by go_num, by omega, HBX.out, HXX.out⟩
     case measure => simp [RowKit.intOf]; omega
   · go_wp2_with fail
     clear x0 x1 x2 x3 x4 x0' x1' x2' x3' x4'
     go_loopw [6] (fun i wr => ∃ k : Nat, i = .int .i64 k ∧ k ≤ E.ks.length ∧ Hid (Below w.heap.size w wr) ∧ Hid (wr.heap[w.heap.size]? = some (.cells #[.string E.sp, .string E.nm, .slice aA E.atr.length cA, .string E.tx, .slice aK E.ks.length cK] 48 (0, 0)) ∧ wr.heap[w.heap.size + 1]? = some (.cells #[.string E.sp, .string E.nm, .slice aA' E.atr.length cA', .string E.tx, .slice aK' E.ks.length cK'] 48 (0, 0)))) (fun i _ => E.ks.length - (RowKit.intOf i).toNat)
     case atStart => exact ⟨0, rfl, Nat.zero_le _, HB.out, HX.out⟩
     case round =>
       clear HB HX hlt hk
       obtain ⟨k, rfl, hk, HB, HX⟩ := hrel
       obtain ⟨x0, x1, x2, x3, x4⟩ := bx5 HX.out.1
       obtain ⟨x0', x1', x2', x3', x4'⟩ := bx5 HX.out.2
       by_cases hlt : k < E.ks.length
       · obtain ⟨b, o, a1, c1, a2, c2, rfl, hb, hf5, hkin⟩ := (HK.out.below (HB.out.mono HBB.out)) k hlt
         obtain ⟨b', o', a1', c1', a2', c2', rfl, hb', hf5', hkin'⟩ := (HK'.out.below (HB.out.mono HBB.out)) k hlt
         obtain ⟨y0, y1, y2, y3, y4⟩ := hf5
         obtain ⟨y0', y1', y2', y3', y4'⟩ := hf5'
         have q2 : ∀ x : Ext wr, x.to.cell? ⟨w.heap.size, 4, none⟩ = _ := fun x => ext_cell x x4
         have q2' : ∀ x : Ext wr, x.to.cell? ⟨w.heap.size + 1, 4, none⟩ = _ := fun x => ext_cell x x4'
         have z0 : ∀ x : Ext wr, x.to.cell? ⟨b, o + k * 5, none⟩ = _ := fun x => ext_cell x y0
         have z1 : ∀ x : Ext wr, x.to.cell? ⟨b, o + k * 5 + 1, none⟩ = _ := fun x => ext_cell x y1
         have z2 : ∀ x : Ext wr, x.to.cell? ⟨b, o + k * 5 + 2, none⟩ = _ := fun x => ext_cell x y2
         have z3 : ∀ x : Ext wr, x.to.cell? ⟨b, o + k * 5 + 3, none⟩ = _ := fun x => ext_cell x y3
         have z4 : ∀ x : Ext wr, x.to.cell? ⟨b, o + k * 5 + 4, none⟩ = _ := fun x => ext_cell x y4
         have z0' : ∀ x : Ext wr, x.to.cell? ⟨b', o' + k * 5, none⟩ = _ := fun x => ext_cell x y0'
         have z1' : ∀ x : Ext wr, x.to.cell? ⟨b', o' + k * 5 + 1, none⟩ = _ := fun x => ext_cell x y1'
         have z2' : ∀ x : Ext wr, x.to.cell? ⟨b', o' + k * 5 + 2, none⟩ = _ := fun x => ext_cell x y2'
         have z3' : ∀ x : Ext wr, x.to.cell? ⟨b', o' + k * 5 + 3, none⟩ = _ := fun x => ext_cell x y3'
         have z4' : ∀ x : Ext wr, x.to.cell? ⟨b', o' + k * 5 + 4, none⟩ = _ := fun x => ext_cell x y4'
         have hBw : Below B w wr := HB.out.mono HBB.out
         have hBs := Nat.le_trans HBB.out HB.out.size
         have HC : Hid (∀ x : Ext wr, Calls Tryz.prog 24 #[.agg #[.string E.ks[k].sp, .string E.ks[k].nm, .slice a1 E.ks[k].atr.length c1, .string E.ks[k].tx, .slice a2 E.ks[k].ks.length c2], .agg #[.string E.ks[k].sp, .string E.ks[k].nm, .slice a1' E.ks[k].atr.length c1', .string E.ks[k].tx, .slice a2' E.ks[k].ks.length c2']] x.to fun r w' => r = .returned (.bool true) ∧ Below x.to.heap.size x.to w') := fun x =>
           IH.out _ (List.getElem_mem hlt) B x.to _ _ (hkin.stay (x.below.mono hBs)) (hkin'.stay (x.below.mono hBs)) (Nat.le_trans hBs x.below.size)
         have hs := extSome wr
         clear y0 y1 y2 y3 y4 y0' y1' y2' y3' y4' hb hb' hkin hkin' hBw hBs
         generalize E.ks[k] = K at *
         go_wp2_with fail
         refine ext_region (by kernel_rfl) (by kernel_rfl) ?_
         repeat (go_big_quiet_step ((go_at_call 24; with_reducible exact ext_call _ (HC.out _))))
         refine wpQuiet_nil ?_
         rintro _ ⟨x, hx⟩
         subst hx
         have HBX := Lib.hid (HB.out.trans (x.below.mono HB.out.size))
         have HXX := Lib.hid (bel2 HX.out x.below)
         clear z0 z1 z2 z3 z4 z0' z1' z2' z3' z4' q2 q2' x0 x1 x2 x3 x4 x0' x1' x2' x3' x4' HC
         go_wp2_with fail
         go_roundw
         case rel => exact ⟨k + 1, by go_num, by omega, HBX.out, HXX.out⟩
         case measure => simp [RowKit.intOf]; omega
       · go_wp2_with fail
         go_ret
         exact ⟨rfl, HB.out⟩
end Go.Proofs.YtolnpfcncmcacaaGreatDoor
/- The contract of the document's own Events, for two rows that read as the same events. Condition: at most 1048576 events. -/
namespace Go.Proofs.YtolnpfcncmcacaaGreatDoor
open Go.RowKit Go.Lib Go.Shelf Tg Sn
theorem EvRow.cells {B : Nat} {S : Nat → Prop} {w : World} {x : Value} {evs : List Ev} (h : EvRow B S w x evs) {k : Nat} (hk : k < evs.length) :
   ∃ g c v0 v1 v2 v3 v4, x = .slice (some ⟨g, 0, none⟩) evs.length c ∧ w.cell? ⟨g, k * 7, none⟩ = some (.int .i64 (evs[k].kind : Int)) ∧ w.cell? ⟨g, k * 7 + 1, none⟩ = some v0 ∧ w.cell? ⟨g, k * 7 + 2, none⟩ = some v1 ∧ w.cell? ⟨g, k * 7 + 3, none⟩ = some v2 ∧ w.cell? ⟨g, k * 7 + 4, none⟩ = some v3 ∧ w.cell? ⟨g, k * 7 + 5, none⟩ = some v4 ∧ w.cell? ⟨g, k * 7 + 6, none⟩ = some (.int .i64 (evs[k].err : Int)) ∧ InS S w evs[k].elem (.agg #[v0, v1, v2, v3, v4]) := by
 obtain ⟨xs, h1, h2⟩ := h
 obtain ⟨g, c, rfl, _, _⟩ := h1.form (by omega)
 obtain ⟨v0, v1, v2, v3, v4, a0, a1, a2, a3, a4, a5, a6, hi⟩ := h2.2 k hk
 have e : ∀ j, j < 7 → w.cell? ⟨g, k * 7 + j, none⟩ = xs[k * 7 + j]? := fun j hj => h1.cellAt _ (by omega)
 exact ⟨g, c, v0, v1, v2, v3, v4, rfl, (e 0 (by decide)).trans a0, (e 1 (by decide)).trans a1, (e 2 (by decide)).trans a2, (e 3 (by decide)).trans a3, (e 4 (by decide)).trans a4, (e 5 (by decide)).trans a5, (e 6 (by decide)).trans a6, hi⟩
end Go.Proofs.YtolnpfcncmcacaaGreatDoor
/- What a caller makes of Feed's answers: a row that all of them are appended to; a stream's events reckoned where all its tokens are plain letters. No condition beyond what each theorem's head says. -/
namespace Go.Proofs.YtolnpfcncmcacaaGreatDoor
open Go.RowKit Go.Lib Go.Shelf Tg Sn
theorem Md.farP {N P : Nat} {v0 v : Vw} {w0 w : World} {st : St} {evs : List Ev} {x : Value} (h : Md N P v0 w0 st evs x v w) {b : Nat} (e : x.ownBlock = some b) : ¬ Mut P v b := by
 intro hm
 cases ho : st.over with
 | false => exact ((h.sc.1 ho).off b (h.own b e)).2 hm
 | true =>
   obtain ⟨xs, h1, _⟩ := h.row
   have := (h.sc.2 ho).2 b hm
   have := (own_heap h1 e).1
   have := h.low.2
   omega
theorem Md.turn2 {N P : Nat} {v0 v v' : Vw} {w0 w w' : World} {st st' : St} {evs : List Ev} {x : Value} (h : Md N P v0 w0 st evs x v w) (hs : Scn N P v' w' st') (hf : Fr P v w w' v') : Md N P v0 w0 st' evs x v' w' :=
 ⟨hs, h.fr.trans hf, h.row.put (fun b _ hlt e => hf.block b hlt (h.farP e)) (fun _ _ hi => hi.fr hf), fun b e => hf.farLo b (h.own b e), h.low⟩
theorem EvsAt.oneCell {S : Nat → Prop} {w : World} {xs : List Value} {evs : List Ev} (h : EvsAt S w xs evs) : ∀ u ∈ xs, u.oneCell' = true := by
 intro u hu
 obtain ⟨j, hj, rfl⟩ := List.getElem_of_mem hu
 have hlen := h.1
 have hi : j / 7 < evs.length := by omega
 obtain ⟨v0, v1, v2, v3, v4, a0, a1, a2, a3, a4, a5, a6, hin⟩ := h.2 _ hi
 obtain ⟨sp, nm, aa, an, ac, tx, ka, kn, kc, rfl, rfl, rfl, rfl, rfl⟩ := hin.shape
 have hj2 : xs[j]? = some xs[j] := List.getElem?_eq_getElem hj
 have hr : j % 7 = 0 ∨ j % 7 = 1 ∨ j % 7 = 2 ∨ j % 7 = 3 ∨ j % 7 = 4 ∨ j % 7 = 5 ∨ j % 7 = 6 := by omega
 have key : ∀ y, xs[j]? = some y → xs[j] = y := fun y hy => by rw [hj2] at hy; exact Option.some.inj hy
 rcases hr with hr | hr | hr | hr | hr | hr | hr
 · rw [show j / 7 * 7 = j by omega] at a0; rw [key _ a0]; rfl
 · rw [show j / 7 * 7 + 1 = j by omega] at a1; rw [key _ a1]; rfl
 · rw [show j / 7 * 7 + 2 = j by omega] at a2; rw [key _ a2]; rfl
 · rw [show j / 7 * 7 + 3 = j by omega] at a3; rw [key _ a3]; rfl
 · rw [show j / 7 * 7 + 4 = j by omega] at a4; rw [key _ a4]; rfl
 · rw [show j / 7 * 7 + 5 = j by omega] at a5; rw [key _ a5]; rfl
 · rw [show j / 7 * 7 + 6 = j by omega] at a6; rw [key _ a6]; rfl
theorem run_append_zero {w : World} {a b : Option Addr} {n cap c : Nat} {i0 : TypeInfo} (hi0 : Tryz.prog.info? 50 = some i0) (hn : n ≤ cap) :
   ∀ ty, (Builtin.append_ #[27, 27] ty #[.slice b n cap, .slice a 0 c]).run Tryz.prog w = .ok (.slice b n cap) w := by
 intro ty
 cases b <;> cases a <;> simp [Builtin.append_, run_underlying Tryz.underlying27, sizeOf, typeInfo, hi0, Builtin.lenOf, Builtin.firstCells, loadCells, loadCellsFrom, storeCells, hn]
theorem Md.fed {N P : Nat} {v0 v : Vw} {w0 w w' : World} {st : St} {evs : List Ev} {x : Value} {l : B8} {e : Ending} (h : Md N P v0 w0 st evs x v w) (hF : FdP N P v st l w e w') (hl : evs.length + (Sn.feed st l).2.length ≤ 1048576) :
   ∃ y x' v' w9, e = .returned y ∧ (∀ ty, (Builtin.append_ #[27, 27] ty #[x, y]).run Tryz.prog w' = .ok x' w9) ∧ Md N P v0 w0 (Sn.feed st l).1 (evs ++ (Sn.feed st l).2) x' v' w9 := by
 obtain ⟨i0, hi0, hz0, hz1, hz2⟩ := info_parts infoEv
 obtain ⟨v', y, he, ⟨ys, hy, hB⟩, hs, hf, _, _⟩ := hF
 have h1 := h.turn2 hs hf
 obtain ⟨xs, hx, hA⟩ := h1.row
 have hbs : w0.heap.size ≤ w'.heap.size := h1.fr.size
 rcases Nat.eq_zero_or_pos (Sn.feed st l).2.length with h0 | h0
 · obtain ⟨a, c, rfl⟩ := own_form hy
   rw [h0] at he
   have hnil : (Sn.feed st l).2 = [] := List.length_eq_zero_iff.1 h0
   obtain ⟨b, n, cap, rfl, hn⟩ : ∃ b n cap, x = .slice b n cap ∧ n ≤ cap := by
     rcases hx.2 with ⟨rfl, _⟩ | ⟨g, cap, cur, rfl, _, _, q3, _⟩
     · exact ⟨none, 0, 0, rfl, Nat.le_refl _⟩
     · exact ⟨_, _, _, rfl, q3⟩
   refine ⟨_, .slice b n cap, v', w', he, run_append_zero hi0 hn, ?_⟩
   rw [hnil, List.append_nil]
   exact h1
 · obtain ⟨g', c', rfl, _, _⟩ := hy.form h0
   have hbig : evs.length + (Sn.feed st l).2.length ≤ maxLen := by unfold maxLen; omega
   have K := fun ty => run_append_lies (P := Tryz.prog) w' 27 ty w0.heap.size 50 i0 _ 7 112 Tryz.underlying27 hi0 hz0 hz1 hz2 rfl (by decide) x evs.length xs hx ⟨g', 0, none⟩ (Sn.feed st l).2.length c' ys hy.1 (hy.cells (g := g') rfl) hB.oneCell h0 hbig (by omega) hbs w'.heap.size rfl
   obtain ⟨g, cap, w9, hr, hown, hgrow, hat, hlt⟩ := K 0
   refine ⟨_, .slice (some ⟨g, 0, none⟩) (evs.length + (Sn.feed st l).2.length) cap, plus v' g, w9, he, fun ty => ?_, ?_⟩
   · have e1 : ∀ t2, Builtin.append_ #[27, 27] t2 #[x, .slice (some ⟨g', 0, none⟩) (Sn.feed st l).2.length c'] = Builtin.append_ #[27, 27] 0 #[x, .slice (some ⟨g', 0, none⟩) (Sn.feed st l).2.length c'] := fun t2 => rfl
     rw [e1 ty]; exact hr
   · exact h1.app hx hA hB rfl hown ((Ow.refl _ _).grown hgrow (fun b e _ => e)) (hat.imp id (fun e => by omega))
theorem wpList_append_is {P : Program} {ops : Array Oper} {rest : List Oper} {o : Oper} {a : Act} {Q : Exit → Act → World → Prop} {w w9 : World} (hgd : o.guard = none) (s x : Operand) (t : TypeId)
   (ho : o.op = .call { callee := .builtin .append, args := #[s, x], argTypes := #[t, t] }) (v y r : Value) (hs : a.eval s = v) (hx : a.eval x = y)
   (hr : ∀ ty, (Builtin.append_ #[t, t] ty #[v, y]).run P w = .ok r w9) (h : wpList P ops Q rest (a.put o.dst r) w9) : wpList P ops Q (o :: rest) a w :=
 wpList_plain hgd fun _ hK => by
   unfold Oper.wp execOp
   simp only [ho, resolve, invoke, builtin, Sem.run_bind, Sem.run_pure, Result.andThen_ok, List.map_toArray, List.map_cons, List.map_nil, hs, hx, hr]
   exact hK _ _ h
def asc (t : B8) : Bool := t.all fun b => decide (32 ≤ b.toNat) && decide (b.toNat < 127)
theorem asc_text : ∀ {t : B8}, asc t = true → isTx t = true := by
 intro t h
 rw [isTx_iff]
 induction t with
 | nil => exact ⟨[], Sg.IsT.nil⟩
 | cons b r ih =>
   simp only [asc, List.all_cons, Bool.and_eq_true, decide_eq_true_eq] at h
   obtain ⟨⟨h1, h2⟩, h3⟩ := h
   obtain ⟨cs, hc⟩ := ih h3
   have hk : Sg.ok b.toNat = true := Sg.ok_mk ((Sg.isSg_iff _).2 (by omega)) ((Sg.plain_iff _).2 (.inr ⟨h1, by omega, by omega⟩))
   have he : Sg.enc b.toNat = [b] := by rw [enc_small (by omega), Sg.u_of rfl]
   have := (Sg.IsT.one hk).append hc
   rw [he] at this
   exact ⟨_, this⟩
def takeX (s0 : St) (t : B8) (tx : Bool) : St × Ev × Nat :=
 if 16384 < (took s0 t).size then (took s0 t, Ev0, 62) else if tx = false then (took s0 t, Ev0, 63) else if Sg.nb t 0 ≠ 60 then Sn.chars (took s0 t) t else if Sg.nb t 1 = 63 ∧ s0.begun = false ∧ prologue t = true then (took s0 t, Ev0, 0) else if Sg.nb t 1 = 63 ∨ Sg.nb t 1 = 33 then (took s0 t, Ev0, 61) else if Sg.nb t 1 = 47 then tagEnd (took s0 t) t else tagBegin (took s0 t) t
theorem takeX_eq (s : St) (t : B8) : Sn.take s t = takeX s t (isTx t) := rfl
def stepC (s : St) (c : UInt8) : Option (St × Ev × Nat) :=
 if (Sn.cut s c).2 = [] then some ((Sn.cut s c).1, Ev0, if 16384 < (Sn.cut s c).1.token.length then 62 else 0) else if asc (Sn.cut s c).2 then some (takeX (Sn.cut s c).1 (Sn.cut s c).2 true) else none
theorem stepC_ok {s : St} {c : UInt8} {r : St × Ev × Nat} (h : stepC s c = some r) : Sn.step s c = r := by
 unfold stepC at h
 unfold Sn.step
 split at h
 · rename_i h1; rw [if_pos h1]; exact Option.some.inj h
 · rename_i h1
   rw [if_neg h1]
   split at h
   · rename_i h2
     rw [takeX_eq, asc_text h2]; exact Option.some.inj h
   · cases h
def oneC (s : St) (c : UInt8) : Option (St × List Ev) :=
 if s.over then some (s, []) else match stepC s c with
   | none => none
   | some r => some (if r.2.2 = 0 then (r.1, if r.2.1.kind = 0 then [] else [r.2.1]) else ((Sn.fail r.1 r.2.2).1, [(Sn.fail r.1 r.2.2).2]))
theorem oneC_ok {s : St} {c : UInt8} {r : St × List Ev} (h : oneC s c = some r) : Sn.one s c = r := by
 unfold oneC at h
 unfold Sn.one
 split at h
 · rename_i h1; rw [if_pos h1]; exact Option.some.inj h
 · rename_i h1
   rw [if_neg h1]
   split at h
   · cases h
   · rename_i q hq
     simp only [stepC_ok hq]
     exact Option.some.inj h
def feedC (s : St) : B8 → Option (St × List Ev)
 | [] => some (s, [])
 | c :: r => match oneC s c with
   | none => none
   | some q => match feedC q.1 r with
     | none => none
     | some p => some (p.1, q.2 ++ p.2)
theorem feedC_ok : ∀ {l : B8} {s : St} {r : St × List Ev}, feedC s l = some r → Sn.feed s l = r
 | [], s, r, h => Option.some.inj h
 | c :: l, s, r, h => by
   unfold feedC at h
   split at h
   · cases h
   · rename_i q hq
     split at h
     · cases h
     · rename_i p hp
       simp only [Sn.feed, oneC_ok hq, feedC_ok hp]
       exact Option.some.inj h
end Go.Proofs.YtolnpfcncmcacaaGreatDoor
/- The contract of the laws' first line: a stream fed byte by byte, and one with something wrong. Condition: strconv.ErrSyntax holds an error. -/
namespace Go.Proofs.YtolnpfcncmcacaaGreatDoor
open Go.RowKit Go.Lib Go.Shelf Tg Sn
theorem EvRow.all {B : Nat} {S : Nat → Prop} {w : World} {x : Value} {evs : List Ev} (h : EvRow B S w x evs) (h0 : 0 < evs.length) :
   ∃ g c, x = .slice (some ⟨g, 0, none⟩) evs.length c ∧ ∀ k (hk : k < evs.length), ∃ v0 v1 v2 v3 v4, w.cell? ⟨g, k * 7, none⟩ = some (.int .i64 (evs[k].kind : Int)) ∧ w.cell? ⟨g, k * 7 + 1, none⟩ = some v0 ∧ w.cell? ⟨g, k * 7 + 2, none⟩ = some v1 ∧ w.cell? ⟨g, k * 7 + 3, none⟩ = some v2 ∧ w.cell? ⟨g, k * 7 + 4, none⟩ = some v3 ∧ w.cell? ⟨g, k * 7 + 5, none⟩ = some v4 ∧ w.cell? ⟨g, k * 7 + 6, none⟩ = some (.int .i64 (evs[k].err : Int)) ∧ InS S w evs[k].elem (.agg #[v0, v1, v2, v3, v4]) := by
 obtain ⟨g, c, _, _, _, _, _, rfl, _⟩ := h.cells h0
 refine ⟨g, c, rfl, fun k hk => ?_⟩
 obtain ⟨g', c', v0, v1, v2, v3, v4, hx, r⟩ := h.cells hk
 simp only [Value.slice.injEq, Option.some.injEq, Addr.mk.injEq, and_true, true_and] at hx
 obtain ⟨rfl, _⟩ := hx
 exact ⟨v0, v1, v2, v3, v4, r⟩
theorem vw0_only {P b : Nat} (h : Mut P Vw0 b) : b = P := vw0_mut (f := fun _ => False) h
theorem scn_new {w : World} (hG : Gd w) : Scn (w.heap.size + 1) w.heap.size Vw0 (w.alloc (.cells (scells Vw0 St0) 62)) St0 :=
 ⟨fun _ => sc_new (box_new w _ _) (hG.below ((Below.refl _ _).alloc (Nat.le_refl _) _)) (by have := hG.lt; omega) (by have := hG.lt; omega) (by simp), fun h => by cases h⟩
end Go.Proofs.YtolnpfcncmcacaaGreatDoor
/- Which events come of a stream, and in which order. No condition; nothing of the program stands here. -/
namespace Go.Proofs.YtolnpfcncmcacaaGreatDoor
open Go.RowKit Go.Lib Go.Shelf Tg Sn
end Go.Proofs.YtolnpfcncmcacaaGreatDoor
