/- The walk of ScanBounds: tokens and stanzas that are too long, elements too deep, a nil Scanner. Condition: strconv.ErrSyntax holds an error. -/
import Derived.Test.YtolnpfcncmcacaaGreatDoorCi
namespace Go.Proofs.YtolnpfcncmcacaaGreatDoor
open Go.RowKit Go.Lib Go.Shelf Tg Sn

theorem fld_out (o : Option Addr) (n c : Nat) (z : Int) (f e : Bool) (a : Option Addr) (m d : Nat) (w : World) : (Instr.field 31 (.agg #[.slice o n c, .int .i64 z, .bool f, .bool e, .slice a m d]) 4).run Tryz.prog w = .ok (.slice a m d) w := by kernel_rfl
theorem fr_low {P : Nat} {w W w' : World} {v' : Vw} (hb : Below w.heap.size w W) (hP : w.heap.size ≤ P) (hf : Fr P Vw0 W w' v') : Below w.heap.size w w' :=
  ⟨hf.os.trans hb.os, hf.tape.trans hb.tape, hf.output.trans hb.output, Nat.le_trans hb.size hf.size, fun b hlt => (hf.block b (Nat.lt_of_lt_of_le hlt hb.size) (fun hm => by have := vw0_only hm; omega)).trans (hb.block b hlt)⟩
theorem fill_next {k p : Nat} (h : p < k) : (List.replicate p (Value.int .u8 120) ++ List.replicate (k - p) (Value.int .u8 0)).set p (.int .u8 120) = List.replicate (p + 1) (.int .u8 120) ++ List.replicate (k - (p + 1)) (.int .u8 0) := by
  rw [List.set_append_right _ _ (by rw [List.length_replicate]; exact Nat.le_refl _), List.length_replicate, Nat.sub_self]
  obtain ⟨d, hd⟩ : ∃ d, k - p = d + 1 := ⟨k - p - 1, by omega⟩
  rw [hd, show k - (p + 1) = d by omega, List.replicate_succ, List.set_cons_zero, List.replicate_succ' (n := p), List.append_assoc]
  rfl
set_option maxRecDepth 100000 in
set_option maxHeartbeats 8000000 in
theorem bounds_walk (n m : Int) (w : World) (_h1 : (Lit.int .i64 n).wf = true) (_h2 : (Lit.int .i64 m).wf = true) (hG : Gd w) :
    Calls Tryz.prog 3 #[.int .i64 n, .int .i64 m] w fun r w' => r = .returned (.bool true) ∧ Below w.heap.size w w' := by
  have HG := Lib.hid hG
  have LV := Lib.hid (fun W (hg : Gd W) => live_any W hg)
  have HW0 : Hid (Below w.heap.size w w) := Below.refl _ _
  clear hG
  by_cases a1 : n < 0
  · have t1 : decide (n < (0 : Int)) = true := decide_eq_true a1
    go_enter Tryz.func3, Tryz.ntmps3
    go_wp2_with fail
    refine (LV.out _ HG.out).mono ?_
    rintro r wz ⟨rfl, hb⟩
    have HBZ := Lib.hid (HW0.out.trans (hb.mono HW0.out.size))
    clear hb
    go_wp2_with fail
    go_ret
    exact ⟨rfl, HBZ.out⟩
  have t1 : decide (n < (0 : Int)) = false := decide_eq_false a1
  by_cases a2 : 40000 < n
  · have t2 : decide ((40000 : Int) < n) = true := decide_eq_true a2
    go_enter Tryz.func3, Tryz.ntmps3
    go_wp2_with fail
    refine (LV.out _ HG.out).mono ?_
    rintro r wz ⟨rfl, hb⟩
    have HBZ := Lib.hid (HW0.out.trans (hb.mono HW0.out.size))
    clear hb
    go_wp2_with fail
    go_ret
    exact ⟨rfl, HBZ.out⟩
  have t2 : decide ((40000 : Int) < n) = false := decide_eq_false a2
  by_cases a3 : m < 0
  · have t3 : decide (m < (0 : Int)) = true := decide_eq_true a3
    go_enter Tryz.func3, Tryz.ntmps3
    go_wp2_with fail
    refine (LV.out _ HG.out).mono ?_
    rintro r wz ⟨rfl, hb⟩
    have HBZ := Lib.hid (HW0.out.trans (hb.mono HW0.out.size))
    clear hb
    go_wp2_with fail
    go_ret
    exact ⟨rfl, HBZ.out⟩
  have t3 : decide (m < (0 : Int)) = false := decide_eq_false a3
  by_cases a4 : 40 < m
  · have t4 : decide ((40 : Int) < m) = true := decide_eq_true a4
    go_enter Tryz.func3, Tryz.ntmps3
    go_wp2_with fail
    refine (LV.out _ HG.out).mono ?_
    rintro r wz ⟨rfl, hb⟩
    have HBZ := Lib.hid (HW0.out.trans (hb.mono HW0.out.size))
    clear hb
    go_wp2_with fail
    go_ret
    exact ⟨rfl, HBZ.out⟩
  have t4 : decide ((40 : Int) < m) = false := decide_eq_false a4
  obtain ⟨k, rfl⟩ : ∃ k : Nat, n = (k : Int) := ⟨n.toNat, by omega⟩
  obtain ⟨j, rfl⟩ : ∃ j : Nat, m = (j : Int) := ⟨m.toNat, by omega⟩
  have hk : k ≤ 40000 := by omega
  have hj : j ≤ 40 := by omega
  have NW := Lib.hid (fun W => new_any W)
  clear a1 a2 a3 a4
  go_enter Tryz.func3, Tryz.ntmps3
  go_wp2_with fail
  refine (NW.out _).mono ?_
  rintro r w1 ⟨rfl, rfl⟩
  go_wp2_with fail
  refine (NW.out _).mono ?_
  rintro r w2 ⟨rfl, rfl⟩
  obtain ⟨i0, hi0, hz0, hz1, hz2⟩ := info_parts infoU8
  have HGL := Lib.hid HG.out.lt
  have B2 : Hid (Below w.heap.size w ((w.alloc (.cells (scells Vw0 St0) 62)).alloc (.cells (scells Vw0 St0) 62))) := ((Below.refl _ w).alloc (Nat.le_refl _) _).alloc (by simp) _
  have X1 : Hid (((w.alloc (.cells (scells Vw0 St0) 62)).alloc (.cells (scells Vw0 St0) 62)).heap[w.heap.size]? = some (.cells (scells Vw0 St0) 62 (0, 0))) := (Below.heap_alloc _ _ _ (by simp)).trans (box_new w _ _)
  have X2 : Hid (((w.alloc (.cells (scells Vw0 St0) 62)).alloc (.cells (scells Vw0 St0) 62)).heap[w.heap.size + 1]? = some (.cells (scells Vw0 St0) 62 (0, 0))) := by
    have := box_new (w.alloc (.cells (scells Vw0 St0) 62)) (scells Vw0 St0) 62
    rw [show (w.alloc (.cells (scells Vw0 St0) 62)).heap.size = w.heap.size + 1 by simp] at this
    exact this
  rw [show (w.alloc (.cells (scells Vw0 St0) 62)).heap.size = w.heap.size + 1 by simp]
  generalize (w.alloc (.cells (scells Vw0 St0) 62)).alloc (.cells (scells Vw0 St0) 62) = W2 at B2 X1 X2 ⊢
  have hW2 := heap_lt X2.out
  obtain ⟨w3, hmk, hmo, hmg⟩ := run_makeSlice_full (P := Tryz.prog) W2 (w.heap.size + 2) 25 5 i0 _ 1 Tryz.underlying25 hi0 hz0 hz1 .i64 .i64 k (by omega) (by rw [hz2]; omega) (by unfold maxLen; omega) (by omega)
  have B3 := Lib.hid (B2.out.grown hmg B2.out.size (fun b e => by cases e))
  have X13 := Lib.hid ((hmg.block _ (heap_lt X1.out) (fun e => by cases e)).trans X1.out)
  have X23 := Lib.hid ((hmg.block _ (heap_lt X2.out) (fun e => by cases e)).trans X2.out)
  go_upto_region 8 with fail
  have HX0 : Hid (w3.ownsRow (w.heap.size + 2) 5 1 (.slice (some ⟨W2.heap.size, 0, none⟩) k k) k (List.replicate 0 (.int .u8 120) ++ List.replicate (k - 0) (.int .u8 0))) := by
    show World.ownsRow _ _ _ _ _ _ _
    rw [show (Value.int IntKind.u8 0).cells = #[.int .u8 0] from rfl, toList_madeCells_one, Nat.mul_one] at hmo
    exact hmo
  clear hmo hmg hmk B2 X1 X2
  generalize W2.heap.size = gx at HX0 hW2 ⊢
  go_wp2_with fail
  go_loopw [8] (fun i wr => ∃ p : Nat, i = .int .i64 p ∧ p ≤ k ∧ Hid (wr.ownsRow (w.heap.size + 2) 5 1 (.slice (some ⟨gx, 0, none⟩) k k) k (List.replicate p (.int .u8 120) ++ List.replicate (k - p) (.int .u8 0))) ∧ Hid (Below w.heap.size w wr) ∧ Hid (wr.heap[w.heap.size]? = some (.cells (scells Vw0 St0) 62 (0, 0))) ∧ Hid (wr.heap[w.heap.size + 1]? = some (.cells (scells Vw0 St0) 62 (0, 0)))) (fun i _ => k - (RowKit.intOf i).toNat)
  case atStart => exact ⟨0, rfl, Nat.zero_le _, HX0.out, B3.out, X13.out, X23.out⟩
  case round =>
    clear HX0 B3 X13 X23
    obtain ⟨p, rfl, hp, HX, HB, H1, H2⟩ := hrel
    have hgx := (HX.out.lt gx rfl).1
    by_cases hlt : p < k
    · have c0 : wr.cell? ⟨gx, p, none⟩ = some (.int .u8 0) := (HX.out.cellAt p (by omega)).trans (by rw [List.getElem?_append_right (by rw [List.length_replicate]; omega), List.length_replicate, Nat.sub_self, List.getElem?_replicate, if_pos (by omega)])
      have f0 := HX.out.frozenAt p
      have hxl : wr.heap.size > gx := (HX.out.lt gx rfl).2
      have HX2 : Hid ((wr.setCell ⟨gx, p, none⟩ (.int .u8 120)).ownsRow (w.heap.size + 2) 5 1 (.slice (some ⟨gx, 0, none⟩) k k) k (List.replicate (p + 1) (.int .u8 120) ++ List.replicate (k - (p + 1)) (.int .u8 0))) := by
        have h := (HX.out.stored p (.int .u8 120)).1
        rw [fill_next hlt] at h
        exact h
      have HB2 : Hid (Below w.heap.size w (wr.setCell ⟨gx, p, none⟩ (.int .u8 120))) := HB.out.setCell (Nat.le_trans (Nat.le_add_right _ 2) hgx) _
      have H12 : Hid ((wr.setCell ⟨gx, p, none⟩ (.int .u8 120)).heap[w.heap.size]? = some (.cells (scells Vw0 St0) 62 (0, 0))) := (Below.heap_setCell _ _ _ _ (by show w.heap.size ≠ gx; omega)).trans H1.out
      have H22 : Hid ((wr.setCell ⟨gx, p, none⟩ (.int .u8 120)).heap[w.heap.size + 1]? = some (.cells (scells Vw0 St0) 62 (0, 0))) := (Below.heap_setCell _ _ _ _ (by show w.heap.size + 1 ≠ gx; omega)).trans H2.out
      clear HX HB H1 H2
      go_wp2_with fail
      go_roundw
      case rel => exact ⟨p + 1, by go_num, by omega, HX2.out, HB2.out, H12.out, H22.out⟩
      case measure => simp [RowKit.intOf]; omega
    · obtain rfl : p = k := by omega
      have HCV : Hid ((convert 25 9 (.slice (some ⟨gx, 0, none⟩) p p)).run Tryz.prog wr = .ok (.string (Sn.mk (xs p))) wr) := by
        have h := HX.out
        have e : List.replicate p (Value.int .u8 120) ++ List.replicate (p - p) (Value.int .u8 0) = byteV (xs p) := by
          rw [Nat.sub_self]; simp [byteV, xs]
        rw [e] at h
        have h2 : wr.ownsRow (w.heap.size + 2) 5 1 (.slice (some ⟨gx, 0, none⟩) p p) (xs p).length (byteV (xs p)) := by rw [xs_len]; exact h
        exact tok_conv h2
      have hxz : (Sn.mk (xs p)).size = p := by rw [Sn.mk_size, xs_len]
      have HBT : Hid ((((⟨#[60, 97, 32, 120, 109, 108, 110, 115, 61, 39, 98, 39, 62, 60, 99, 62]⟩ : ByteArray) ++ Sn.mk (xs p)) ++ ⟨#[60, 47, 99, 62]⟩).data.toList = bT p) := by
        show _ = _
        rw [By.append_list, By.append_list, Sn.mk_list]
        simp [bT, aT, cT, eT]
      clear HX
      generalize Sn.mk (xs p) = XS at HCV HBT hxz
      go_wp2_with (first | simp only [HCV.out] | fail)
      clear HCV
      have hbz : (((⟨#[60, 97, 32, 120, 109, 108, 110, 115, 61, 39, 98, 39, 62, 60, 99, 62]⟩ : ByteArray) ++ XS) ++ ⟨#[60, 47, 99, 62]⟩).size ≤ 50000 := by
        rw [ByteArray.size_append, ByteArray.size_append, hxz]
        show 16 + p + 4 ≤ 50000
        omega
      generalize ((⟨#[60, 97, 32, 120, 109, 108, 110, 115, 61, 39, 98, 39, 62, 60, 99, 62]⟩ : ByteArray) ++ XS) ++ ⟨#[60, 47, 99, 62]⟩ = BT at HBT hbz ⊢
      go_loopw [10, 11] (fun dv i wx => ∃ (q : Nat) (T : ByteArray), i = .int .i64 q ∧ dv = .string T ∧ q ≤ j ∧ T.size ≤ 13 + 3 * q ∧ Hid (T.data.toList = dT q) ∧ wx = wr) (fun _ i _ => j - (RowKit.intOf i).toNat)
      case atStart => exact ⟨0, _, rfl, rfl, Nat.zero_le _, Nat.le_refl _, rfl, rfl⟩
      case round =>
        obtain ⟨q, T, rfl, rfl, hq, hT, HT, rfl⟩ := hrel
        by_cases hlq : q < j
        · have HT2 : Hid ((T ++ ⟨#[60, 99, 62]⟩).data.toList = dT (q + 1)) := by
            show _ = _
            rw [By.append_list, HT.out]
            unfold dT
            rw [List.replicate_succ', List.flatten_append, List.append_assoc]
            simp [cT]
          have hT2 : (T ++ ⟨#[60, 99, 62]⟩).size ≤ 13 + 3 * (q + 1) := by
            rw [ByteArray.size_append]
            show T.size + 3 ≤ _
            omega
          go_wp2_with fail
          go_roundw
          case rel => exact ⟨q + 1, _, by go_num, rfl, by omega, hT2, HT2.out, by trivial⟩
          case measure => simp [RowKit.intOf]; omega
        · obtain rfl : q = j := by omega
          have G0 := Lib.hid (HG.out.below HB.out)
          have S1 : Hid (Scn wr.heap.size w.heap.size Vw0 wr St0) := ⟨fun _ => sc_new H1.out G0.out (by have := HGL.out; have := HB.out.size; omega) (by have := HGL.out; omega) (Nat.le_refl _), fun h => by cases h⟩
          have D := Lib.hid (feed_any _ _ _ _ BT wr S1.out (fun _ => iv0) ⟨Nat.le_refl _, heap_lt H1.out⟩ (by omega))
          go_wp2_with fail
          refine D.out.mono ?_
          rintro r w5 ⟨v5, x5, rfl, hrow, _, hfr, _, _⟩
          rw [HBT.out, b_fed] at hrow
          have HR5 := Lib.hid hrow
          have HB5 := Lib.hid (fr_low HB.out (Nat.le_refl _) hfr)
          have H25 : Hid (w5.heap[w.heap.size + 1]? = some (.cells (scells Vw0 St0) 62 (0, 0))) := (hfr.block _ (heap_lt H2.out) (fun hm => by have := vw0_only hm; omega)).trans H2.out
          have AB := Lib.hid (all_B p BT w5 HBT.out hk)
          clear hrow hfr D S1 H1 H2 HB G0
          go_wp2_with fail
          refine AB.out.mono ?_
          rintro r w6 ⟨⟨o6, n6, c6, z6, f6, e6, a6, m6, d6⟩, hr, hrow, hb⟩
          have hr : r = .returned (.agg #[.slice o6 n6 c6, .int .i64 z6, .bool f6, .bool e6, .slice a6 m6 d6]) := hr
          subst hr
          have fo := fld_out o6 n6 c6 z6 f6 e6 a6 m6 d6
          have HR6 := Lib.hid (HR5.out.put (S' := Imm wr.heap.size w.heap.size v5) (fun b _ hlt _ => hb.block b hlt) (fun _ _ hi => hi.keep fun b _ hlt => hb.block b hlt))
          have EV := Lib.hid (events_yes (bE p) _ _ _ _ _ _ w6 HR6.out hrow (by unfold bE; split <;> (show 2 ≤ 1048576; decide)))
          have HB6 := Lib.hid (HB5.out.trans (hb.mono HB5.out.size))
          have H26 := Lib.hid ((hb.block _ (heap_lt H25.out)).trans H25.out)
          clear hrow hb AB HR5 HR6 HB5 H25
          go_wp2_with fail
          refine EV.out.mono ?_
          rintro r w7 ⟨rfl, hb⟩
          have HB7 := Lib.hid (HB6.out.trans (hb.mono HB6.out.size))
          have H27 := Lib.hid ((hb.block _ (heap_lt H26.out)).trans H26.out)
          have G7 := Lib.hid (HG.out.below HB7.out)
          clear hb EV HB6 H26
          have S2 : Hid (Scn w7.heap.size (w.heap.size + 1) Vw0 w7 St0) := ⟨fun _ => sc_new H27.out G7.out (by have := HGL.out; have := HB7.out.size; omega) (by have := HGL.out; omega) (Nat.le_refl _), fun h => by cases h⟩
          have D := Lib.hid (feed_any _ _ _ _ T w7 S2.out (fun _ => iv0) ⟨Nat.le_refl _, heap_lt H27.out⟩ (by omega))
          go_wp2_with fail
          refine D.out.mono ?_
          rintro r w8 ⟨v8, x8, rfl, hrow, _, hfr, _, _⟩
          rw [HT.out, d_fed hj] at hrow
          have HR8 := Lib.hid hrow
          have HB8 := Lib.hid (fr_low HB7.out (Nat.le_succ _) hfr)
          have AD := Lib.hid (all_D q T w8 HT.out hj)
          clear hrow hfr D S2 H27 HB7 G7
          go_wp2_with fail
          refine AD.out.mono ?_
          rintro r w9 ⟨⟨o9, n9, c9, z9, f9, e9, a9, m9, d9⟩, hr, hrow, hb⟩
          have hr : r = .returned (.agg #[.slice o9 n9 c9, .int .i64 z9, .bool f9, .bool e9, .slice a9 m9 d9]) := hr
          subst hr
          have fo9 := fld_out o9 n9 c9 z9 f9 e9 a9 m9 d9
          have HR9 := Lib.hid (HR8.out.put (S' := Imm w7.heap.size (w.heap.size + 1) v8) (fun b _ hlt _ => hb.block b hlt) (fun _ _ hi => hi.keep fun b _ hlt => hb.block b hlt))
          have EV := Lib.hid (events_yes (dE q) _ _ _ _ _ _ w9 HR9.out hrow (by unfold dE; split; (show 1 ≤ 1048576; decide); (show 2 ≤ 1048576; decide)))
          have HB9 := Lib.hid (HB8.out.trans (hb.mono HB8.out.size))
          clear hrow hb AD HR8 HR9 HB8
          go_wp2_with fail
          refine EV.out.mono ?_
          rintro r wA ⟨rfl, hb⟩
          have HBA := Lib.hid (HB9.out.trans (hb.mono HB9.out.size))
          have GA := Lib.hid (HG.out.below HBA.out)
          clear hb EV HB9
          go_wp2_with fail
          refine (feed_none BT wA).mono ?_
          rintro r wB ⟨rfl, rfl⟩
          go_wp2_with fail
          refine (err_none wA).mono ?_
          rintro r wB ⟨rfl, rfl⟩
          go_wp2_with fail
          refine (num_any 7 wA).mono ?_
          rintro r wB ⟨rfl, rfl⟩
          go_wp2_with fail
          refine (depth_none wA).mono ?_
          rintro r wB ⟨rfl, rfl⟩
          go_wp2_with fail
          refine (LV.out _ GA.out).mono ?_
          rintro r wz ⟨rfl, hb⟩
          have HBZ := Lib.hid (HBA.out.trans (hb.mono HBA.out.size))
          clear hb
          go_wp2_with fail
          go_ret
          exact ⟨rfl, HBZ.out⟩
end Go.Proofs.YtolnpfcncmcacaaGreatDoor
