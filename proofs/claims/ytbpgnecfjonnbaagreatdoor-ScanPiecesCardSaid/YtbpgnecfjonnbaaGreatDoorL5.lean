/- The walk of ScanPieces: what comes does not hang on the pieces. Condition: strconv.ErrSyntax holds an error. -/
import Derived.Test.YtbpgnecfjonnbaaGreatDoorL4
namespace Go.Proofs.YtbpgnecfjonnbaaGreatDoor
open Go.RowKit Go.Lib Go.Shelf Tg Sn

/-- Integers in memory, one cell each. -/
def IntsAt (w : World) (a : Option Addr) (n : Nat) : Prop := ∀ j, j < n → ∃ ad z, a = some ad ∧ ad.block < w.heap.size ∧ w.cell? (ad.add j) = some (.int .i64 z)
theorem ext_ext (b : ByteArray) (k n : Nat) : (b.extract k b.size).extract n (b.extract k b.size).size = b.extract (k + n) b.size := by
  apply By.bytes_ext
  rw [By.extract_drop, By.extract_drop, By.extract_drop, List.drop_drop]
theorem ext_pre (b : ByteArray) (k n : Nat) (_h : k + n ≤ b.size) : ((b.extract k b.size).extract 0 n).data.toList = (b.data.toList.take (k + n)).drop k := by
  rw [By.extract_cut, By.extract_drop, List.drop_zero, List.take_drop, Nat.add_comm]
set_option maxRecDepth 100000 in
set_option maxHeartbeats 8000000 in
theorem pieces_walk (b : ByteArray) (ca : Option Addr) (m cc : Nat) (w : World) (hb : b.size ≤ maxLen) (hm : m ≤ maxLen) (hA : IntsAt w ca m) (hG : Gd w) :
    Calls Tryz.prog 3 #[.string b, .slice ca m cc] w fun e w' => e = .returned (.bool true) ∧ Below w.heap.size w w' := by
  unfold maxLen at hb hm
  by_cases hbig : 3000 < b.size ∨ 60 < m
  · have LV := Lib.hid (live_any w hG)
    clear hG
    by_cases h1 : 3000 < b.size
    · have g2 : decide ((3000 : Int) < (b.size : Int)) = true := by rw [decide_eq_true_iff]; omega
      have g3 : (3000 : Int) < (b.size : Int) := by omega
      clear hA hbig h1
      go_enter Tryz.func3, Tryz.ntmps3
      go_wp2_with fail
      refine LV.out.mono ?_
      rintro r w1 ⟨rfl, hb⟩
      have HB := Lib.hid hb
      clear hb
      go_wp2_with fail
      go_ret
      exact ⟨rfl, HB.out⟩
    · have h2 : 60 < m := by omega
      have g2 : decide ((3000 : Int) < (b.size : Int)) = false := by rw [decide_eq_false_iff_not]; omega
      have g3 : ¬ ((3000 : Int) < (b.size : Int)) := by omega
      have g4 : decide ((60 : Int) < (m : Int)) = true := by rw [decide_eq_true_iff]; omega
      have g5 : (60 : Int) < (m : Int) := by omega
      clear hA hbig h1 h2
      go_enter Tryz.func3, Tryz.ntmps3
      go_wp2_with fail
      refine LV.out.mono ?_
      rintro r w1 ⟨rfl, hb⟩
      have HB := Lib.hid hb
      clear hb
      go_wp2_with fail
      go_ret
      exact ⟨rfl, HB.out⟩
  have g2 : decide ((3000 : Int) < (b.size : Int)) = false := by rw [decide_eq_false_iff_not]; omega
  have g3 : ¬ ((3000 : Int) < (b.size : Int)) := by omega
  have g4 : decide ((60 : Int) < (m : Int)) = false := by rw [decide_eq_false_iff_not]; omega
  have g5 : ¬ ((60 : Int) < (m : Int)) := by omega
  have HBS : Hid (b.size ≤ 3000) := by show _ ≤ _; omega
  have HMS : Hid (m ≤ 60) := by show _ ≤ _; omega
  have HA := Lib.hid hA
  have HG := Lib.hid hG
  have HGL := Lib.hid hG.lt
  have LV := Lib.hid (fun W (hg : Gd W) => live_any W hg)
  have HN := Lib.hid (new_any)
  have HB1 : Hid (Below w.heap.size w (w.alloc (.cells (scells Vw0 St0) 57))) := (Below.refl _ _).alloc (Nat.le_refl _) _
  have HB2 : Hid (Below w.heap.size w ((w.alloc (.cells (scells Vw0 St0) 57)).alloc (.cells (scells Vw0 St0) 57))) := ((Below.refl _ _).alloc (Nat.le_refl _) _).alloc (by simp) _
  have HZ2 : Hid (((w.alloc (.cells (scells Vw0 St0) 57)).alloc (.cells (scells Vw0 St0) 57)).heap.size = w.heap.size + 2) := by show _ = _; simp
  have HX1 : Hid (((w.alloc (.cells (scells Vw0 St0) 57)).alloc (.cells (scells Vw0 St0) 57)).heap[w.heap.size]? = some (.cells (scells Vw0 St0) 57 (0, 0))) := (Below.heap_alloc _ _ _ (by simp)).trans (box_new w _ _)
  have HX2 : Hid (((w.alloc (.cells (scells Vw0 St0) 57)).alloc (.cells (scells Vw0 St0) 57)).heap[w.heap.size + 1]? = some (.cells (scells Vw0 St0) 57 (0, 0))) := by
    have := box_new (w.alloc (.cells (scells Vw0 St0) 57)) (scells Vw0 St0) 57
    show _ = _
    simpa using this
  have HLZ := Lib.hid (By.len_size b)
  clear hG hb hm hbig hA
  go_enter Tryz.func3, Tryz.ntmps3
  go_wp2_with fail
  refine (HN.out _).mono ?_
  rintro r w1 ⟨rfl, rfl⟩
  go_wp2_with fail
  refine (HN.out _).mono ?_
  rintro r w1 ⟨rfl, rfl⟩
  go_wp2_with fail
  generalize (w.alloc (.cells (scells Vw0 St0) 57)).alloc (.cells (scells Vw0 St0) 57) = W2 at HB2 HZ2 HX1 HX2 ⊢
  have S1 : Hid (Scn (w.heap.size + 2) w.heap.size Vw0 W2 St0) := ⟨fun _ => sc_new HX1.out (HG.out.below HB2.out) (by have := HGL.out; omega) (by have := HGL.out; omega) (by rw [HZ2.out]; exact Nat.le_refl _), fun h => by cases h⟩
  have D := Lib.hid (feed_any _ _ _ _ b _ S1.out (fun _ => iv0) (by rw [HZ2.out]; omega) (by have := HBS.out; omega))
  clear g2 g3 g4 g5 HB1
  go_wp2_with fail
  refine D.out.mono ?_
  rintro r w2 ⟨v2, x1, rfl, hR2, hS2, hF2, _, hmu⟩
  have HX3 := Lib.hid ((hF2.block (w.heap.size + 1) (by rw [HZ2.out]; omega) (fun hm => by have := vw0_only hm; omega)).trans HX2.out)
  have HG2 := Lib.hid (gd_fr (HG.out.below HB2.out) hF2 (by have := HGL.out; omega))
  have hws : w.heap.size + 2 ≤ w2.heap.size := by have := hF2.size; rw [HZ2.out] at this; exact this
  have S2 : Hid (Scn (w.heap.size + 2) (w.heap.size + 1) Vw0 w2 St0) := ⟨fun _ => sc_new HX3.out HG2.out (by have := HGL.out; omega) (by have := HGL.out; omega) hws, fun h => by cases h⟩
  have HM0 : Hid (Md (w.heap.size + 2) (w.heap.size + 1) Vw0 w2 (Sn.feed St0 (b.data.toList.take 0)).1 (Sn.feed St0 (b.data.toList.take 0)).2 (.slice none 0 0) Vw0 w2) := by
    show Md _ _ _ _ _ _ _ _ _
    rw [List.take_zero]
    exact Md.start S2.out ⟨hws, by omega⟩
  have HBw : Hid (Below w.heap.size w w2) := fr_below HB2.out (Nat.le_refl _) hF2
  have HR2 := Lib.hid hR2
  have HS2 := Lib.hid hS2
  have HWS := Lib.hid hws
  have HE0 : Hid (b.extract 0 b.size = b) := By.bytes_ext (by rw [By.extract_drop]; rfl)
  clear hR2 hS2 hF2 hmu D S1 hws HX1 HX2 HX3
  go_wp2_with fail
  go_loopw [8, 9, 10] (fun x rest i wr => ∃ (j k : Nat) (vk : Vw), i = .int .i64 j ∧ rest = .string (b.extract k b.size) ∧ j ≤ m ∧ k ≤ b.size ∧ Hid (Md (w.heap.size + 2) (w.heap.size + 1) Vw0 w2 (Sn.feed St0 (b.data.toList.take k)).1 (Sn.feed St0 (b.data.toList.take k)).2 x vk wr)) (fun _ _ i _ => m - (RowKit.intOf i).toNat)
  case atStart => exact ⟨0, 0, Vw0, rfl, by rw [HE0.out], Nat.zero_le _, Nat.zero_le _, HM0.out⟩
  case round =>
    obtain ⟨j, k, vk, rfl, rfl, hj, hk, HM⟩ := hrel
    clear HM0 S2
    have hmm : m ≤ 60 := HMS.out
    have hbb : b.size ≤ 3000 := HBS.out
    have HRS : Hid ((b.extract k b.size).size = b.size - k) := by show _ = _; rw [← By.len_size, By.extract_drop, List.length_drop, By.len_size]
    by_cases hlt : j < m
    · obtain ⟨ad, z, rfl, hbl, hz0⟩ := HA.out j hlt
      have hz : wr.cell? (ad.add j) = some (.int .i64 z) := (World.cell?_of_block (a := ad.add j) (by rw [show (ad.add j).block = ad.block by unfold Addr.add; split <;> rfl]; exact (fr_below HBw.out (Nat.le_succ _) HM.out.fr).block _ hbl)).trans hz0
      clear hz0 hbl
      go_wp2_with fail
      generalize hnn : max 0 (min z ((b.size - k : Nat) : Int)) = nn
      have hn0 : 0 ≤ nn ∧ nn ≤ ((b.size - k : Nat) : Int) := by omega
      obtain ⟨n, rfl⟩ : ∃ n : Nat, nn = (n : Int) := ⟨nn.toNat, by omega⟩
      have hnk : k + n ≤ b.size := by omega
      have i0 : (0 : Int) ≤ (n : Int) := by omega
      have i1 : (n : Int) ≤ ((b.size - k : Nat) : Int) := hn0.2
      clear hnn hn0 hz
      rw [Int.toNat_natCast]
      have HNK := Lib.hid hnk
      have HPL := Lib.hid (ext_pre b k n hnk)
      have hps : ((b.extract k b.size).extract 0 n).size ≤ 1048576 := by rw [← By.len_size, HPL.out, List.length_drop, List.length_take, By.len_size]; omega
      have D := Lib.hid (feed_any _ _ _ _ ((b.extract k b.size).extract 0 n) wr HM.out.sc (fun ho => feed_iv _ iv0 ho) (by have := HM.out.fr.size; have := HWS.out; omega) hps)
      have HNX := Lib.hid (feed_more St0 b.data.toList (Nat.le_add_right k n))
      refine D.out.mono ?_
      rintro r w3 hF
      rw [HPL.out] at hF
      obtain ⟨y, x', v', w9, rfl, hrun, hM⟩ := HM.out.fed hF (by
        have h1 := feed_len (Sn.feed St0 (b.data.toList.take k)).1 ((b.data.toList.take (k + n)).drop k)
        have h2 := feed_len St0 (b.data.toList.take k)
        rw [List.length_drop, List.length_take] at h1
        rw [List.length_take] at h2
        have h3 := HLZ.out
        omega)
      have HR := Lib.hid hrun
      have HM2 : Hid (Md (w.heap.size + 2) (w.heap.size + 1) Vw0 w2 (Sn.feed St0 (b.data.toList.take (k + n))).1 (Sn.feed St0 (b.data.toList.take (k + n))).2 x' v' w9) := by
        show Md _ _ _ _ _ _ _ _ _
        rw [HNX.out]; exact hM
      have HEE : Hid ((b.extract k b.size).extract n (b.size - k) = b.extract (k + n) b.size) := by
        have := ext_ext b k n
        rw [HRS.out] at this
        exact this
      clear hF hrun hM D HM HNX hps hnk
      go_wp2_with (at_builtin; refine wpList_append_is rfl _ _ 26 rfl _ _ _ rfl rfl HR.out ?_)
      go_roundw
      case rel => exact ⟨j + 1, k + n, v', by go_num, congrArg Value.string HEE.out, by omega, HNK.out, HM2.out⟩
      case measure => simp [RowKit.intOf]; omega
    · have HPL : Hid ((b.extract k b.size).data.toList = (b.data.toList.take b.size).drop k) := by
        show _ = _
        rw [By.extract_drop, List.take_of_length_le (by rw [HLZ.out]; exact Nat.le_refl _)]
      have hps : (b.extract k b.size).size ≤ 1048576 := by rw [HRS.out]; omega
      have D := Lib.hid (feed_any _ _ _ _ (b.extract k b.size) wr HM.out.sc (fun ho => feed_iv _ iv0 ho) (by have := HM.out.fr.size; have := HWS.out; omega) hps)
      have HNX := Lib.hid (feed_more St0 b.data.toList hk)
      have HTK : Hid (b.data.toList.take b.size = b.data.toList) := by show _ = _; exact List.take_of_length_le (by rw [HLZ.out]; exact Nat.le_refl _)
      clear hps
      go_wp2_with fail
      refine D.out.mono ?_
      rintro r w3 hF
      rw [HPL.out] at hF
      have HFL := Lib.hid (show (Sn.feed St0 b.data.toList).2.length ≤ 3000 by have h1 := feed_len St0 b.data.toList; have h2 := HBS.out; have h3 := HLZ.out; omega)
      obtain ⟨y, x', v', w9, rfl, hrun, hM⟩ := HM.out.fed hF (by
        have h1 := feed_len (Sn.feed St0 (b.data.toList.take k)).1 ((b.data.toList.take b.size).drop k)
        have h2 := feed_len St0 (b.data.toList.take k)
        rw [List.length_drop, List.length_take] at h1
        rw [List.length_take] at h2
        have h3 := HLZ.out
        omega)
      have HR := Lib.hid hrun
      have HM2 : Hid (Md (w.heap.size + 2) (w.heap.size + 1) Vw0 w2 (Sn.feed St0 b.data.toList).1 (Sn.feed St0 b.data.toList).2 x' v' w9) := by
        have K : Md (w.heap.size + 2) (w.heap.size + 1) Vw0 w2 (Sn.feed St0 (b.data.toList.take b.size)).1 (Sn.feed St0 (b.data.toList.take b.size)).2 x' v' w9 := by
          rw [HNX.out]; exact hM
        rw [HTK.out] at K
        exact K
      have hR1 : EvRow W2.heap.size (Imm (w.heap.size + 2) w.heap.size v2) w9 x1 (Sn.feed St0 b.data.toList).2 := HR2.out.put (fun b _ hlt _ => HM2.out.fr.block b hlt (fun hm => by have := vw0_only hm; have := HZ2.out; omega)) (fun _ _ hi => hi.keep fun b hb hlt => HM2.out.fr.block b hlt (fun hm => by have := vw0_only hm; have := hb.1; omega))
      have EVS := Lib.hid (events_yes _ _ _ _ _ _ _ w9 hR1 HM2.out.row (by have := HFL.out; omega))
      have HKP : Hid (w9.heap[w.heap.size]? = w2.heap[w.heap.size]?) := HM2.out.fr.block _ (by have := HWS.out; omega) (fun hm => by have := vw0_only hm; omega)
      obtain ⟨e1, oa, oc, e3⟩ := HS2.out.told
      obtain ⟨f1, pa, pc, f3⟩ := HM2.out.sc.told
      have e1 := (World.cell?_of_block (a := ⟨w.heap.size, 6, none⟩) HKP.out).trans e1
      have e3 := (World.cell?_of_block (a := ⟨w.heap.size, 3, none⟩) HKP.out).trans e3
      have l1 := World.block_lt_of_cell? w9 _ e1
      have l2 := World.block_lt_of_cell? w9 _ f1
      have HBw9 := Lib.hid (fr_below HBw.out (Nat.le_succ _) HM2.out.fr)
      have HG9 := Lib.hid (gd_fr HG2.out HM2.out.fr (by have := HGL.out; omega))
      clear hF hrun hM D HM HNX hR1
      go_wp2_with (at_builtin; refine wpList_append_is rfl _ _ 26 rfl _ _ _ rfl rfl HR.out ?_)
      refine EVS.out.mono ?_
      rintro r w4 ⟨rfl, hb⟩
      have e1 := (hb.cell (p := ⟨w.heap.size, 6, none⟩) l1).trans e1
      have e3 := (hb.cell (p := ⟨w.heap.size, 3, none⟩) l1).trans e3
      have f1 := (hb.cell (p := ⟨w.heap.size + 1, 6, none⟩) l2).trans f1
      have f3 := (hb.cell (p := ⟨w.heap.size + 1, 3, none⟩) l2).trans f3
      have HBw := Lib.hid (HBw9.out.trans (hb.mono HBw9.out.size))
      have HG2 := Lib.hid (HG9.out.below hb)
      clear hb EVS HR
      go_wp2_with fail
      refine (err_any _ _ w4 e1).mono ?_
      rintro r w5 ⟨rfl, rfl⟩
      go_wp2_with fail
      refine (err_any _ _ w4 f1).mono ?_
      rintro r w5 ⟨rfl, rfl⟩
      go_wp2_with fail
      refine (depth_any _ _ _ _ w4 e3).mono ?_
      rintro r w5 ⟨rfl, rfl⟩
      go_wp2_with fail
      refine (depth_any _ _ _ _ w4 f3).mono ?_
      rintro r w5 ⟨rfl, rfl⟩
      go_wp2_with fail
      refine (LV.out _ HG2.out).mono ?_
      rintro r w5 ⟨rfl, hb⟩
      have HB5 := Lib.hid (HBw.out.trans (hb.mono HBw.out.size))
      clear hb
      go_wp2_with fail
      go_ret
      exact ⟨rfl, HB5.out⟩
end Go.Proofs.YtbpgnecfjonnbaaGreatDoor
