/- The walk of ScanBack: elements written in a stream are read as they are. Condition: strconv.ErrSyntax holds an error. -/
import Derived.Test.YthdfcnhnnfmogaaGreatDoorVa
namespace Go.Proofs.YthdfcnhnnfmogaaGreatDoor
open Go.RowKit Go.Lib Go.Shelf Tg Sn

theorem ev_mid (l : List El) {i : Nat} (hi : i < l.length) (h : i + 1 < (⟨1, eS, 0⟩ :: ((l.map fun e => (⟨2, e, 0⟩ : Ev)) ++ [⟨3, El0, 0⟩]) : List Ev).length) : (⟨1, eS, 0⟩ :: ((l.map fun e => (⟨2, e, 0⟩ : Ev)) ++ [⟨3, El0, 0⟩]) : List Ev)[i + 1]'h = ⟨2, l[i], 0⟩ := by
  rw [List.getElem_cons_succ, List.getElem_append_left (by simpa using hi), List.getElem_map]
theorem ev_last (l : List El) (h : l.length + 1 < (⟨1, eS, 0⟩ :: ((l.map fun e => (⟨2, e, 0⟩ : Ev)) ++ [⟨3, El0, 0⟩]) : List Ev).length) : (⟨1, eS, 0⟩ :: ((l.map fun e => (⟨2, e, 0⟩ : Ev)) ++ [⟨3, El0, 0⟩]) : List Ev)[l.length + 1]'h = ⟨3, El0, 0⟩ := by
  rw [List.getElem_cons_succ, List.getElem_append_right (by simp)]
  simp
theorem rt_sp {n : Nat} {e : El} (h : Rt n e) : e.sp ≠ Sn.mk [] := by
  cases h with
  | mk _ sp nm atr tx ks h1 h2 h3 h4 h5 h6 h7 h8 h9 h10 => exact fun e => h3 (by show sp.size = 0; rw [show sp = Sn.mk [] from e]; rfl)
set_option maxRecDepth 100000 in
set_option maxHeartbeats 8000000 in
theorem back_walk (l : List El) (z : Int) (w : World) (a : Option Addr) (lc : Nat) (hl : l.length ≤ maxLen) (hk : KsIn w.heap.size w a l) (hG : Gd w) :
    Calls Tryz.prog 4 #[.slice a l.length lc, .int .i64 z] w fun e w' => e = .returned (.bool true) ∧ Below w.heap.size w w' := by
  have HG := Lib.hid hG
  have HGL := Lib.hid hG.lt
  have LV := Lib.hid (fun W (hg : Gd W) => live_any W hg)
  have HKS := Lib.hid hk
  have hln : l.length ≤ 9223372036854775807 := hl
  have HW0 : Hid (Below w.heap.size w w) := Below.refl _ _
  clear hG hk hl
  go_enter Tryz.func4, Tryz.ntmps4
  go_wp2_with fail
  go_loopw [5, 6] (fun s i wr => ∃ (j : Nat) (m : Int), i = .int .i64 j ∧ s = .int .i64 m ∧ j ≤ l.length ∧ j ≤ 61 ∧ 0 ≤ m ∧ m ≤ 1125899907000000 ∧ Hid (m ≤ 3000 → (wts (l.take j) : Int) = m) ∧ Hid (Below w.heap.size w wr)) (fun _ i _ => l.length - (RowKit.intOf i).toNat)
  case atStart => exact ⟨0, 0, rfl, rfl, Nat.zero_le _, Nat.zero_le _, by decide, by decide, fun _ => by simp [wts], HW0.out⟩
  case round =>
    obtain ⟨j, m, rfl, rfl, hj, hj61, hm0, hm1, HM, HB⟩ := hrel
    by_cases hgo : j < l.length ∧ j ≤ 60 ∧ m ≤ 3000
    · obtain ⟨hjl, hj60, hm3⟩ := hgo
      obtain ⟨b, o, a1, c1, a2, c2, rfl, hb, hf5, hkin⟩ := (HKS.out.below HB.out) j hjl
      obtain ⟨y0, y1, y2, y3, y4⟩ := hf5
      have HC := Lib.hid (weight_any l[j] 0 w.heap.size _ _ hkin HB.out.size (by decide) (by decide))
      have HT := Lib.hid (wts_take hjl)
      clear hkin hb
      go_wp2_with fail
      refine HC.out.mono ?_
      rintro r w2 ⟨⟨q, rfl, hq0, hq1, hq2⟩, hbb⟩
      have HB2 := Lib.hid (HB.out.trans (hbb.mono HB.out.size))
      have HM2 : Hid (m + q ≤ 3000 → (wts (l.take (j + 1)) : Int) = m + q) := by
        intro h
        have h1 := HM.out (by omega)
        have h2 := hq2 (by omega)
        have h3 := HT.out
        omega
      have hr1 : 0 ≤ m + q := by omega
      have hr2 : m + q ≤ 1125899907000000 := by omega
      clear hbb HC y0 y1 y2 y3 y4 HT HM hq2
      go_wp2_with fail
      go_roundw
      case rel => exact ⟨j + 1, m + q, by go_num, rfl, by omega, by omega, hr1, hr2, HM2.out, HB2.out⟩
      case measure => simp [RowKit.intOf]; omega
    · have HG1 := Lib.hid (HG.out.below HB.out)
      by_cases hlong : 60 < l.length
      · have t4 : decide ((60 : Int) < (l.length : Int)) = true := by rw [decide_eq_true_iff]; omega
        by_cases hj60 : j ≤ 60
        · by_cases hjl : j < l.length
          · have hm3 : 3000 < m := by
              rcases Int.lt_or_le 3000 m with h | h
              · exact h
              · exact absurd ⟨hjl, hj60, h⟩ hgo
            clear hgo HM
            go_wp2_with fail
            refine (LV.out _ (HG1.out)).mono ?_
            rintro r wz ⟨rfl, hb⟩
            have HBZ := Lib.hid (HB.out.trans (hb.mono HB.out.size))
            clear hb
            go_wp2_with fail
            go_ret
            exact ⟨rfl, HBZ.out⟩
          · exact absurd hj60 (by omega)
        · have hjl : j < l.length ∨ ¬ j < l.length := Nat.lt_or_ge j l.length |>.imp id (by omega)
          clear hgo HM
          rcases hjl with hjl | hjl
          · go_wp2_with fail
            refine (LV.out _ (HG1.out)).mono ?_
            rintro r wz ⟨rfl, hb⟩
            have HBZ := Lib.hid (HB.out.trans (hb.mono HB.out.size))
            clear hb
            go_wp2_with fail
            go_ret
            exact ⟨rfl, HBZ.out⟩
          · go_wp2_with fail
            refine (LV.out _ (HG1.out)).mono ?_
            rintro r wz ⟨rfl, hb⟩
            have HBZ := Lib.hid (HB.out.trans (hb.mono HB.out.size))
            clear hb
            go_wp2_with fail
            go_ret
            exact ⟨rfl, HBZ.out⟩
      · have t4 : decide ((60 : Int) < (l.length : Int)) = false := by rw [decide_eq_false_iff_not]; omega
        have hj60 : j ≤ 60 := by omega
        by_cases hm3 : 3000 < m
        · have t5 : decide ((3000 : Int) < m) = true := decide_eq_true hm3
          clear hgo HM
          by_cases hjl : j < l.length
          · go_wp2_with fail
            refine (LV.out _ (HG1.out)).mono ?_
            rintro r wz ⟨rfl, hb⟩
            have HBZ := Lib.hid (HB.out.trans (hb.mono HB.out.size))
            clear hb
            go_wp2_with fail
            go_ret
            exact ⟨rfl, HBZ.out⟩
          · go_wp2_with fail
            refine (LV.out _ (HG1.out)).mono ?_
            rintro r wz ⟨rfl, hb⟩
            have HBZ := Lib.hid (HB.out.trans (hb.mono HB.out.size))
            clear hb
            go_wp2_with fail
            go_ret
            exact ⟨rfl, HBZ.out⟩
        · have hje : ¬ j < l.length := fun h => hgo ⟨h, hj60, by omega⟩
          have t5 : decide ((3000 : Int) < m) = false := decide_eq_false hm3
          have HWS : Hid (wts l ≤ 3000) := by
            have := HM.out (by omega)
            rw [List.take_of_length_le (by omega)] at this
            show _ ≤ _
            omega
          clear hgo HM
          go_wp2_with fail
          have hl60 : l.length ≤ 60 := by omega
          have HWK : Hid (∀ x ∈ l, wt x ≤ 3000) := fun x hx => by have := wts_mem hx; have := HWS.out; omega
          clear hj hj61 hm0 hm1 hm3 hlong hj60 hje t4 t5 HG1
          go_loopw [7, 8] (fun t i wr => ∃ (j : Nat) (T : ByteArray), i = .int .i64 j ∧ t = .string T ∧ j ≤ l.length ∧ T.size ≤ 13 + j * 16385 ∧ Hid (T.data.toList = hdT ++ backT (l.take j)) ∧ Hid (∀ e ∈ l.take j, Rt 1 e ∧ (put e (Sn.mk [122])).length ≤ 16384) ∧ Hid (Below w.heap.size w wr)) (fun _ i _ => l.length - (RowKit.intOf i).toNat)
          case atStart => exact ⟨0, _, rfl, rfl, Nat.zero_le _, Nat.le_refl _, rfl, fun e he => absurd he (by simp), HB.out⟩
          case round =>
            clear HB
            obtain ⟨j, T, rfl, rfl, hj, hT, HT, HR, HB⟩ := hrel
            by_cases hjl : j < l.length
            · obtain ⟨b, o, a1, c1, a2, c2, rfl, hb, hf5, hkin⟩ := (HKS.out.below HB.out) j hjl
              obtain ⟨y0, y1, y2, y3, y4⟩ := hf5
              have HC := Lib.hid (is_any l[j] w.heap.size _ _ hkin HB.out.size (HWK.out _ (List.getElem_mem hjl)))
              have HKI := Lib.hid hkin
              clear hkin hb
              go_wp2_with fail
              refine HC.out.mono ?_
              rintro r w2 ⟨⟨yes, rfl, hy⟩, hbb⟩
              have HB2 := Lib.hid (HB.out.trans (hbb.mono HB.out.size))
              have HY := Lib.hid hy
              have HBB := Lib.hid hbb
              clear hbb HC hy
              cases yes with
              | false =>
                have HG2 := Lib.hid (HG.out.below HB2.out)
                go_wp2_with fail
                refine (LV.out _ (HG2.out)).mono ?_
                rintro r wz ⟨rfl, hb⟩
                have HBZ := Lib.hid (HB2.out.trans (hb.mono HB2.out.size))
                clear hb
                go_wp2_with fail
                go_ret
                exact ⟨rfl, HBZ.out⟩
              | true =>
                obtain ⟨hrt, hlen⟩ := HY.out rfl
                have HRT := Lib.hid hrt
                have hne : l[j].sp ≠ Sn.mk [] := rt_sp hrt
                have HLZ : Hid ((put l[j] (Sn.mk [122])).length ≤ 16384) := Nat.le_trans (put_less hne _) hlen
                clear hne hrt hlen HY
                have z0 := (HBB.out.cell (World.block_lt_of_cell? _ _ y0)).trans y0
                have z1 := (HBB.out.cell (World.block_lt_of_cell? _ _ y1)).trans y1
                have z2 := (HBB.out.cell (World.block_lt_of_cell? _ _ y2)).trans y2
                have z3 := (HBB.out.cell (World.block_lt_of_cell? _ _ y3)).trans y3
                have z4 := (HBB.out.cell (World.block_lt_of_cell? _ _ y4)).trans y4
                have HP : Hid (Calls Tryz.prog 17 #[_, .string ⟨#[122]⟩] w2 fun r w' => r = .returned (.string (Sn.mk (put l[j] (Sn.mk [122])))) ∧ Below w2.heap.size w2 w') := (rPut_any l[j] w.heap.size w2 _ ⟨#[122]⟩ (HKI.out.stay (HBB.out.mono HB.out.size)) HB2.out.size (HWK.out _ (List.getElem_mem hjl)))
                have hpz : (Sn.mk (put l[j] (Sn.mk [122]))).size ≤ 16384 := by rw [Sn.mk_size]; exact HLZ.out
                have HTK := Lib.hid (backT_take hjl)
                have HRN : Hid (∀ e ∈ l.take (j + 1), Rt 1 e ∧ (put e (Sn.mk [122])).length ≤ 16384) := by
                  intro e he
                  rw [List.take_succ_eq_append_getElem hjl, List.mem_append, List.mem_singleton] at he
                  rcases he with he | rfl
                  · exact HR.out e he
                  · exact ⟨HRT.out, HLZ.out⟩
                have HPL : Hid ((Sn.mk (put l[j] (Sn.mk [122]))).data.toList = put l[j] (Sn.mk [122])) := Sn.mk_list _
                generalize put l[j] (Sn.mk [122]) = pl at hpz HTK HP HPL
                generalize Sn.mk pl = P at hpz HP HPL
                clear HBB y0 y1 y2 y3 y4 HB HKI HR HRT HLZ
                go_wp2_with fail
                refine HP.out.mono ?_
                rintro r w3 ⟨rfl, hb3⟩
                have HB3 := Lib.hid (HB2.out.trans (hb3.mono HB2.out.size))
                have HTN : Hid ((T ++ P ++ ⟨#[32]⟩).data.toList = hdT ++ backT (l.take (j + 1))) := by
                  show _ = _
                  rw [By.append_list, By.append_list, HT.out, HPL.out, HTK.out]
                  simp
                have HTZ : Hid ((T ++ P ++ ⟨#[32]⟩).size ≤ 13 + (j + 1) * 16385) := by
                  show _ ≤ _
                  rw [ByteArray.size_append, ByteArray.size_append]
                  have : (⟨#[32]⟩ : ByteArray).size = 1 := rfl
                  omega
                clear hb3 HP z0 z1 z2 z3 z4
                go_wp2_with fail
                exact ⟨⟨j + 1, _, by go_num, rfl, by omega, HTZ.out, HTN.out, HRN.out, HB3.out⟩, by simp [RowKit.intOf]; omega⟩
            · obtain rfl : j = l.length := by omega
              have hts : T.size ≤ 1000000 := by omega
              have HNW := Lib.hid (new_any)
              rw [List.take_length] at HT HR
              go_wp2_with fail
              have HGr := Lib.hid (HG.out.below HB.out)
              have S1 := Lib.hid (scn_new HGr.out)
              have HB3 := Lib.hid (HB.out.alloc HB.out.size (.cells (scells Vw0 St0) 57))
              have HG3 := Lib.hid (HGr.out.below ((Below.refl wr.heap.size wr).alloc (Nat.le_refl _) (.cells (scells Vw0 St0) 57)))
              have HZ3 : Hid ((wr.alloc (.cells (scells Vw0 St0) 57)).heap.size = wr.heap.size + 1) := by show _ = _; simp
              have HGP : Hid (3 ≠ wr.heap.size) := by have := HGr.out.lt; show _ ≠ _; omega
              have HNP : Hid (w.heap.size ≤ wr.heap.size) := HB.out.size
              have HTT : Hid ((T ++ ⟨#[60, 47, 115, 62]⟩).data.toList = hdT ++ (backT l ++ [60, 47, 115, 62])) := by
                show _ = _
                rw [By.append_list, HT.out]
                simp
              have htz : (T ++ ⟨#[60, 47, 115, 62]⟩).size ≤ 1000004 := by
                rw [ByteArray.size_append]
                have : (⟨#[60, 47, 115, 62]⟩ : ByteArray).size = 4 := rfl
                omega
              have HEV := Lib.hid (all_fed l HR.out)
              refine (HNW.out _).mono ?_
              rintro r w3 ⟨rfl, rfl⟩
              generalize wr.alloc (.cells (scells Vw0 St0) 57) = W3 at S1 HB3 HG3 HZ3 ⊢
              generalize wr.heap.size = P at S1 HZ3 HGP HNP ⊢
              generalize T ++ ⟨#[60, 47, 115, 62]⟩ = TT at HTT htz ⊢
              clear HB HT hT HR hts HGr HNW hjl hj
              go_wp2_with fail
              generalize hnn : max 0 (min z (TT.size : Int)) = nn
              have hn0 : 0 ≤ nn ∧ nn ≤ (TT.size : Int) := by omega
              obtain ⟨n, rfl⟩ : ∃ n : Nat, nn = (n : Int) := ⟨nn.toNat, by omega⟩
              have hnk : n ≤ TT.size := by omega
              have i0 : (0 : Int) ≤ (n : Int) := by omega
              have i1 : (n : Int) ≤ (TT.size : Int) := hn0.2
              clear hnn hn0
              rw [Int.toNat_natCast]
              have HPL : Hid ((TT.extract 0 n).data.toList = TT.data.toList.take n) := by show _ = _; rw [By.extract_cut]; rfl
              have HPL2 : Hid ((TT.extract n TT.size).data.toList = TT.data.toList.drop n) := By.extract_drop TT n
              have HLT := Lib.hid (By.len_size TT)
              have D := Lib.hid (feed_md (P + 1) P Vw0 St0 (TT.extract 0 n) W3 S1.out (fun _ => iv0) (by rw [HZ3.out]; omega) (by rw [ByteArray.size_extract]; omega))
              refine D.out.mono ?_
              rintro r w6 ⟨v6, x1, rfl, hM⟩
              rw [HPL.out] at hM
              have HM := Lib.hid hM
              have D2 := Lib.hid (feed_any (P + 1) P v6 _ (TT.extract n TT.size) w6 HM.out.sc (fun ho => feed_iv _ iv0 ho) (by have := HM.out.fr.size; rw [HZ3.out] at this; omega) (by rw [ByteArray.size_extract]; omega))
              clear hM D
              go_wp2_with fail
              refine D2.out.mono ?_
              rintro r w7 hF
              rw [HPL2.out] at hF
              obtain ⟨y, x', v', w9, rfl, hrun, hM2⟩ := HM.out.fed hF (by
                have h1 := feed_len St0 (TT.data.toList.take n)
                have h2 := feed_len (Sn.feed St0 (TT.data.toList.take n)).1 (TT.data.toList.drop n)
                rw [List.length_take] at h1
                rw [List.length_drop] at h2
                have h3 := HLT.out
                omega)
              have HRUN := Lib.hid hrun
              have hM3 : Md (P + 1) P Vw0 W3 (Sn.feed St0 TT.data.toList).1 (Sn.feed St0 TT.data.toList).2 x' v' w9 := by
                have e := Sn.feed_append St0 (TT.data.toList.take n) (TT.data.toList.drop n)
                rw [List.take_append_drop] at e
                rw [e]
                exact hM2
              rw [HTT.out] at hM3
              have hrow := hM3.row
              rw [HEV.out.1] at hrow
              obtain ⟨g, gc, rfl, hA⟩ := hrow.all (by simp)
              have HLen : Hid ((⟨1, eS, 0⟩ :: ((l.map fun e => (⟨2, e, 0⟩ : Ev)) ++ [⟨3, El0, 0⟩]) : List Ev).length = l.length + 2) := by show _ = _; simp
              rw [HLen.out] at HRUN
              obtain ⟨q1, pa, pc, q3⟩ := hM3.sc.told
              rw [HEV.out.2.1] at q1
              rw [HEV.out.2.2] at q3
              have HQ1 := Lib.hid q1
              have HQ3 := Lib.hid q3
              have HGn := Lib.hid (gd_fr HG3.out hM3.fr HGP.out)
              have HBn : Hid (Below w.heap.size w w9) := fr_low HB3.out HNP.out hM3.fr
              have k0 : w9.cell? ⟨g, 0, none⟩ = some (.int .i64 1) := by
                obtain ⟨_, _, _, _, _, h, _⟩ := hA 0 (by simp)
                exact h
              have kL : w9.cell? ⟨g, (l.length + 1) * 7, none⟩ = some (.int .i64 3) := by
                obtain ⟨_, _, _, _, _, h, _⟩ := hA (l.length + 1) (by rw [HLen.out]; omega)
                rw [ev_last] at h
                exact h
              have HKI : Hid (∀ i (hi : i < l.length), ∃ v0 v1 v2 v3 v4, w9.cell? ⟨g, (i + 1) * 7, none⟩ = some (.int .i64 2) ∧ w9.cell? ⟨g, (i + 1) * 7 + 1, none⟩ = some v0 ∧ w9.cell? ⟨g, (i + 1) * 7 + 2, none⟩ = some v1 ∧ w9.cell? ⟨g, (i + 1) * 7 + 3, none⟩ = some v2 ∧ w9.cell? ⟨g, (i + 1) * 7 + 4, none⟩ = some v3 ∧ w9.cell? ⟨g, (i + 1) * 7 + 5, none⟩ = some v4 ∧ InS (Imm (P + 1) P v') w9 (l[i]'hi) (.agg #[v0, v1, v2, v3, v4])) := by
                intro i hi
                obtain ⟨v0, v1, v2, v3, v4, h, h0, h1, h2, h3, h4, _, h6⟩ := hA (i + 1) (by rw [HLen.out]; omega)
                rw [ev_mid l hi] at h h6
                exact ⟨v0, v1, v2, v3, v4, h, h0, h1, h2, h3, h4, h6⟩
              clear hA hrow hM3 hM2 HM D2 hF hrun q1 q3 HEV S1 HB3 HG3 HZ3 HTT HPL HPL2 HLT htz
              go_wp2_with (at_builtin; refine wpList_append_is rfl _ _ 26 rfl _ _ _ rfl rfl HRUN.out ?_)
              clear k0 kL HRUN
              have HX0 : Hid (Below w9.heap.size w9 w9) := Below.refl _ _
              go_loopw [12] (fun i wx => ∃ k : Nat, i = .int .i64 k ∧ k ≤ l.length ∧ Hid (Below w9.heap.size w9 wx)) (fun i _ => l.length - (RowKit.intOf i).toNat)
              case atStart => exact ⟨0, rfl, Nat.zero_le _, HX0.out⟩
              case round =>
                clear HX0
                obtain ⟨k, rfl, hk, HX⟩ := hrel
                have HBx := Lib.hid (HBn.out.trans (HX.out.mono HBn.out.size))
                by_cases hkl : k < l.length
                · obtain ⟨v0, v1, v2, v3, v4, x0, x1, x2, x3, x4, x5, hI0⟩ := HKI.out k hkl
                  have x0 := (HX.out.cell (World.block_lt_of_cell? _ _ x0)).trans x0
                  have x1 := (HX.out.cell (World.block_lt_of_cell? _ _ x1)).trans x1
                  have x2 := (HX.out.cell (World.block_lt_of_cell? _ _ x2)).trans x2
                  have x3 := (HX.out.cell (World.block_lt_of_cell? _ _ x3)).trans x3
                  have x4 := (HX.out.cell (World.block_lt_of_cell? _ _ x4)).trans x4
                  have x5 := (HX.out.cell (World.block_lt_of_cell? _ _ x5)).trans x5
                  have hI := hI0.keep fun b _ hlt => HX.out.block b hlt
                  obtain ⟨zsp, znm, zaa, zan, zac, ztx, zka, zkn, zkc, rfl, rfl, rfl, rfl, rfl⟩ := hI0.shape
                  obtain ⟨b, o, a1, c1, a2, c2, rfl, hb, hf5, hkin⟩ := (HKS.out.below HBx.out) k hkl
                  obtain ⟨y0, y1, y2, y3, y4⟩ := hf5
                  have HSX : Hid (∀ x : Ext wr, Calls Tryz.prog 18 #[.agg #[.string zsp, .string znm, .slice zaa zan zac, .string ztx, .slice zka zkn zkc], _] x.to fun r w' => r = .returned (.bool true) ∧ Below x.to.heap.size x.to w') := fun x =>
                    same_yes l[k] x.to.heap.size x.to _ _ (hI.keep fun b _ hlt => x.below.block b hlt).toIn ((hkin.stay (x.below.mono HBx.out.size)).mono (Nat.le_trans HBx.out.size x.below.size)) (Nat.le_refl _)
                  have g0 : ∀ x : Ext wr, x.to.cell? ⟨g, (k + 1) * 7, none⟩ = _ := fun x => ext_cell x x0
                  have g1 : ∀ x : Ext wr, x.to.cell? ⟨g, (k + 1) * 7 + 1, none⟩ = _ := fun x => ext_cell x x1
                  have g2 : ∀ x : Ext wr, x.to.cell? ⟨g, (k + 1) * 7 + 2, none⟩ = _ := fun x => ext_cell x x2
                  have g3 : ∀ x : Ext wr, x.to.cell? ⟨g, (k + 1) * 7 + 3, none⟩ = _ := fun x => ext_cell x x3
                  have g4 : ∀ x : Ext wr, x.to.cell? ⟨g, (k + 1) * 7 + 4, none⟩ = _ := fun x => ext_cell x x4
                  have g5 : ∀ x : Ext wr, x.to.cell? ⟨g, (k + 1) * 7 + 5, none⟩ = _ := fun x => ext_cell x x5
                  have f0 : ∀ x : Ext wr, x.to.cell? _ = _ := fun x => ext_cell x y0
                  have f1 : ∀ x : Ext wr, x.to.cell? _ = _ := fun x => ext_cell x y1
                  have f2 : ∀ x : Ext wr, x.to.cell? _ = _ := fun x => ext_cell x y2
                  have f3 : ∀ x : Ext wr, x.to.cell? _ = _ := fun x => ext_cell x y3
                  have f4 : ∀ x : Ext wr, x.to.cell? _ = _ := fun x => ext_cell x y4
                  have hs := extSome wr
                  clear x0 x1 x2 x3 x4 x5 y0 y1 y2 y3 y4 hI hI0 hkin hb
                  go_wp2_with fail
                  refine ext_region (by kernel_rfl) (by kernel_rfl) ?_
                  repeat (go_big_quiet_step ((go_at_call 18; with_reducible exact ext_call _ (HSX.out _))))
                  refine wpQuiet_nil ?_
                  rintro _ ⟨x, hx⟩
                  subst hx
                  have HX2 := Lib.hid (HX.out.trans (x.below.mono HX.out.size))
                  clear g0 g1 g2 g3 g4 g5 f0 f1 f2 f3 f4 hs HSX HX HBx
                  generalize x.to = W7 at HX2 ⊢
                  clear x
                  go_wp2_with fail
                  go_roundw
                  case rel => exact ⟨k + 1, by go_num, by omega, HX2.out⟩
                  case measure => simp [RowKit.intOf]; omega
                · obtain rfl : k = l.length := by omega
                  have e1 := (HX.out.cell (World.block_lt_of_cell? _ _ HQ1.out)).trans HQ1.out
                  have e3 := (HX.out.cell (World.block_lt_of_cell? _ _ HQ3.out)).trans HQ3.out
                  have HGx := Lib.hid (HGn.out.below HX.out)
                  go_wp2_with fail
                  refine (err_any _ _ wr e1).mono ?_
                  rintro r w10 ⟨rfl, rfl⟩
                  go_wp2_with fail
                  refine (num_any _ wr).mono ?_
                  rintro r w10 ⟨rfl, rfl⟩
                  go_wp2_with fail
                  refine (depth_any _ _ _ _ wr e3).mono ?_
                  rintro r w10 ⟨rfl, rfl⟩
                  go_wp2_with fail
                  refine (LV.out _ HGx.out).mono ?_
                  rintro r wz ⟨rfl, hb⟩
                  have HBZ := Lib.hid (HBx.out.trans (hb.mono HBx.out.size))
                  clear hb
                  go_wp2_with fail
                  go_ret
                  exact ⟨rfl, HBZ.out⟩
end Go.Proofs.YthdfcnhnnfmogaaGreatDoor
