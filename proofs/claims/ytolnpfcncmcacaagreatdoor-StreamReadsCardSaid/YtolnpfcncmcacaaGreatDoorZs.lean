/- The walk of StreamReads: what is sent is read by the other side as it is. Condition: strconv.ErrSyntax holds an error. -/
import Derived.Test.YtolnpfcncmcacaaGreatDoorZr
set_option maxRecDepth 100000
set_option maxHeartbeats 8000000
namespace Go.Proofs.YtolnpfcncmcacaaGreatDoor
open Go.RowKit Go.Lib Go.Shelf Tg Sn
theorem reads_walk (d s : ByteArray) (l : List El) (a : Option Addr) (lc : Nat) (w : World) (h1 : d.size ≤ 140737488351232) (h2 : s.size ≤ 140737488351232) (hl : l.length ≤ maxLen) (hk : KsIn w.heap.size w a l) (hG : Gd w) :
   Calls Tryz.prog 5 #[.string d, .string s, .slice a l.length lc] w fun r w' => r = .returned (.bool true) ∧ Below w.heap.size w w' := by
 obtain ⟨i0, hi0, hz0, hz1, hz2⟩ := info_parts infoEv
 have HKS := Lib.hid hk
 have HG := Lib.hid hG
 have hln : l.length ≤ 9223372036854775807 := hl
 have HW0 : Hid (Below w.heap.size w w) := Below.refl _ _
 have HE0 : Hid (EtRow w.heap.size w w (.slice none 0 0) (l.take 0)) := EtRow.nil _ _ _
 clear hk hl hG
 go_enter Tryz.func5, Tryz.ntmps5
 go_wp2_with fail
 go_loopw [7, 8] (fun v i wr => ∃ (j : Nat) (a2 : Option Addr) (c2 : Nat), i = .int .i64 j ∧ v = .slice a2 j c2 ∧ j ≤ l.length ∧ j ≤ 41 ∧ Hid (EtRow w.heap.size w wr (.slice a2 j c2) (l.take j)) ∧ Hid (Below w.heap.size w wr)) (fun _ i _ => l.length - (RowKit.intOf i).toNat)
 case atStart => exact ⟨0, none, 0, rfl, rfl, Nat.zero_le _, Nat.zero_le _, HE0.out, HW0.out⟩
 case round =>
   clear HE0 HW0
   obtain ⟨j, a2, c2, rfl, rfl, hj, hj41, HE, HB⟩ := hrel
   by_cases hgo : j < l.length ∧ j ≤ 40
   · obtain ⟨hjl, hj40⟩ := hgo
     obtain ⟨b, o, aA, cA, aK, cK, rfl, hb, hf5, hkin⟩ := (HKS.out.below HB.out) j hjl
     obtain ⟨y0, y1, y2, y3, y4⟩ := hf5
     have hkin0 := (HKS.out j hjl)
     have HIN : Hid (In w.heap.size w l[j] (.agg #[.string l[j].sp, .string l[j].nm, .slice aA l[j].atr.length cA, .string l[j].tx, .slice aK l[j].ks.length cK])) := by
       obtain ⟨b', o', a1', c1', a2', c2', hab, hb', hf', hin'⟩ := hkin0
       simp only [Option.some.injEq, Addr.mk.injEq, and_true] at hab
       obtain ⟨rfl, rfl⟩ := hab
       obtain ⟨y0', y1', y2', y3', y4'⟩ := hf'
       have q2 := y2.symm.trans ((HB.out.cell (p := ⟨b, o + j * 5 + 2, none⟩) hb).trans y2')
       have q4 := y4.symm.trans ((HB.out.cell (p := ⟨b, o + j * 5 + 4, none⟩) hb).trans y4')
       simp only [Option.some.injEq, Value.slice.injEq, true_and] at q2 q4
       obtain ⟨rfl, rfl⟩ := q2
       obtain ⟨rfl, rfl⟩ := q4
       exact hin'
     have HT := Lib.hid (List.take_succ_eq_append_getElem hjl)
     have hlj : (l.take j).length = j := by rw [List.length_take]; omega
     generalize l[j] = e at y0 y1 y2 y3 y4 HIN HT
     obtain ⟨xs, hx, hxl, hp⟩ := HE.out
     rw [hlj] at hx
     have HXS := Lib.hid hx
     have HPP := Lib.hid hp
     have HXL := Lib.hid hxl
     have hws : w.heap.size ≤ wr.heap.size := HB.out.size
     clear hkin hkin0 hb hx hp hxl HE
     go_wp2_with (at_builtin; refine wpList_append_lies _ rfl _ _ 27 rfl w.heap.size 50 i0 _ 7 112 Tryz.underlying27 hi0 hz0 hz1 hz2 rfl (by decide) _ j xs rfl (HXS.out.alloc _) ⟨wr.heap.size, 0, none⟩ 1 1 [.int .i64 0, .string e.sp, .string e.nm, .slice aA e.atr.length cA, .string e.tx, .slice aK e.ks.length cK, .int .i64 0] rfl rfl (World.news_of_block (cs := #[.int .i64 0, .string e.sp, .string e.nm, .slice aA e.atr.length cA, .string e.tx, .slice aK e.ks.length cK, .int .i64 0]) (t := 50) (fr := (0, 0)) (heap_alloc_new wr _)) (by simp [Value.oneCell']) (by decide) (by unfold maxLen; omega) (by omega) (by simp; omega) (wr.heap.size + 1) (by simp) ?_; intro g cap w3 hown hgrow hat hlt3)
     have HB3 := Lib.hid ((HB.out.alloc HB.out.size (.cells #[.int .i64 0, .string e.sp, .string e.nm, .slice aA e.atr.length cA, .string e.tx, .slice aK e.ks.length cK, .int .i64 0] 50)).grown hgrow (by simp; omega) fun b e => (HXS.out.lt b e).1)
     have HE3 : Hid (EtRow w.heap.size w w3 (.slice (some ⟨g, 0, none⟩) (j + 1) cap) (l.take (j + 1))) := by
       show EtRow _ _ _ _ _
       rw [HT.out]
       exact EtRow.snoc HXL.out HPP.out (by rw [hlj]; exact hown) HIN.out
     clear hown hgrow hat hlt3 y0 y1 y2 y3 y4
     go_wp2_with fail
     go_roundw
     case rel => exact ⟨j + 1, _, _, by go_num, rfl, by omega, by omega, HE3.out, HB3.out⟩
     case measure => simp [RowKit.intOf]; omega
   · have hlj : (l.take j).length = j := by rw [List.length_take]; omega
     have hel : (evE (l.take j)).length = j := by rw [evE, List.length_map, hlj]
     have SM : Hid (Calls Tryz.prog 14 #[.slice a2 j c2] wr (SmP (evE (l.take j)) wr)) := by
       have hE := HE.out
       have e1 : EtRow w.heap.size w wr (.slice a2 (l.take j).length c2) (l.take j) := by rw [hlj]; exact hE
       have := small8_any (evE (l.take j)) a2 c2 wr (by rw [hel]; unfold maxLen; omega) (e1.etIn HB.out)
       rw [hel] at this
       exact this
     have HGO := Lib.hid hgo
     clear HE
     by_cases hbig : 6000 < d.size + s.size
     · have t1 : decide ((6000 : Int) < (d.size : Int) + (s.size : Int)) = true := by rw [decide_eq_true_iff]; omega
       clear hbig SM
       by_cases hjl : j < l.length
       · have hj40 : ¬ j ≤ 40 := fun h => hgo ⟨hjl, h⟩
         clear hgo
         go_wp2_with fail
         refine (live8_any _).mono ?_
         rintro r wz ⟨rfl, hb⟩
         have HBZ := Lib.hid (HB.out.trans (hb.mono HB.out.size))
         clear hb
         go_wp2_with fail
         go_ret
         exact ⟨rfl, HBZ.out⟩
       · clear hgo
         go_wp2_with fail
         refine (live8_any _).mono ?_
         rintro r wz ⟨rfl, hb⟩
         have HBZ := Lib.hid (HB.out.trans (hb.mono HB.out.size))
         clear hb
         go_wp2_with fail
         go_ret
         exact ⟨rfl, HBZ.out⟩
     · have t1 : decide ((6000 : Int) < (d.size : Int) + (s.size : Int)) = false := by rw [decide_eq_false_iff_not]; omega
       have hd6 : d.size ≤ 6000 := by omega
       have hs6 : s.size ≤ 6000 := by omega
       have BG := Lib.hid (fun W => begin_any8 d s W hd6 hs6)
       clear hbig
       by_cases hjl : j < l.length
       · have hj40 : ¬ j ≤ 40 := fun h => hgo ⟨hjl, h⟩
         clear hgo BG
         go_wp2_with fail
         refine SM.out.mono ?_
         rintro r w1 ⟨⟨v, rfl, hv⟩, hb⟩
         have HB1 := Lib.hid (HB.out.trans (hb.mono HB.out.size))
         cases v with
         | true =>
           have := (hv rfl).1
           omega
         | false =>
           clear hv hb SM
           go_wp2_with fail
           refine (live8_any _).mono ?_
           rintro r wz ⟨rfl, hb⟩
           have HBZ := Lib.hid (HB1.out.trans (hb.mono HB1.out.size))
           clear hb
           go_wp2_with fail
           go_ret
           exact ⟨rfl, HBZ.out⟩
       · obtain rfl : j = l.length := by omega
         rw [List.take_length] at SM
         clear hgo HGO hlj hel
         go_wp2_with fail
         refine SM.out.mono ?_
         rintro r w1 ⟨⟨v, rfl, hv⟩, hb⟩
         have HB1 := Lib.hid (HB.out.trans (hb.mono HB.out.size))
         have HV := Lib.hid hv
         clear hb hv SM HB
         cases v with
         | false =>
           go_wp2_with fail
           refine (live8_any _).mono ?_
           rintro r wz ⟨rfl, hb⟩
           have HBZ := Lib.hid (HB1.out.trans (hb.mono HB1.out.size))
           clear hb
           go_wp2_with fail
           go_ret
           exact ⟨rfl, HBZ.out⟩
         | true =>
           obtain ⟨hl40, hwt⟩ := HV.out rfl
           rw [els_evE] at hwt
           have hl40 : l.length ≤ 40 := by rw [evE, List.length_map] at hl40; exact hl40
           have HWK : Hid (∀ x ∈ l, wt x ≤ 6000) := fun x hx => by have := wts_mem hx; omega
           clear hwt HV
           go_wp2_with fail
           refine (BG.out _).mono ?_
           rintro r w2 ⟨hr, hb⟩
           have HB2 := Lib.hid (HB1.out.trans (hb.mono HB1.out.size))
           clear hb BG HB1
           by_cases hbg : begB d s = true
           case neg =>
             rw [if_neg hbg] at hr
             subst hr
             have HB3 : Hid (Below w.heap.size w (w2.alloc (.cells #[.string ⟨#[]⟩, .string ⟨#[]⟩, .int .i64 0] 40))) := HB2.out.alloc HB2.out.size _
             clear hbg
             go_wp2_with fail
             refine (num8_any _ _).mono ?_
             rintro r w3 ⟨rfl, rfl⟩
             go_wp2_with fail
             refine (live8_any _).mono ?_
             rintro r wz ⟨rfl, hb⟩
             have HBZ := Lib.hid (HB3.out.trans (hb.mono HB3.out.size))
             clear hb
             go_wp2_with fail
             go_ret
             exact ⟨rfl, HBZ.out⟩
           case pos =>
             rw [if_pos hbg] at hr
             obtain ⟨X, rfl, hX⟩ := hr
             obtain ⟨htx, hq⟩ := beg_ok hbg
             have HX := Lib.hid (head_txt hq hX)
             obtain ⟨n0, hfd⟩ := hd_fed htx hq hd6
             have HFD := Lib.hid hfd
             have hxs : X.size ≤ 7000 := by
               rw [Lib.size_eq, hX, List.length_append, headL_len, List.length_append, By.len_size]
               simp; omega
             have HS0 := Lib.hid (Sx.new HB2.out d s 1)
             clear hbg HB2 hX htx hq hfd
             go_upto_region 9 with fail
             generalize hA : w2.heap.size = A at HS0 ⊢
             generalize w2.alloc (.cells #[.string d, .string s, .int .i64 1] 40) = W2 at HS0 ⊢
             clear hA
             go_wp2_with fail
             refine (num8_any _ _).mono ?_
             rintro r w3 ⟨rfl, rfl⟩
             go_wp2_with fail
             refine (new_any _).mono ?_
             rintro r w3 ⟨rfl, rfl⟩
             have HGW := Lib.hid (HG.out.below HS0.out.1)
             have S1 := Lib.hid (scn_new HGW.out)
             have D := Lib.hid (feed_md (W2.heap.size + 1) W2.heap.size Vw0 St0 X _ S1.out (fun _ => iv0) (by simp) (by omega))
             have hPA : A < W2.heap.size := heap_lt HS0.out.2.1
             go_wp2_with fail
             refine D.out.mono ?_
             rintro r w4 ⟨v4, x4, rfl, hM⟩
             rw [HX.out, HFD.out] at hM
             have HR4 := Lib.hid (Rd.start HG.out HS0.out hM)
             have HIV := Lib.hid (iv_next iv0 HFD.out rfl)
             clear hM D S1 HX HFD HS0 HGW hxs HG
             generalize W2.heap.size = P at *
             clear hPA W2
             have HR5 : Hid (Rd w A P d s 1 (S [opD] n0) [⟨1, elD d, 0⟩] x4 v4 w4) := HR4.out
             clear HR4
             go_upto_region 15 with fail
             obtain ⟨x0, x1, x2, fx⟩ := cs3 HR5.out.sx.2.1
             go_cut [14, 15] (fun s14 s15 wx => ∃ a c, s14 = .string (shakeT ⟨#[51]⟩ s) ∧ s15 = .slice a 0 c ∧ Hid (Rd w A P d s 2 (S [opD] n0) [⟨1, elD d, 0⟩] x4 v4 wx))
             case first =>
               have d0 : w4.drew.cell? ⟨A, 0, none⟩ = some (.string d) := x0
               have d1 : w4.drew.cell? ⟨A, 1, none⟩ = some (.string s) := x1
               have d2 : w4.drew.cell? ⟨A, 2, none⟩ = some (.int .i64 1) := x2
               clear x0 x1 x2 fx
               go_region_with (first
                 | ((go_at_call 19; refine (header_any _).mono ?_; rintro r w5 ⟨g, rfl, hg0, hg, hb5⟩; have HR6 := Lib.hid (HR5.out.dr.below hb5); obtain ⟨x0, x1, x2, fx⟩ := cs3 HR6.out.sx.2.1))
                 | ((go_at_call 18; refine (take_hdr d s g _ hg hs6).mono ?_; rintro r w6 ⟨⟨a7, c7, rfl⟩, hb6⟩; have HR7 := Lib.hid (HR6.out.below hb6); obtain ⟨q0, q1, q2, fq⟩ := cs3 HR7.out.sx.2.1; have fq0 := fq 0; have fq1 := fq 1; have fq2 := fq 2)))
               all_goals
                 have HRZ := Lib.hid (HR7.out.put 2)
                 go_wp2_with fail
                 go_meet
                 exact ⟨_, _, rfl, rfl, HRZ.out⟩
             case rest =>
               obtain ⟨a3, c3, rfl, rfl, HR6⟩ := hcut
               clear HR5 x0 x1 x2 fx w4
               have hyz := shakeT_size ⟨#[51]⟩ s
               have HFS := Lib.hid (shk_fed ⟨#[51]⟩ s n0)
               have HIV2 := Lib.hid (iv_next HIV.out HFS.out rfl)
               have D := Lib.hid (feed_any (P + 1) P v4 _ (shakeT ⟨#[51]⟩ s) wc HR6.out.scn (fun _ => HIV.out) ⟨HR6.out.size, HR6.out.size⟩ (by omega))
               generalize shakeT ⟨#[51]⟩ s = Y at D HFS hyz ⊢
               go_wp2_with fail
               refine D.out.mono ?_
               rintro r w7 hF
               obtain ⟨y, x5, v5, w8, rfl, hrun, hR⟩ := HR6.out.fed hF (by rw [HFS.out]; show 2 ≤ 1048576; decide)
               rw [HFS.out] at hR
               have HR8 : Hid (Rd w A P d s 2 (S [opD] 63) (evR d s []) x5 v5 w8) := hR
               have HRUN := Lib.hid hrun
               clear hrun hR hF D HFS HR6 HIV hyz
               go_upto_region 17 with (at_builtin; refine wpList_append_is rfl _ _ 27 rfl _ _ _ rfl rfl HRUN.out ?_)
               clear HRUN
               obtain ⟨x0, x1, x2, fx⟩ := cs3 HR8.out.sx.2.1
               go_cut [14] (fun s14 wx => Hid (Rd w A P d s 3 (S [opD] 63) (evR d s []) x5 v5 wx))
               case first =>
                 have d0 : w8.drew.cell? ⟨A, 0, none⟩ = some (.string d) := x0
                 have d1 : w8.drew.cell? ⟨A, 1, none⟩ = some (.string s) := x1
                 have d2 : w8.drew.cell? ⟨A, 2, none⟩ = some (.int .i64 2) := x2
                 clear x0 x1 x2 fx
                 go_region_with (first
                   | ((go_at_call 20; refine (shake_any _).mono ?_; rintro r w9 ⟨rfl, hb9⟩; have HR9 := Lib.hid (HR8.out.dr.below hb9); obtain ⟨x0, x1, x2, fx⟩ := cs3 HR9.out.sx.2.1))
                   | ((go_at_call 18; refine (take_shk d s _ hs6).mono ?_; rintro r wA ⟨⟨aA, cA, rfl⟩, hbA⟩; have HRA := Lib.hid (HR9.out.below hbA); obtain ⟨q0, q1, q2, fq⟩ := cs3 HRA.out.sx.2.1; have fq0 := fq 0; have fq1 := fq 1; have fq2 := fq 2)))
                 all_goals
                   have HRZ := Lib.hid (HRA.out.put 3)
                   go_wp2_with fail
                   go_meet
                   exact HRZ.out
               case rest =>
                 have HR9 : Hid (Rd w A P d s 3 (S [opD] 63) (evR d s (l.take 0)) x5 v5 wc) := hcut
                 clear hcut HR8 x0 x1 x2 fx
                 go_wp2_with fail
                 go_loopw [13, 16] (fun g i wr => ∃ (k nk : Nat) (v : Vw), i = .int .i64 k ∧ k ≤ l.length ∧ Hid (Iv (S [opD] nk)) ∧ Hid (Rd w A P d s 3 (S [opD] nk) (evR d s (l.take k)) g v wr)) (fun _ i _ => l.length - (RowKit.intOf i).toNat)
                 case atStart => exact ⟨0, 63, v5, rfl, Nat.zero_le _, HIV2.out, HR9.out⟩
                 case round =>
                   clear HR9 HIV2
                   obtain ⟨k, nk, vk, rfl, hk, HI, HR⟩ := hrel
                   have HBx := Lib.hid HR.out.sx.1
                   by_cases hkl : k < l.length
                   · obtain ⟨b, o, aA, cA, aK, cK, rfl, hb, hf5, hkin⟩ := (HKS.out.below HBx.out) k hkl
                     obtain ⟨y0, y1, y2, y3, y4⟩ := hf5
                     have HC := Lib.hid (is_any l[k] w.heap.size _ _ hkin HBx.out.size (HWK.out _ (List.getElem_mem hkl)))
                     have HKI := Lib.hid hkin
                     clear hkin hb
                     go_wp2_with fail
                     refine HC.out.mono ?_
                     rintro r w2 ⟨⟨yes, rfl, hy⟩, hbb⟩
                     have HR2 := Lib.hid (HR.out.below hbb)
                     have HY := Lib.hid hy
                     have HBB := Lib.hid hbb
                     clear hbb HC hy
                     cases yes with
                     | false =>
                       have HBz := Lib.hid HR2.out.sx.1
                       go_wp2_with fail
                       refine (live8_any _).mono ?_
                       rintro r wz ⟨rfl, hb⟩
                       have HBZ := Lib.hid (HBz.out.trans (hb.mono HBz.out.size))
                       clear hb
                       go_wp2_with fail
                       go_ret
                       exact ⟨rfl, HBZ.out⟩
                     | true =>
                       obtain ⟨hrt, hlen⟩ := HY.out rfl
                       have HRT := Lib.hid hrt
                       have HLZ : Hid ((put l[k] (Sn.mk cmpL)).length ≤ 16384) := Nat.le_trans (put_les8 (rt_sp8 hrt) _) hlen
                       clear hrt hlen HY
                       have z0 := (HBB.out.cell (World.block_lt_of_cell? _ _ y0)).trans y0
                       have z1 := (HBB.out.cell (World.block_lt_of_cell? _ _ y1)).trans y1
                       have z2 := (HBB.out.cell (World.block_lt_of_cell? _ _ y2)).trans y2
                       have z3 := (HBB.out.cell (World.block_lt_of_cell? _ _ y3)).trans y3
                       have z4 := (HBB.out.cell (World.block_lt_of_cell? _ _ y4)).trans y4
                       have HP : Hid (Calls Tryz.prog 22 #[.agg #[.string d, .string s, .int .i64 3], .agg #[.string l[k].sp, .string l[k].nm, .slice aA l[k].atr.length cA, .string l[k].tx, .slice aK l[k].ks.length cK]] w2.drew fun r w' => r = .returned (.string (Sn.mk (put l[k] (Sn.mk cmpL)))) ∧ Below w2.drew.heap.size w2.drew w') := by
                         have h := send_any8 d s 3 l[k] aA aK cA cK w2.drew (((HKI.out.stay (HBB.out.mono HBx.out.size)).stay ((Below.refl _ w2).drew.mono (Nat.le_trans HBx.out.size HBB.out.size))).mono (Nat.le_trans HBx.out.size HBB.out.size)) (Nat.le_trans (HWK.out _ (List.getElem_mem hkl)) (by decide))
                         rw [if_pos rfl] at h
                         exact h
                       have hpz : (Sn.mk (put l[k] (Sn.mk cmpL))).size ≤ 16384 := by rw [Sn.mk_size]; exact HLZ.out
                       have HFX : Hid (Sn.feed (S [opD] nk) (Sn.mk (put l[k] (Sn.mk cmpL))).data.toList = (S [opD] (put l[k] (Sn.mk cmpL)).length, [⟨2, l[k], 0⟩])) := by
                         show _ = _
                         rw [Sn.mk_list]
                         exact D_put HRT.out HLZ.out nk
                       have HIV := Lib.hid (iv_next HI.out HFX.out rfl)
                       have HTK : Hid (evR d s (l.take k) ++ [⟨2, l[k], 0⟩] = evR d s (l.take (k + 1))) := by
                         show _ = _
                         rw [evR_snoc, List.take_succ_eq_append_getElem hkl]
                       have HLB : Hid ((evR d s (l.take k)).length + 1 ≤ 1048576) := by
                         show _ ≤ _
                         rw [evR_len, List.length_take]; omega
                       generalize (put l[k] (Sn.mk cmpL)).length = n2 at HFX HIV
                       generalize Sn.mk (put l[k] (Sn.mk cmpL)) = PL at hpz HFX HP
                       clear HBB y0 y1 y2 y3 y4 HKI HRT HLZ HR
                       obtain ⟨x0, x1, x2, fx⟩ := cs3 HR2.out.sx.2.1
                       go_wp2_with fail
                       have d0 : w2.drew.cell? ⟨A, 0, none⟩ = some (.string d) := x0
                       have d1 : w2.drew.cell? ⟨A, 1, none⟩ = some (.string s) := x1
                       have d2 : w2.drew.cell? ⟨A, 2, none⟩ = some (.int .i64 3) := x2
                       go_region_law (first
                         | (refine step_append_is (by rfl) _ _ _ (by rfl) _ _ _ (by rfl) (by rfl) HRUN.out ?_)
                         | (go_simp; go_at_call 22; refine HP.out.mono ?_; rintro r w3 ⟨rfl, hb3⟩; have HR3 := Lib.hid (HR2.out.dr.below hb3); have HFD := Lib.hid (feed_any (P + 1) P vk _ PL w3 HR3.out.scn (fun _ => HI.out) ⟨HR3.out.size, HR3.out.size⟩ (by omega)); clear hb3)
                         | (go_simp; go_at_call 9; refine HFD.out.mono ?_; rintro r w7 hF; obtain ⟨y, x5, v5, w8, rfl, hrun, hR⟩ := HR3.out.fed hF (by rw [HFX.out]; exact HLB.out); have HRUN := Lib.hid hrun; have HR8 := Lib.hid hR; clear hrun hR hF))
                       all_goals
                         have HR9 : Hid (Rd w A P d s 3 (S [opD] n2) (evR d s (l.take (k + 1))) x5 v5 w8) := by
                           have h := HR8.out
                           rw [HFX.out, HTK.out] at h
                           exact h
                         clear HR8 HFX HTK HP HR2 HR3 HFD HLB z0 z1 z2 z3 z4 x0 x1 x2 fx d0 d1 d2
                         go_wp2_with fail
                         go_roundw
                         case rel => exact ⟨k + 1, n2, v5, by go_num, by omega, HIV.out, HR9.out⟩
                         case measure => simp [RowKit.intOf]; omega
                   · obtain rfl : k = l.length := by omega
                     rw [List.take_length] at HR
                     obtain ⟨x0, x1, x2, fx⟩ := cs3 HR.out.sx.2.1
                     have HE : Hid (∀ W, Calls Tryz.prog 23 #[.agg #[.string d, .string s, .int .i64 3], .string ⟨#[]⟩] W fun e w' => e = .returned (.tuple #[.agg #[.string d, .string s, .int .i64 (endP 3)], .string ⟨#[60, 47, 115, 116, 114, 101, 97, 109, 58, 115, 116, 114, 101, 97, 109, 62]⟩]) ∧ Below W.heap.size W w') := fun W => by
                       have h := end_any8 d s ⟨#[]⟩ 3 W (by decide)
                       rw [endT_e] at h
                       exact h
                     generalize endP 3 = e3 at HE
                     go_wp2_with fail
                     refine (HE.out _).mono ?_
                     rintro r w2 ⟨rfl, hb⟩
                     have HR2 := Lib.hid (HR.out.below (hb.alloc (Nat.le_trans (Nat.le_refl _) hb.size) (.cells #[.string d, .string s, .int .i64 e3] 40)))
                     have D := Lib.hid (feed_any (P + 1) P vk _ ⟨#[60, 47, 115, 116, 114, 101, 97, 109, 58, 115, 116, 114, 101, 97, 109, 62]⟩ _ HR2.out.scn (fun _ => HI.out) ⟨HR2.out.size, HR2.out.size⟩ (by decide))
                     obtain ⟨st, hst⟩ := D_end nk
                     have HST := Lib.hid hst
                     clear hst hb HR HE x0 x1 x2 fx
                     go_wp2_with fail
                     refine D.out.mono ?_
                     rintro r w7 hF
                     obtain ⟨y, x6, v6, w8, rfl, hrun, hR⟩ := HR2.out.fed hF (by
                       show _ + (Sn.feed (S [opD] nk) [60, 47, 115, 116, 114, 101, 97, 109, 58, 115, 116, 114, 101, 97, 109, 62]).2.length ≤ _
                       rw [HST.out, evR_len]; show _ + 1 ≤ _; omega)
                     have hR : Rd w A P d s 3 st (evF d s l) x6 v6 w8 := by
                       have h : Rd w A P d s 3 (Sn.feed (S [opD] nk) [60, 47, 115, 116, 114, 101, 97, 109, 58, 115, 116, 114, 101, 97, 109, 62]).1 (evR d s l ++ (Sn.feed (S [opD] nk) [60, 47, 115, 116, 114, 101, 97, 109, 58, 115, 116, 114, 101, 97, 109, 62]).2) x6 v6 w8 := hR
                       rw [HST.out] at h
                       exact h
                     have HRF := Lib.hid hR
                     have HRUN := Lib.hid hrun
                     have hrow := hR.row
                     obtain ⟨g, gc, rfl, hA⟩ := hrow.all (by simp [evF])
                     have HLen := Lib.hid (evF_len d s l)
                     rw [HLen.out] at HRUN
                     have k0 : w8.cell? ⟨g, 0, none⟩ = some (.int .i64 1) := by
                       obtain ⟨_, _, _, _, _, h, _⟩ := hA 0 (by rw [HLen.out]; omega)
                       rw [evF_0] at h
                       exact h
                     have kL : w8.cell? ⟨g, (l.length + 2) * 7, none⟩ = some (.int .i64 3) := by
                       obtain ⟨_, _, _, _, _, h, _⟩ := hA (l.length + 2) (by rw [HLen.out]; omega)
                       rw [evF_last] at h
                       exact h
                     obtain ⟨kn, ks⟩ : w8.cell? ⟨g, 7 + 2, none⟩ = some (.string ⟨#[104, 97, 110, 100, 115, 104, 97, 107, 101]⟩) ∧ w8.cell? ⟨g, 7 + 1, none⟩ = some (.string ⟨#[106, 97, 98, 98, 101, 114, 58, 99, 111, 109, 112, 111, 110, 101, 110, 116, 58, 97, 99, 99, 101, 112, 116]⟩) := by
                       obtain ⟨v0, v1, v2, v3, v4, h, h0, h1, h2, h3, h4, _, h6⟩ := hA 1 (by rw [HLen.out]; omega)
                       rw [evF_1] at h6
                       obtain ⟨_, _, _, _, e0, e1, _⟩ := in_cells8 h6.toIn
                       subst e0 e1
                       exact ⟨h1, h0⟩
                     have HK0 : Hid (∃ v0 v1 v2 v3 v4, w8.cell? ⟨g, 0 + 1, none⟩ = some v0 ∧ w8.cell? ⟨g, 0 + 2, none⟩ = some v1 ∧ w8.cell? ⟨g, 0 + 3, none⟩ = some v2 ∧ w8.cell? ⟨g, 0 + 4, none⟩ = some v3 ∧ w8.cell? ⟨g, 0 + 5, none⟩ = some v4 ∧ InS (Imm (P + 1) P v6) w8 (elD d) (.agg #[v0, v1, v2, v3, v4])) := by
                       obtain ⟨v0, v1, v2, v3, v4, h, h0, h1, h2, h3, h4, _, h6⟩ := hA 0 (by rw [HLen.out]; omega)
                       rw [evF_0] at h6
                       exact ⟨v0, v1, v2, v3, v4, h0, h1, h2, h3, h4, h6⟩
                     have HKI : Hid (∀ i (hi : i < l.length), ∃ v0 v1 v2 v3 v4, w8.cell? ⟨g, (i + 2) * 7 + 1, none⟩ = some v0 ∧ w8.cell? ⟨g, (i + 2) * 7 + 2, none⟩ = some v1 ∧ w8.cell? ⟨g, (i + 2) * 7 + 3, none⟩ = some v2 ∧ w8.cell? ⟨g, (i + 2) * 7 + 4, none⟩ = some v3 ∧ w8.cell? ⟨g, (i + 2) * 7 + 5, none⟩ = some v4 ∧ InS (Imm (P + 1) P v6) w8 (l[i]'hi) (.agg #[v0, v1, v2, v3, v4])) := by
                       intro i hi
                       obtain ⟨v0, v1, v2, v3, v4, h, h0, h1, h2, h3, h4, _, h6⟩ := hA (i + 2) (by rw [HLen.out]; omega)
                       rw [evF_mid d s l hi] at h6
                       exact ⟨v0, v1, v2, v3, v4, h0, h1, h2, h3, h4, h6⟩
                     have HBn := Lib.hid hR.sx.1
                     clear hA hrow hR hF hrun D HR2 HI HST
                     go_wp2_with (at_builtin; refine wpList_append_is rfl _ _ 27 rfl _ _ _ rfl rfl HRUN.out ?_)
                     clear k0 kL kn ks HRUN
                     have HX0 : Hid (Below w8.heap.size w8 w8) := Below.refl _ _
                     go_loopw [19] (fun i wx => ∃ k : Nat, i = .int .i64 k ∧ k ≤ l.length ∧ Hid (Below w8.heap.size w8 wx)) (fun i _ => l.length - (RowKit.intOf i).toNat)
                     case atStart => exact ⟨0, rfl, Nat.zero_le _, HX0.out⟩
                     case round =>
                       clear HX0
                       obtain ⟨k, rfl, hk, HX⟩ := hrel
                       have HBx := Lib.hid (HBn.out.trans (HX.out.mono HBn.out.size))
                       by_cases hkl : k < l.length
                       · obtain ⟨v0, v1, v2, v3, v4, x1, x2, x3, x4, x5, hI0⟩ := HKI.out k hkl
                         have x1 := (HX.out.cell (World.block_lt_of_cell? _ _ x1)).trans x1
                         have x2 := (HX.out.cell (World.block_lt_of_cell? _ _ x2)).trans x2
                         have x3 := (HX.out.cell (World.block_lt_of_cell? _ _ x3)).trans x3
                         have x4 := (HX.out.cell (World.block_lt_of_cell? _ _ x4)).trans x4
                         have x5 := (HX.out.cell (World.block_lt_of_cell? _ _ x5)).trans x5
                         have hI := hI0.keep fun b _ hlt => HX.out.block b hlt
                         obtain ⟨zsp, znm, zaa, zan, zac, ztx, zka, zkn, zkc, rfl, rfl, rfl, rfl, rfl⟩ := hI0.shape
                         obtain ⟨b, o, a1, c1, a2, c2, rfl, hb, hf5, hkin⟩ := (HKS.out.below HBx.out) k hkl
                         obtain ⟨y0, y1, y2, y3, y4⟩ := hf5
                         have HSX : Hid (∀ x : Ext wr, Calls Tryz.prog 24 #[.agg #[.string zsp, .string znm, .slice zaa zan zac, .string ztx, .slice zka zkn zkc], _] x.to fun r w' => r = .returned (.bool true) ∧ Below x.to.heap.size x.to w') := fun x =>
                           same_yes l[k] x.to.heap.size x.to _ _ (hI.keep fun b _ hlt => x.below.block b hlt).toIn ((hkin.stay (x.below.mono HBx.out.size)).mono (Nat.le_trans HBx.out.size x.below.size)) (Nat.le_refl _)
                         have g1 : ∀ x : Ext wr, x.to.cell? ⟨g, (k + 2) * 7 + 1, none⟩ = _ := fun x => ext_cell x x1
                         have g2 : ∀ x : Ext wr, x.to.cell? ⟨g, (k + 2) * 7 + 2, none⟩ = _ := fun x => ext_cell x x2
                         have g3 : ∀ x : Ext wr, x.to.cell? ⟨g, (k + 2) * 7 + 3, none⟩ = _ := fun x => ext_cell x x3
                         have g4 : ∀ x : Ext wr, x.to.cell? ⟨g, (k + 2) * 7 + 4, none⟩ = _ := fun x => ext_cell x x4
                         have g5 : ∀ x : Ext wr, x.to.cell? ⟨g, (k + 2) * 7 + 5, none⟩ = _ := fun x => ext_cell x x5
                         have f0 : ∀ x : Ext wr, x.to.cell? _ = _ := fun x => ext_cell x y0
                         have f1 : ∀ x : Ext wr, x.to.cell? _ = _ := fun x => ext_cell x y1
                         have f2 : ∀ x : Ext wr, x.to.cell? _ = _ := fun x => ext_cell x y2
                         have f3 : ∀ x : Ext wr, x.to.cell? _ = _ := fun x => ext_cell x y3
                         have f4 : ∀ x : Ext wr, x.to.cell? _ = _ := fun x => ext_cell x y4
                         have hs := extSome wr
                         clear x1 x2 x3 x4 x5 y0 y1 y2 y3 y4 hI hI0 hkin hb
                         go_wp2_with fail
                         refine ext_region (by kernel_rfl) (by kernel_rfl) ?_
                         repeat (go_big_quiet_step ((go_at_call 24; with_reducible exact ext_call _ (HSX.out _))))
                         refine wpQuiet_nil ?_
                         rintro _ ⟨x, hx⟩
                         subst hx
                         have HX2 := Lib.hid (HX.out.trans (x.below.mono HX.out.size))
                         clear g1 g2 g3 g4 g5 f0 f1 f2 f3 f4 hs HSX HX HBx
                         generalize x.to = W7 at HX2 ⊢
                         clear x
                         go_wp2_with fail
                         go_roundw
                         case rel => exact ⟨k + 1, by go_num, by omega, HX2.out⟩
                         case measure => simp [RowKit.intOf]; omega
                       · obtain rfl : k = l.length := by omega
                         obtain ⟨v0, v1, v2, v3, v4, x1, x2, x3, x4, x5, hI0⟩ := HK0.out
                         have x1 := (HX.out.cell (World.block_lt_of_cell? _ _ x1)).trans x1
                         have x2 := (HX.out.cell (World.block_lt_of_cell? _ _ x2)).trans x2
                         have x3 := (HX.out.cell (World.block_lt_of_cell? _ _ x3)).trans x3
                         have x4 := (HX.out.cell (World.block_lt_of_cell? _ _ x4)).trans x4
                         have x5 := (HX.out.cell (World.block_lt_of_cell? _ _ x5)).trans x5
                         have hI := hI0.keep fun b _ hlt => HX.out.block b hlt
                         obtain ⟨zaA, zcA, zaK, zcK, rfl, rfl, rfl, rfl, rfl, hat⟩ := in_cells8 hI.toIn
                         have HAT := Lib.hid (rAttr_any (elD d).sp (elD d).nm (elD d).tx (Sn.mk toN) (elD d).atr zaA zaK zcA (elD d).ks.length zcK _ wr hat (Nat.le_refl _) (by show 1 ≤ 9223372036854775807; decide))
                         have HVD : Hid (attrV (elD d).atr (Sn.mk toN) = d) := by
                           show attrV [(Sn.mk toN, d)] (Sn.mk toN) = d
                           simp [attrV]
                         have t1 : (d.toList == d.toList) = true := by simp
                         clear hI hI0 hat
                         go_wp2_with fail
                         refine HAT.out.mono ?_
                         rw [HVD.out]
                         rintro r w9 ⟨rfl, hb⟩
                         have HB9 := Lib.hid (HBx.out.trans (hb.mono HBx.out.size))
                         clear hb x1 x2 x3 x4 x5
                         go_wp2_with fail
                         refine (live8_any _).mono ?_
                         rintro r wz ⟨rfl, hb⟩
                         have HBZ := Lib.hid (HB9.out.trans (hb.mono HB9.out.size))
                         clear hb
                         go_wp2_with fail
                         go_ret
                         exact ⟨rfl, HBZ.out⟩
end Go.Proofs.YtolnpfcncmcacaaGreatDoor
