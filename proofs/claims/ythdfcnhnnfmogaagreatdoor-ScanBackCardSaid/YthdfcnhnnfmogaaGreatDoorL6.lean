/- The walk of ScanPrefix: an element with a prefix that it declares is read as the one without. Condition: each argument is shorter than a text's reach; strconv.ErrSyntax holds an error. -/
import Derived.Test.YthdfcnhnnfmogaaGreatDoorMN
import Derived.Test.YthdfcnhnnfmogaaGreatDoorML
namespace Go.Proofs.YthdfcnhnnfmogaaGreatDoor
open Go.RowKit Go.Lib Go.Shelf Tg Sn

theorem fr_low {P : Nat} {w W w' : World} {v' : Vw} (hb : Below w.heap.size w W) (hP : w.heap.size ≤ P) (hf : Fr P Vw0 W w' v') : Below w.heap.size w w' :=
  ⟨hf.os.trans hb.os, hf.tape.trans hb.tape, hf.output.trans hb.output, Nat.le_trans hb.size hf.size, fun b hlt => (hf.block b (Nat.lt_of_lt_of_le hlt hb.size) (fun hm => by have := vw0_only hm; omega)).trans (hb.block b hlt)⟩
theorem t1_list (sp nm tx : ByteArray) : (((((((((⟨#[60, 115, 32, 120, 109, 108, 110, 115, 61, 39, 122, 39, 62, 60, 112, 58]⟩ : ByteArray) ++ nm) ++ ⟨#[32, 120, 109, 108, 110, 115, 58, 112, 61, 39]⟩) ++ Sn.mk (q sp.data.toList)) ++ ⟨#[39, 62]⟩) ++ Sn.mk (q tx.data.toList)) ++ ⟨#[60, 47, 112, 58]⟩) ++ nm) ++ ⟨#[62]⟩).data.toList = hdT ++ pfx sp nm tx := by
  simp [hdT, pfx, tagP, pnm, Tg.marks, Tg.mark, atP, xpn, Sn.mk_list]
theorem t2_list (sp nm tx : ByteArray) : ((⟨#[60, 115, 32, 120, 109, 108, 110, 115, 61, 39, 122, 39, 62]⟩ : ByteArray) ++ Sn.mk (put (El.mk sp nm [] tx []) ⟨#[122]⟩)).data.toList = hdT ++ put (El.mk sp nm [] tx []) (Sn.mk [122]) := by
  rw [By.append_list, Sn.mk_list]; rfl
theorem t1_evs {sp nm tx : ByteArray} (h : Rt 1 (.mk sp nm [] tx [])) (hl : sp.size + nm.size + tx.size ≤ 2000) : (Sn.feed St0 (hdT ++ pfx sp nm tx)).2 = [⟨1, eS, 0⟩, ⟨2, .mk sp nm [] tx [], 0⟩] := by
  rw [Sn.feed_append, head_fed]
  show [_] ++ (Sn.feed (S [opS] 13) (pfx sp nm tx)).2 = _
  rw [pfx_fed h hl]; rfl
theorem t2_evs {sp nm tx : ByteArray} (h : Rt 1 (.mk sp nm [] tx [])) (hl : (put (El.mk sp nm [] tx []) (Sn.mk [122])).length ≤ 16384) : (Sn.feed St0 (hdT ++ put (El.mk sp nm [] tx []) (Sn.mk [122]))).2 = [⟨1, eS, 0⟩, ⟨2, .mk sp nm [] tx [], 0⟩] := by
  rw [Sn.feed_append, head_fed]
  show [_] ++ (Sn.feed (S [opS] 13) (put (El.mk sp nm [] tx []) (Sn.mk [122]))).2 = _
  rw [head_put h hl]; rfl
theorem put_less {e : El} (h : e.sp ≠ Sn.mk []) (s : ByteArray) : (put e s).length ≤ (put e (Sn.mk [])).length := by
  rw [put_hd, put_hd e (Sn.mk [])]
  have : (hd5 e s).length ≤ (hd5 e (Sn.mk [])).length := by
    unfold hd5
    rw [if_neg h]
    simp only [List.length_cons, List.length_append]
    split
    · simp
    · exact Nat.le_refl _
  simp only [List.length_append]
  omega
set_option maxRecDepth 100000 in
set_option maxHeartbeats 8000000 in
theorem prefix_walk (sp nm tx : ByteArray) (w : World) (h1 : sp.size ≤ 140737488351232) (h2 : nm.size ≤ 140737488351232) (h3 : tx.size ≤ 140737488351232) (hG : Gd w) :
    Calls Tryz.prog 7 #[.string sp, .string nm, .string tx] w fun e w' => e = .returned (.bool true) ∧ Below w.heap.size w w' := by
  have a1 : IntKind.i64.wrap ((sp.size : Int) + (nm.size : Int)) = ((sp.size + nm.size : Nat) : Int) := by rw [IntWalk.i64_in _ (by omega)]; omega
  have a2 : IntKind.i64.wrap (((sp.size + nm.size : Nat) : Int) + (tx.size : Int)) = ((sp.size + nm.size + tx.size : Nat) : Int) := by rw [IntWalk.i64_in _ (by omega)]; omega
  have HG := Lib.hid hG
  have HGL := Lib.hid hG.lt
  have LV := Lib.hid (fun W (hg : Gd W) => live_any W hg)
  clear hG
  by_cases hbig : 2000 < sp.size + nm.size + tx.size
  · have g2 : decide ((2000 : Int) < ((sp.size + nm.size + tx.size : Nat) : Int)) = true := by rw [decide_eq_true_iff]; omega
    have g3 : (2000 : Int) < ((sp.size + nm.size + tx.size : Nat) : Int) := by omega
    clear h1 h2 h3 HGL
    generalize sp.size + nm.size + tx.size = n at a2 g2 g3 hbig
    generalize sp.size + nm.size = m at a1 a2
    go_enter Tryz.func7, Tryz.ntmps7
    go_wp2_with fail
    refine (LV.out _ (HG.out)).mono ?_
    rintro r wz ⟨rfl, hb⟩
    have HBZ := Lib.hid (hb)
    clear hb
    go_wp2_with fail
    go_ret
    exact ⟨rfl, HBZ.out⟩
  have g2 : decide ((2000 : Int) < ((sp.size + nm.size + tx.size : Nat) : Int)) = false := by rw [decide_eq_false_iff_not]; omega
  have g3 : ¬ ((2000 : Int) < ((sp.size + nm.size + tx.size : Nat) : Int)) := by omega
  have HSZ : Hid (sp.size + nm.size + tx.size ≤ 2000) := by show _ ≤ _; omega
  have hnm : nm.size ≤ 2000 := by omega
  have hqs : (Sn.mk (q sp.data.toList)).size ≤ 12000 := by
    have h1 := (q_len sp.data.toList).2
    have h2 : sp.data.toList.length = sp.size := By.len_size _
    rw [Sn.mk_size]; omega
  have hqt : (Sn.mk (q tx.data.toList)).size ≤ 12000 := by
    have h1 := (q_len tx.data.toList).2
    have h2 : tx.data.toList.length = tx.size := By.len_size _
    rw [Sn.mk_size]; omega
  have HQS : Hid (∀ W, Calls Tryz.prog 21 #[.string sp] W fun e w' => e = .returned (.string (Sn.mk (q sp.data.toList))) ∧ Below W.heap.size W w') := fun W => rQuote_any _ W (by omega)
  have HQT : Hid (∀ W, Calls Tryz.prog 21 #[.string tx] W fun e w' => e = .returned (.string (Sn.mk (q tx.data.toList))) ∧ Below W.heap.size W w') := fun W => rQuote_any _ W (by omega)
  have HWT : Hid (wt (.mk sp nm [] tx []) ≤ 3000) := by
    show _ ≤ _
    rw [wt_eq]
    show 1 + sp.size + nm.size + tx.size + 0 + 0 + wts [] ≤ 3000
    have : wts [] = 0 := by rw [wts]
    omega
  have HIN : Hid (∀ W, In W.heap.size W (.mk sp nm [] tx []) (.agg #[.string sp, .string nm, .slice none 0 0, .string tx, .slice none 0 0])) := fun W => (lit_leaf (fun _ => True) W sp nm tx ⟨by omega, by omega, by omega⟩).toIn
  clear hbig h1 h2 h3
  generalize hn : sp.size + nm.size + tx.size = n at a2 g2 g3
  generalize hm : sp.size + nm.size = m at a1 a2
  clear hn hm
  by_cases hs0 : sp.size = 0
  · have t2 : sp.toList.isEmpty = true := by rw [ByteArray.toList_eq, By.empty_of hs0]; rfl
    clear hs0
    go_enter Tryz.func7, Tryz.ntmps7
    go_wp2_with fail
    refine (LV.out _ (HG.out)).mono ?_
    rintro r wz ⟨rfl, hb⟩
    have HBZ := Lib.hid (hb)
    clear hb
    go_wp2_with fail
    go_ret
    exact ⟨rfl, HBZ.out⟩
  have t2 : sp.toList.isEmpty = false := By.nonempty hs0
  have HNE : Hid (sp ≠ Sn.mk []) := fun e => hs0 (by rw [e]; rfl)
  clear hs0
  by_cases hs1 : 256 < sp.size
  · have t3 : decide ((256 : Int) < (sp.size : Int)) = true := by rw [decide_eq_true_iff]; omega
    clear hs1
    go_enter Tryz.func7, Tryz.ntmps7
    go_wp2_with fail
    refine (LV.out _ (HG.out)).mono ?_
    rintro r wz ⟨rfl, hb⟩
    have HBZ := Lib.hid (hb)
    clear hb
    go_wp2_with fail
    go_ret
    exact ⟨rfl, HBZ.out⟩
  have t3 : decide ((256 : Int) < (sp.size : Int)) = false := by rw [decide_eq_false_iff_not]; omega
  clear hs1
  have HIS := Lib.hid (fun W => is_any (.mk sp nm [] tx []) W.heap.size W _ (HIN.out W) (Nat.le_refl _) HWT.out)
  have HWA : Hid (Below w.heap.size w (w.alloc (.cells #[.string sp, .string nm, .slice none 0 0, .string tx, .slice none 0 0] 37))) := (Below.refl _ w).alloc (Nat.le_refl _) _
  have HE0 := Lib.hid (box_new w #[.string sp, .string nm, .slice none 0 0, .string tx, .slice none 0 0] 37)
  go_enter Tryz.func7, Tryz.ntmps7
  go_wp2_with fail
  refine (HIS.out _).mono ?_
  rintro r w1 ⟨⟨b, rfl, hR⟩, hb1⟩
  have HB1 := Lib.hid (HWA.out.trans (hb1.mono HWA.out.size))
  have HG1 := Lib.hid (HG.out.below HB1.out)
  have HE1B := Lib.hid ((hb1.block _ (heap_lt HE0.out)).trans HE0.out)
  have HRT := Lib.hid hR
  clear hb1 hR HIS HWA HE0 a1 a2 g2 g3 t2 t3
  cases b with
  | false =>
    go_wp2_with fail
    refine (LV.out _ (HG1.out)).mono ?_
    rintro r wz ⟨rfl, hb⟩
    have HBZ := Lib.hid (HB1.out.trans (hb.mono HB1.out.size))
    clear hb
    go_wp2_with fail
    go_ret
    exact ⟨rfl, HBZ.out⟩
  | true =>
    have HRT1 : Hid (Rt 1 (.mk sp nm [] tx [])) := (HRT.out (by trivial)).1
    have HRT2 : Hid ((put (El.mk sp nm [] tx []) (Sn.mk [122])).length ≤ 16384) := Nat.le_trans (put_less (e := .mk sp nm [] tx []) (show sp ≠ Sn.mk [] from HNE.out) _) (HRT.out (by trivial)).2
    clear HRT HNE
    have HN := Lib.hid (new_any)
    have HB2 : Hid (Below w1.heap.size w1 ((w1.alloc (.cells (scells Vw0 St0) 57)).alloc (.cells (scells Vw0 St0) 57))) := ((Below.refl _ _).alloc (Nat.le_refl _) _).alloc (by simp) _
    have HZ2 : Hid (((w1.alloc (.cells (scells Vw0 St0) 57)).alloc (.cells (scells Vw0 St0) 57)).heap.size = w1.heap.size + 2) := by show _ = _; simp
    have HX1 : Hid (((w1.alloc (.cells (scells Vw0 St0) 57)).alloc (.cells (scells Vw0 St0) 57)).heap[w1.heap.size]? = some (.cells (scells Vw0 St0) 57 (0, 0))) := (Below.heap_alloc _ _ _ (by simp)).trans (box_new w1 _ _)
    have HX2 : Hid (((w1.alloc (.cells (scells Vw0 St0) 57)).alloc (.cells (scells Vw0 St0) 57)).heap[w1.heap.size + 1]? = some (.cells (scells Vw0 St0) 57 (0, 0))) := by
      have := box_new (w1.alloc (.cells (scells Vw0 St0) 57)) (scells Vw0 St0) 57
      show _ = _
      simpa using this
    go_wp2_with fail
    refine (HN.out _).mono ?_
    rintro r w2 ⟨rfl, rfl⟩
    go_wp2_with fail
    refine (HN.out _).mono ?_
    rintro r w2 ⟨rfl, rfl⟩
    go_wp2_with fail
    generalize (w1.alloc (.cells (scells Vw0 St0) 57)).alloc (.cells (scells Vw0 St0) 57) = W2 at HB2 HZ2 HX1 HX2 ⊢
    refine (HQS.out _).mono ?_
    rintro r w3 ⟨rfl, hb3⟩
    have hk1 : w1.heap.size < W2.heap.size := by rw [HZ2.out]; omega
    have hk2 : w1.heap.size + 1 < W2.heap.size := by rw [HZ2.out]; omega
    have HB3 := Lib.hid (HB2.out.trans (hb3.mono HB2.out.size))
    have HX13 := Lib.hid ((hb3.block _ hk1).trans HX1.out)
    have HX23 := Lib.hid ((hb3.block _ hk2).trans HX2.out)
    have HZ3 := Lib.hid hb3.size
    clear hb3 HX1 HX2 HB2
    go_wp2_with fail
    refine (HQT.out _).mono ?_
    rintro r w4 ⟨rfl, hb4⟩
    have hk13 : w1.heap.size < w3.heap.size := Nat.lt_of_lt_of_le hk1 HZ3.out
    have hk23 : w1.heap.size + 1 < w3.heap.size := Nat.lt_of_lt_of_le hk2 HZ3.out
    have HB4 := Lib.hid (HB3.out.trans (hb4.mono HB3.out.size))
    have HX14 := Lib.hid ((hb4.block _ hk13).trans HX13.out)
    have HX24 := Lib.hid ((hb4.block _ hk23).trans HX23.out)
    have hk14 : w1.heap.size < w4.heap.size := Nat.lt_of_lt_of_le hk13 hb4.size
    have hk24 : w1.heap.size + 1 < w4.heap.size := Nat.lt_of_lt_of_le hk23 hb4.size
    have HK1 := Lib.hid hk14
    have HK2 := Lib.hid hk24
    clear hb4 HX13 HX23 HB3 hk1 hk2 hk13 hk23 HZ3 HZ2 hk14 hk24
    have HGL1 := Lib.hid HG1.out.lt
    have S1 : Hid (Scn w4.heap.size w1.heap.size Vw0 w4 St0) := ⟨fun _ => sc_new HX14.out (HG1.out.below HB4.out) (by have := HGL1.out; have := HK1.out; omega) (by have := HGL1.out; have := HK1.out; omega) (Nat.le_refl _), fun h => by cases h⟩
    have HL1 : Hid ((((((((((⟨#[60, 115, 32, 120, 109, 108, 110, 115, 61, 39, 122, 39, 62, 60, 112, 58]⟩ : ByteArray) ++ nm) ++ ⟨#[32, 120, 109, 108, 110, 115, 58, 112, 61, 39]⟩) ++ Sn.mk (q sp.data.toList)) ++ ⟨#[39, 62]⟩) ++ Sn.mk (q tx.data.toList)) ++ ⟨#[60, 47, 112, 58]⟩) ++ nm) ++ ⟨#[62]⟩).data.toList = hdT ++ pfx sp nm tx) := t1_list sp nm tx
    have hAz : (((((⟨#[60, 115, 32, 120, 109, 108, 110, 115, 61, 39, 122, 39, 62, 60, 112, 58]⟩ : ByteArray) ++ nm) ++ ⟨#[32, 120, 109, 108, 110, 115, 58, 112, 61, 39]⟩) ++ Sn.mk (q sp.data.toList)) ++ ⟨#[39, 62]⟩).size ≤ 15000 := by
      simp only [ByteArray.size_append]
      have e1 : (⟨#[60, 115, 32, 120, 109, 108, 110, 115, 61, 39, 122, 39, 62, 60, 112, 58]⟩ : ByteArray).size = 16 := rfl
      have e2 : (⟨#[32, 120, 109, 108, 110, 115, 58, 112, 61, 39]⟩ : ByteArray).size = 10 := rfl
      have e3 : (⟨#[39, 62]⟩ : ByteArray).size = 2 := rfl
      omega
    generalize (((((⟨#[60, 115, 32, 120, 109, 108, 110, 115, 61, 39, 122, 39, 62, 60, 112, 58]⟩ : ByteArray) ++ nm) ++ ⟨#[32, 120, 109, 108, 110, 115, 58, 112, 61, 39]⟩) ++ Sn.mk (q sp.data.toList)) ++ ⟨#[39, 62]⟩) = A at HL1 hAz ⊢
    have HS1 : Hid (((((A ++ Sn.mk (q tx.data.toList)) ++ ⟨#[60, 47, 112, 58]⟩) ++ nm) ++ ⟨#[62]⟩).size ≤ 1048576) := by
      show _ ≤ _
      simp only [ByteArray.size_append]
      have e4 : (⟨#[60, 47, 112, 58]⟩ : ByteArray).size = 4 := rfl
      have e5 : (⟨#[62]⟩ : ByteArray).size = 1 := rfl
      omega
    have HE1 := Lib.hid (t1_evs HRT1.out HSZ.out)
    have D := Lib.hid (feed_any _ _ _ _ ((((A ++ Sn.mk (q tx.data.toList)) ++ ⟨#[60, 47, 112, 58]⟩) ++ nm) ++ ⟨#[62]⟩) w4 S1.out (fun _ => iv0) ⟨Nat.le_refl _, HK1.out⟩ HS1.out)
    go_wp2_with fail
    refine D.out.mono ?_
    rintro r w5 ⟨v5, x1, rfl, hR1, _, hF1, _, _⟩
    rw [HL1.out, HE1.out] at hR1
    obtain ⟨xa, xc, hx⟩ := hR1.shape
    have hx : x1 = .slice xa 2 xc := hx
    subst hx
    have HR1 := Lib.hid hR1
    have HX5 := Lib.hid ((hF1.block (w1.heap.size + 1) HK2.out (fun hm => by have := vw0_only hm; omega)).trans HX24.out)
    have HG5 := Lib.hid (gd_fr (HG1.out.below HB4.out) hF1 (by have := HGL1.out; omega))
    have HB5 : Hid (Below w1.heap.size w1 w5) := fr_low HB4.out (Nat.le_refl _) hF1
    have HZ5 := Lib.hid hF1.size
    obtain ⟨x0, x1, x2, x3, x4⟩ := bx5 ((HB5.out.block _ (heap_lt HE1B.out)).trans HE1B.out)
    clear D hR1 hF1 HL1 HE1 HS1 S1 HX14 HX24 HB4
    have HPU := Lib.hid (rPut_any (.mk sp nm [] tx []) w5.heap.size w5 _ ⟨#[122]⟩ (HIN.out w5) (Nat.le_refl _) HWT.out)
    have hpz : (Sn.mk (put (El.mk sp nm [] tx []) ⟨#[122]⟩)).size ≤ 16384 := by rw [Sn.mk_size]; exact HRT2.out
    go_wp2_with fail
    refine HPU.out.mono ?_
    rintro r w6 ⟨rfl, hb6⟩
    have hk25 : w1.heap.size + 1 < w5.heap.size := Nat.lt_of_lt_of_le HK2.out HZ5.out
    have HX6 := Lib.hid ((hb6.block _ hk25).trans HX5.out)
    have HG6 := Lib.hid (HG5.out.below hb6)
    have HB6 : Hid (Below w1.heap.size w1 w6) := HB5.out.trans (hb6.mono HB5.out.size)
    have HR6 : Hid (EvRow w4.heap.size (Imm w4.heap.size w1.heap.size v5) w6 (.slice xa 2 xc) [⟨1, eS, 0⟩, ⟨2, .mk sp nm [] tx [], 0⟩]) := HR1.out.put (fun b _ hlt _ => hb6.block b hlt) fun _ _ hi => hi.keep fun b _ hlt => hb6.block b hlt
    have hk26 : w1.heap.size + 1 < w6.heap.size := Nat.lt_of_lt_of_le hk25 hb6.size
    have HK6 := Lib.hid hk26
    clear x0 x1 x2 x3 x4
    clear hb6 hk25 hk26 HPU HR1 HX5 HG5 HB5 HZ5
    have S2 : Hid (Scn w6.heap.size (w1.heap.size + 1) Vw0 w6 St0) := ⟨fun _ => sc_new HX6.out HG6.out (by have := HGL1.out; have := HK6.out; omega) (by have := HGL1.out; have := HK6.out; omega) (Nat.le_refl _), fun h => by cases h⟩
    have HS2 : Hid (((⟨#[60, 115, 32, 120, 109, 108, 110, 115, 61, 39, 122, 39, 62]⟩ : ByteArray) ++ Sn.mk (put (El.mk sp nm [] tx []) ⟨#[122]⟩)).size ≤ 1048576) := by
      show _ ≤ _
      rw [ByteArray.size_append]
      have e1 : (⟨#[60, 115, 32, 120, 109, 108, 110, 115, 61, 39, 122, 39, 62]⟩ : ByteArray).size = 13 := rfl
      omega
    have HL2 := Lib.hid (t2_list sp nm tx)
    have HE2 := Lib.hid (t2_evs HRT1.out HRT2.out)
    have D := Lib.hid (feed_any _ _ _ _ ((⟨#[60, 115, 32, 120, 109, 108, 110, 115, 61, 39, 122, 39, 62]⟩ : ByteArray) ++ Sn.mk (put (El.mk sp nm [] tx []) ⟨#[122]⟩)) w6 S2.out (fun _ => iv0) ⟨Nat.le_refl _, HK6.out⟩ HS2.out)
    go_wp2_with fail
    refine D.out.mono ?_
    rintro r w7 ⟨v7, x2, rfl, hR2, _, hF2, _, _⟩
    rw [HL2.out, HE2.out] at hR2
    have HR7 : Hid (EvRow w4.heap.size (Imm w4.heap.size w1.heap.size v5) w7 (.slice xa 2 xc) [⟨1, eS, 0⟩, ⟨2, .mk sp nm [] tx [], 0⟩]) := HR6.out.put (fun b hbb hlt _ => hF2.block b hlt (fun hm => by have := vw0_only hm; have := HK2.out; omega)) fun _ _ hi => hi.keep fun b hbb hlt => hF2.block b hlt (fun hm => by have := vw0_only hm; have := HK2.out; have := hbb.1; omega)
    obtain ⟨ya, yc, hy⟩ := hR2.shape
    have hy : x2 = .slice ya 2 yc := hy
    subst hy
    have HB7 : Hid (Below w1.heap.size w1 w7) := fr_low HB6.out (Nat.le_succ _) hF2
    have HG7 := Lib.hid (gd_fr HG6.out hF2 (by have := HGL1.out; omega))
    have HEVX : Hid (∀ x : Ext w7, Calls Tryz.prog 12 #[.slice xa 2 xc, .slice ya 2 yc] x.to fun r w' => r = .returned (.bool true) ∧ Below x.to.heap.size x.to w') := fun x =>
      events_yes _ _ _ _ _ _ _ x.to (HR7.out.put (fun b _ hlt _ => x.below.block b hlt) fun _ _ hi => hi.keep fun b _ hlt => x.below.block b hlt) (hR2.put (fun b _ hlt _ => x.below.block b hlt) fun _ _ hi => hi.keep fun b _ hlt => x.below.block b hlt) (by show 2 ≤ 1048576; decide)
    have HLX : Hid (∀ x : Ext w7, Calls Tryz.prog 9 #[] x.to fun r w' => r = .returned (.bool true) ∧ Below x.to.heap.size x.to w') := fun x => LV.out x.to (HG7.out.below x.below)
    obtain ⟨e0, e1, e2, e3, e4⟩ := bx5 ((HB7.out.block _ (heap_lt HE1B.out)).trans HE1B.out)
    obtain ⟨g, c, hx, hA⟩ := HR7.out.all (by simp)
    simp only [Value.slice.injEq] at hx
    obtain ⟨rfl, -, -⟩ := hx
    obtain ⟨b0, b1, b2, b3, b4, _, a10, a11, a12, a13, a14, _, hI⟩ := hA 1 (by simp)
    have hI : InS (Imm w4.heap.size w1.heap.size v5) w7 (.mk sp nm [] tx []) (.agg #[b0, b1, b2, b3, b4]) := hI
    obtain ⟨zsp, znm, zaa, zan, zac, ztx, zka, zkn, zkc, rfl, rfl, rfl, rfl, rfl⟩ := hI.shape
    have HSX : Hid (∀ x : Ext w7, Calls Tryz.prog 18 #[.agg #[.string zsp, .string znm, .slice zaa zan zac, .string ztx, .slice zka zkn zkc], .agg #[.string sp, .string nm, .slice none 0 0, .string tx, .slice none 0 0]] x.to fun r w' => r = .returned (.bool true) ∧ Below x.to.heap.size x.to w') := fun x =>
      same_yes (.mk sp nm [] tx []) x.to.heap.size x.to _ _ (hI.keep fun b _ hlt => x.below.block b hlt).toIn (HIN.out x.to) (Nat.le_refl _)
    have y0 : ∀ x : Ext w7, x.to.cell? ⟨g, 8, none⟩ = some (.string zsp) := fun x => ext_cell x a10
    have y1 : ∀ x : Ext w7, x.to.cell? ⟨g, 9, none⟩ = some (.string znm) := fun x => ext_cell x a11
    have y2 : ∀ x : Ext w7, x.to.cell? ⟨g, 10, none⟩ = some (.slice zaa zan zac) := fun x => ext_cell x a12
    have y3 : ∀ x : Ext w7, x.to.cell? ⟨g, 11, none⟩ = some (.string ztx) := fun x => ext_cell x a13
    have y4 : ∀ x : Ext w7, x.to.cell? ⟨g, 12, none⟩ = some (.slice zka zkn zkc) := fun x => ext_cell x a14
    have f0 : ∀ x : Ext w7, x.to.cell? ⟨w.heap.size, 0, none⟩ = _ := fun x => ext_cell x e0
    have f1 : ∀ x : Ext w7, x.to.cell? ⟨w.heap.size, 1, none⟩ = _ := fun x => ext_cell x e1
    have f2 : ∀ x : Ext w7, x.to.cell? ⟨w.heap.size, 2, none⟩ = _ := fun x => ext_cell x e2
    have f3 : ∀ x : Ext w7, x.to.cell? ⟨w.heap.size, 3, none⟩ = _ := fun x => ext_cell x e3
    have f4 : ∀ x : Ext w7, x.to.cell? ⟨w.heap.size, 4, none⟩ = _ := fun x => ext_cell x e4
    have hs := extSome w7
    clear D hR2 hF2 HL2 HE2 HS2 S2 HR6 HX6 HG6 HB6 hA hI HR7 HG7 a10 a11 a12 a13 a14 e0 e1 e2 e3 e4
    go_wp2_with fail
    refine ext_region (by kernel_rfl) (by kernel_rfl) ?_
    repeat (go_big_quiet_step ((first | (go_at_call 12; with_reducible exact ext_call _ (HEVX.out _)) | (go_at_call 18; with_reducible exact ext_call _ (HSX.out _)) | (go_at_call 9; with_reducible exact ext_call _ (HLX.out _)))))
    refine wpQuiet_nil ?_
    rintro _ ⟨x, hx⟩
    subst hx
    have HBZ := Lib.hid (HB1.out.trans ((HB7.out.trans (x.below.mono HB7.out.size)).mono HB1.out.size))
    clear HEVX HSX HLX y0 y1 y2 y3 y4 f0 f1 f2 f3 f4
    go_wp2_with fail
    go_ret
    exact ⟨rfl, HBZ.out⟩
end Go.Proofs.YthdfcnhnnfmogaaGreatDoor
