/- The contract of the document's Put: an element's text. Condition: an element of at most 3000 letters and values. -/
import Derived.Test.YtccpdfcmhggleaaGreatDoorDq
namespace Go.Proofs.YtccpdfcmhggleaaGreatDoor
open Go.RowKit Go.Lib Go.Shelf Tg Sn

def putsP (e : El) : Prop := ∀ (B : Nat) (w : World) (v : Value) (s : ByteArray), In B w e v → B ≤ w.heap.size → wt e ≤ 3000 →
    Calls Tryz.prog 21 #[v, .string s] w fun r w' => r = .returned (.string (Sn.mk (put e s))) ∧ Below w.heap.size w w'
/-- What stands ahead of the attributes. -/
def hd5 (e : El) (s : ByteArray) : B8 := 60 :: (e.nm.data.toList ++ (if e.sp = s then [] else Tg.mark xmlns e.sp.data.toList))
theorem puts_take {l : List El} {k : Nat} (h : k < l.length) (s : ByteArray) : puts (l.take (k + 1)) s = puts (l.take k) s ++ put l[k] s := by
  rw [List.take_succ_eq_append_getElem h, puts_append, puts_cons, puts_nil, List.append_nil]
theorem marks_app (a b : List (ByteArray × ByteArray)) : Tg.marks (a ++ b) = Tg.marks a ++ Tg.marks b := by simp [Tg.marks]
theorem marks_take {l : List (ByteArray × ByteArray)} {k : Nat} (h : k < l.length) : Tg.marks (l.take (k + 1)) = Tg.marks (l.take k) ++ Tg.mark l[k].1.data.toList l[k].2.data.toList := by
  rw [List.take_succ_eq_append_getElem h, marks_app]
  congr 1
  simp [Tg.marks]
theorem put_hd (e : El) (s : ByteArray) : put e s = hd5 e s ++ Tg.marks e.atr ++ (if emp e.tx e.ks then [47, 62] else 62 :: q e.tx.data.toList) ++ puts e.ks e.sp ++ fin e := by
  rw [put_eq]; simp [beg, hd5]
theorem put_full {e : El} (h : emp e.tx e.ks = false) (s : ByteArray) : put e s = hd5 e s ++ Tg.marks e.atr ++ 62 :: q e.tx.data.toList ++ puts e.ks e.sp ++ ([60, 47] ++ e.nm.data.toList ++ [62]) := by
  rw [put_hd, fin, h]; simp
theorem put_bare {e : El} (h : emp e.tx e.ks = true) (s : ByteArray) : put e s = hd5 e s ++ Tg.marks e.atr ++ [47, 62] := by
  have hk : e.ks = [] := by
    unfold emp at h
    simp only [Bool.and_eq_true] at h
    exact List.isEmpty_iff.1 h.2
  rw [put_hd, fin, h, hk, puts_nil]; simp
theorem len_a (e : El) (s : ByteArray) (k : Nat) : (hd5 e s ++ Tg.marks (e.atr.take k)).length ≤ 20 * wt e := by
  have h := put_len e s
  have h2 : Tg.marks e.atr = Tg.marks (e.atr.take k) ++ Tg.marks (e.atr.drop k) := by rw [← marks_app, List.take_append_drop]
  rw [put_hd, h2] at h
  simp only [List.length_append] at h ⊢
  omega
theorem len_b {e : El} (he : emp e.tx e.ks = false) (s : ByteArray) (j : Nat) : (hd5 e s ++ Tg.marks e.atr ++ 62 :: q e.tx.data.toList ++ puts (e.ks.take j) e.sp).length ≤ 20 * wt e := by
  have h := put_len e s
  have h2 : puts e.ks e.sp = puts (e.ks.take j) e.sp ++ puts (e.ks.drop j) e.sp := by rw [← puts_append, List.take_append_drop]
  rw [put_full he, h2] at h
  simp only [List.length_append] at h ⊢
  omega
theorem cat_attr {T p1 p2 : ByteArray} {L : B8} (h : T.data.toList = L) : (T ++ ⟨#[32]⟩ ++ p1 ++ ⟨#[61, 39]⟩ ++ Sn.mk (q p2.data.toList) ++ ⟨#[39]⟩).data.toList = L ++ Tg.mark p1.data.toList p2.data.toList := by
  simp [h, Tg.mark, Sn.mk_list]
theorem cat_hd0 {e : El} {s : ByteArray} (h : e.sp = s) : ((⟨#[60]⟩ : ByteArray) ++ e.nm).data.toList = hd5 e s := by
  simp [hd5, h]
theorem cat_hd1 {e : El} {s : ByteArray} (h : ¬ e.sp = s) : ((⟨#[60]⟩ : ByteArray) ++ e.nm ++ ⟨#[32, 120, 109, 108, 110, 115, 61, 39]⟩ ++ Sn.mk (q e.sp.data.toList) ++ ⟨#[39]⟩).data.toList = hd5 e s := by
  simp [hd5, h, Tg.mark, xmlns, Sn.mk_list]
theorem size_of {T : ByteArray} {L : B8} {n : Nat} (h : T.data.toList = L) (hl : L.length ≤ n) : T.size ≤ n := by
  rw [← By.len_size, h]; exact hl
theorem emp_a {e : El} (h : e.tx.toList.isEmpty = true) (h2 : e.ks.length = 0) : emp e.tx e.ks = true := by
  have h3 : e.tx.data.toList.isEmpty = true := by rwa [ByteArray.toList_eq] at h
  simp [emp, h3, List.length_eq_zero_iff.1 h2]
theorem emp_b {e : El} (h : e.tx.toList.isEmpty = false) : emp e.tx e.ks = false := by
  have h3 : e.tx.data.toList.isEmpty = false := by rwa [ByteArray.toList_eq] at h
  unfold emp
  rw [h3, Bool.false_and]
theorem emp_c {e : El} (h2 : e.ks.length ≠ 0) : emp e.tx e.ks = false := by
  have h3 : e.ks.isEmpty = false := by
    cases h : e.ks with
    | nil => rw [h] at h2; exact absurd rfl h2
    | cons => rfl
  unfold emp
  rw [h3, Bool.and_false]

set_option maxRecDepth 100000 in
set_option maxHeartbeats 8000000 in
theorem rPut_any (e : El) : putsP e := by
  refine El.ind (P := putsP) (fun sp nm atr tx ks ih => ?_) e
  intro B w v s hin hB hwt
  generalize hE : El.mk sp nm atr tx ks = E at hin hwt
  obtain rfl : E.ks = ks := by rw [← hE]; rfl
  clear hE
  obtain ⟨aA, cA, aK, cK, rfl, ⟨hq1, hq2⟩, hkm, hat, hks⟩ := hin.out
  have hw := wt_eq E
  have hwk := wts_len E.ks
  have hnm : E.nm.size ≤ 3000 := by omega
  have HSP : Hid (E.sp.size ≤ 3000) := by show _ ≤ _; omega
  have HTX : Hid (E.tx.size ≤ 3000) := by show _ ≤ _; omega
  have HQS : Hid (∀ W, Calls Tryz.prog 46 #[.string E.sp] W fun e w' => e = .returned (.string (Sn.mk (q E.sp.data.toList))) ∧ Below W.heap.size W w') := fun W => rQuote_any _ W (by omega)
  have HQT : Hid (∀ W, Calls Tryz.prog 46 #[.string E.tx] W fun e w' => e = .returned (.string (Sn.mk (q E.tx.data.toList))) ∧ Below W.heap.size W w') := fun W => rQuote_any _ W (by omega)
  have hqs : (Sn.mk (q E.sp.data.toList)).size ≤ 18000 := by
    have h1 := (q_len E.sp.data.toList).2
    have h2 : E.sp.data.toList.length = E.sp.size := By.len_size _
    have h3 := HSP.out
    rw [Sn.mk_size]; omega
  have hqt : (Sn.mk (q E.tx.data.toList)).size ≤ 18000 := by
    have h1 := (q_len E.tx.data.toList).2
    have h2 : E.tx.data.toList.length = E.tx.size := By.len_size _
    have h3 := HTX.out
    rw [Sn.mk_size]; omega
  have HAV : Hid (∀ a ∈ E.atr, a.1.size ≤ 3000 ∧ a.2.size ≤ 3000) := fun a ha => by have := wtA_mem ha; omega
  have HKW : Hid (∀ k ∈ E.ks, wt k ≤ 3000) := fun k hk => by have := wts_mem hk; omega
  have hnk : E.ks.length ≤ 3000 := by omega
  have hna : E.atr.length ≤ 3000 := by omega
  have HLA : Hid (∀ k, (hd5 E s ++ Tg.marks (E.atr.take k)).length ≤ 60000) := fun k => Nat.le_trans (len_a E s k) (by omega)
  have HLB : Hid (emp E.tx E.ks = false → ∀ j, (hd5 E s ++ Tg.marks E.atr ++ 62 :: q E.tx.data.toList ++ puts (E.ks.take j) E.sp).length ≤ 60000) := fun h j => Nat.le_trans (len_b h s j) (by omega)
  have IH := Lib.hid ih
  have HBB := Lib.hid hB
  have HAT := Lib.hid hat
  have HKS := Lib.hid hks
  have HW0 : Hid (Below w.heap.size w (w.alloc (.cells #[.string E.sp, .string E.nm, .slice aA E.atr.length cA, .string E.tx, .slice aK E.ks.length cK] 29))) := (Below.refl _ w).alloc (Nat.le_refl _) _
  have HX0 := Lib.hid (box_new w #[.string E.sp, .string E.nm, .slice aA E.atr.length cA, .string E.tx, .slice aK E.ks.length cK] 29)
  clear hw hwk hin hB hat hks ih hq1 hq2 hwt hkm
  by_cases hsp : E.sp = s
  · have n1 : (E.sp.toList == s.toList) = true := by rw [hsp]; simp
    have n2 : (E.sp.toList != s.toList) = false := by rw [hsp]; simp
    have HT0 := Lib.hid (cat_hd0 hsp)
    have HWS := HW0
    have HXS := HX0
    clear hsp HW0 HX0 HQS hqs
    go_enter Tryz.func21, Tryz.ntmps21
    go_wp2_with fail
    go_loopw [5, 6] (fun t i wr => ∃ (k : Nat) (T : ByteArray), i = .int .i64 k ∧ t = .string T ∧ k ≤ E.atr.length ∧ T.size ≤ 60000 ∧ Hid (T.data.toList = hd5 E s ++ Tg.marks (E.atr.take k)) ∧ Hid (Below w.heap.size w wr) ∧ Hid (wr.heap[w.heap.size]? = some (.cells #[.string E.sp, .string E.nm, .slice aA E.atr.length cA, .string E.tx, .slice aK E.ks.length cK] 29 (0, 0)))) (fun _ i _ => E.atr.length - (RowKit.intOf i).toNat)
    case atStart => exact ⟨0, _, rfl, rfl, Nat.zero_le _, size_of HT0.out (by have := HLA.out 0; simp only [List.take_zero, Tg.marks, List.flatMap_nil, List.append_nil] at this; exact this), (by show _ = _; rw [HT0.out]; simp [Tg.marks]), HWS.out, HXS.out⟩
    case round =>
      clear HWS HXS HT0
      obtain ⟨k, T, rfl, rfl, hk, hT, HT, HB1, HX⟩ := hrel
      obtain ⟨x0, x1, x2, x3, x4⟩ := bx5 HX.out
      by_cases hlt : k < E.atr.length
      · obtain ⟨b, o, rfl, hb, y0, y1⟩ := (HAT.out.below (HB1.out.mono HBB.out)) k hlt
        have z0 : ∀ x : Ext wr, x.to.cell? ⟨b, o + k * 2, none⟩ = some (.string E.atr[k].1) := fun x => ext_cell x y0
        have z1 : ∀ x : Ext wr, x.to.cell? ⟨b, o + k * 2 + 1, none⟩ = some (.string E.atr[k].2) := fun x => ext_cell x y1
        have z2 : ∀ x : Ext wr, x.to.cell? ⟨w.heap.size, 2, none⟩ = some (.slice (some ⟨b, o, none⟩) E.atr.length cA) := fun x => ext_cell x x2
        obtain ⟨g1, g2⟩ := HAV.out _ (List.getElem_mem hlt)
        have HM := Lib.hid (marks_take hlt)
        have HL1 : Hid ((hd5 E s ++ Tg.marks (E.atr.take (k + 1))).length ≤ 60000) := HLA.out (k + 1)
        have hs := extSome wr
        generalize E.atr[k] = p at z0 z1 g1 g2 HM
        obtain ⟨p1, p2⟩ := p
        simp only at z0 z1 g1 g2 HM
        have g3 : (Sn.mk (q p2.data.toList)).size ≤ 18000 := by
          have h1 := (q_len p2.data.toList).2
          have h2 : p2.data.toList.length = p2.size := By.len_size _
          rw [Sn.mk_size]; omega
        have HC : Hid (∀ x : Ext wr, Calls Tryz.prog 46 #[.string p2] x.to fun e w' => e = .returned (.string (Sn.mk (q p2.data.toList))) ∧ Below x.to.heap.size x.to w') := fun x => rQuote_any _ _ (by omega)
        have HT2 : Hid ((T ++ ⟨#[32]⟩ ++ p1 ++ ⟨#[61, 39]⟩ ++ Sn.mk (q p2.data.toList) ++ ⟨#[39]⟩).data.toList = hd5 E s ++ Tg.marks (E.atr.take (k + 1))) := by
          show _ = _
          rw [cat_attr HT.out, HM.out, List.append_assoc]
        clear y0 y1 hb HT HM
        go_wp2_with fail
        refine ext_region (by kernel_rfl) (by kernel_rfl) ?_
        repeat (go_big_quiet_step ((go_at_call 46; with_reducible exact ext_call _ (HC.out _))))
        refine wpQuiet_nil ?_
        rintro _ ⟨x, hx⟩
        subst hx
        have HBX := Lib.hid (HB1.out.trans (x.below.mono HB1.out.size))
        have HXX := Lib.hid ((x.below.block _ (heap_lt HX.out)).trans HX.out)
        clear z0 z1 z2 HC x0 x1 x2 x3 x4
        go_wp2_with fail
        go_roundw
        case rel => exact ⟨k + 1, _, by go_num, rfl, by omega, size_of HT2.out HL1.out, HT2.out, HBX.out, HXX.out⟩
        case measure => simp [RowKit.intOf]; omega
      · have HT1 : Hid (T.data.toList = hd5 E s ++ Tg.marks E.atr) := by
          show _ = _
          rw [HT.out, List.take_of_length_le (by omega)]
        clear HT
        cases htx : E.tx.toList.isEmpty with
        | true =>
          by_cases hks0 : E.ks.length = 0
          · have HEM := Lib.hid (emp_a htx hks0)
            have k0 : ((E.ks.length : Int) == 0) = true := by rw [beq_iff_eq]; omega
            have HR : Hid (T ++ ⟨#[47, 62]⟩ = Sn.mk (put E s)) := Sn.mk_eq (by rw [put_bare HEM.out, By.append_list, HT1.out])
            clear hks0
            go_wp2_with fail
            go_ret
            exact ⟨by rw [← HR.out]; rfl, HB1.out⟩
          · have HEM := Lib.hid (emp_c hks0)
            have k0 : ((E.ks.length : Int) == 0) = false := by rw [beq_eq_false_iff_ne]; omega
            have HE := Lib.hid htx
            clear hks0
            go_wp2_with fail
            refine (HQT.out _).mono ?_
            rintro r w2 ⟨rfl, hbb⟩
            have HB2 := Lib.hid (HB1.out.trans (hbb.mono HB1.out.size))
            have HX2 := Lib.hid ((hbb.block _ (heap_lt HX.out)).trans HX.out)
            clear hbb x0 x1 x2 x3 x4
            obtain ⟨x0, x1, x2, x3, x4⟩ := bx5 HX2.out
            have HT3 : Hid ((T ++ ⟨#[62]⟩ ++ Sn.mk (q E.tx.data.toList)).data.toList = hd5 E s ++ Tg.marks E.atr ++ 62 :: q E.tx.data.toList) := by
              show _ = _
              simp [HT1.out, Sn.mk_list]
            have HLC : Hid (∀ j, (hd5 E s ++ Tg.marks E.atr ++ 62 :: q E.tx.data.toList ++ puts (E.ks.take j) E.sp).length ≤ 60000) := HLB.out HEM.out
            clear HT1
            go_wp2_with fail
            go_loopw [5, 7] (fun t i wr => ∃ (j : Nat) (T : ByteArray), i = .int .i64 j ∧ t = .string T ∧ j ≤ E.ks.length ∧ T.size ≤ 60000 ∧ Hid (T.data.toList = hd5 E s ++ Tg.marks E.atr ++ 62 :: q E.tx.data.toList ++ puts (E.ks.take j) E.sp) ∧ Hid (Below w.heap.size w wr) ∧ Hid (wr.heap[w.heap.size]? = some (.cells #[.string E.sp, .string E.nm, .slice aA E.atr.length cA, .string E.tx, .slice aK E.ks.length cK] 29 (0, 0)))) (fun _ i _ => E.ks.length - (RowKit.intOf i).toNat)
            case atStart =>
              have h0 : (T ++ ⟨#[62]⟩ ++ Sn.mk (q E.tx.data.toList)).data.toList = hd5 E s ++ Tg.marks E.atr ++ 62 :: q E.tx.data.toList ++ puts (E.ks.take 0) E.sp := by
                rw [HT3.out, List.take_zero, puts_nil, List.append_nil]
              exact ⟨0, _, rfl, rfl, Nat.zero_le _, size_of h0 (HLC.out 0), h0, HB2.out, HX2.out⟩
            case round =>
              clear HB2 HX2 HT3 x0 x1 x2 x3 x4
              obtain ⟨j, T2, rfl, rfl, hj, hT2, HT, HB2, HX2⟩ := hrel
              obtain ⟨x0, x1, x2, x3, x4⟩ := bx5 HX2.out
              by_cases hjl : j < E.ks.length
              · obtain ⟨b, o, a1, c1, a2, c2, rfl, hb, hf5, hkin⟩ := (HKS.out.below (HB2.out.mono HBB.out)) j hjl
                obtain ⟨y0, y1, y2, y3, y4⟩ := hf5
                have q2 : ∀ x : Ext wr, x.to.cell? ⟨w.heap.size, 4, none⟩ = _ := fun x => ext_cell x x4
                have q0 : ∀ x : Ext wr, x.to.cell? ⟨w.heap.size, 0, none⟩ = _ := fun x => ext_cell x x0
                have z0 : ∀ x : Ext wr, x.to.cell? ⟨b, o + j * 5, none⟩ = _ := fun x => ext_cell x y0
                have z1 : ∀ x : Ext wr, x.to.cell? ⟨b, o + j * 5 + 1, none⟩ = _ := fun x => ext_cell x y1
                have z2 : ∀ x : Ext wr, x.to.cell? ⟨b, o + j * 5 + 2, none⟩ = _ := fun x => ext_cell x y2
                have z3 : ∀ x : Ext wr, x.to.cell? ⟨b, o + j * 5 + 3, none⟩ = _ := fun x => ext_cell x y3
                have z4 : ∀ x : Ext wr, x.to.cell? ⟨b, o + j * 5 + 4, none⟩ = _ := fun x => ext_cell x y4
                have hBs := Nat.le_trans HBB.out HB2.out.size
                have HC : Hid (∀ x : Ext wr, Calls Tryz.prog 21 #[.agg #[.string E.ks[j].sp, .string E.ks[j].nm, .slice a1 E.ks[j].atr.length c1, .string E.ks[j].tx, .slice a2 E.ks[j].ks.length c2], .string E.sp] x.to fun r w' => r = .returned (.string (Sn.mk (put E.ks[j] E.sp))) ∧ Below x.to.heap.size x.to w') := fun x =>
                  IH.out _ (List.getElem_mem hjl) B x.to _ _ (hkin.stay (x.below.mono hBs)) (Nat.le_trans hBs x.below.size) (HKW.out _ (List.getElem_mem hjl))
                have g3 : (Sn.mk (put E.ks[j] E.sp)).size ≤ 60000 := by
                  have h1 := put_len E.ks[j] E.sp
                  have h2 := HKW.out _ (List.getElem_mem hjl)
                  rw [Sn.mk_size]; omega
                have HM := Lib.hid (puts_take hjl E.sp)
                have HT4 : Hid ((T2 ++ Sn.mk (put E.ks[j] E.sp)).data.toList = hd5 E s ++ Tg.marks E.atr ++ 62 :: q E.tx.data.toList ++ puts (E.ks.take (j + 1)) E.sp) := by
                  show _ = _
                  rw [By.append_list, HT.out, HM.out, Sn.mk_list, List.append_assoc]
                have hs := extSome wr
                clear y0 y1 y2 y3 y4 hb hkin hBs HM HT
                generalize E.ks[j] = K at *
                go_wp2_with fail
                refine ext_region (by kernel_rfl) (by kernel_rfl) ?_
                repeat (go_big_quiet_step ((go_at_call 21; with_reducible exact ext_call _ (HC.out _))))
                refine wpQuiet_nil ?_
                rintro _ ⟨x, hx⟩
                subst hx
                have HBX := Lib.hid (HB2.out.trans (x.below.mono HB2.out.size))
                have HXX := Lib.hid ((x.below.block _ (heap_lt HX2.out)).trans HX2.out)
                clear z0 z1 z2 z3 z4 q0 q2 HC x0 x1 x2 x3 x4
                go_wp2_with fail
                go_roundw
                case rel => exact ⟨j + 1, _, by go_num, rfl, by omega, size_of HT4.out (HLC.out (j + 1)), HT4.out, HBX.out, HXX.out⟩
                case measure => simp [RowKit.intOf]; omega
              · have HR : Hid (T2 ++ ⟨#[60, 47]⟩ ++ E.nm ++ ⟨#[62]⟩ = Sn.mk (put E s)) := Sn.mk_eq (by
                  rw [put_full HEM.out, By.append_list, By.append_list, By.append_list, HT.out, List.take_of_length_le (by omega)]
                  simp)
                clear HT
                go_wp2_with fail
                go_ret
                exact ⟨by rw [← HR.out]; rfl, HB2.out⟩
        | false =>
          have HEM := Lib.hid (emp_b htx)
          go_wp2_with fail
          refine (HQT.out _).mono ?_
          rintro r w2 ⟨rfl, hbb⟩
          have HB2 := Lib.hid (HB1.out.trans (hbb.mono HB1.out.size))
          have HX2 := Lib.hid ((hbb.block _ (heap_lt HX.out)).trans HX.out)
          clear hbb x0 x1 x2 x3 x4
          obtain ⟨x0, x1, x2, x3, x4⟩ := bx5 HX2.out
          have HT3 : Hid ((T ++ ⟨#[62]⟩ ++ Sn.mk (q E.tx.data.toList)).data.toList = hd5 E s ++ Tg.marks E.atr ++ 62 :: q E.tx.data.toList) := by
            show _ = _
            simp [HT1.out, Sn.mk_list]
          have HLC : Hid (∀ j, (hd5 E s ++ Tg.marks E.atr ++ 62 :: q E.tx.data.toList ++ puts (E.ks.take j) E.sp).length ≤ 60000) := HLB.out HEM.out
          clear HT1
          go_wp2_with fail
          go_loopw [5, 7] (fun t i wr => ∃ (j : Nat) (T : ByteArray), i = .int .i64 j ∧ t = .string T ∧ j ≤ E.ks.length ∧ T.size ≤ 60000 ∧ Hid (T.data.toList = hd5 E s ++ Tg.marks E.atr ++ 62 :: q E.tx.data.toList ++ puts (E.ks.take j) E.sp) ∧ Hid (Below w.heap.size w wr) ∧ Hid (wr.heap[w.heap.size]? = some (.cells #[.string E.sp, .string E.nm, .slice aA E.atr.length cA, .string E.tx, .slice aK E.ks.length cK] 29 (0, 0)))) (fun _ i _ => E.ks.length - (RowKit.intOf i).toNat)
          case atStart =>
            have h0 : (T ++ ⟨#[62]⟩ ++ Sn.mk (q E.tx.data.toList)).data.toList = hd5 E s ++ Tg.marks E.atr ++ 62 :: q E.tx.data.toList ++ puts (E.ks.take 0) E.sp := by
              rw [HT3.out, List.take_zero, puts_nil, List.append_nil]
            exact ⟨0, _, rfl, rfl, Nat.zero_le _, size_of h0 (HLC.out 0), h0, HB2.out, HX2.out⟩
          case round =>
            clear HB2 HX2 HT3 x0 x1 x2 x3 x4
            obtain ⟨j, T2, rfl, rfl, hj, hT2, HT, HB2, HX2⟩ := hrel
            obtain ⟨x0, x1, x2, x3, x4⟩ := bx5 HX2.out
            by_cases hjl : j < E.ks.length
            · obtain ⟨b, o, a1, c1, a2, c2, rfl, hb, hf5, hkin⟩ := (HKS.out.below (HB2.out.mono HBB.out)) j hjl
              obtain ⟨y0, y1, y2, y3, y4⟩ := hf5
              have q2 : ∀ x : Ext wr, x.to.cell? ⟨w.heap.size, 4, none⟩ = _ := fun x => ext_cell x x4
              have q0 : ∀ x : Ext wr, x.to.cell? ⟨w.heap.size, 0, none⟩ = _ := fun x => ext_cell x x0
              have z0 : ∀ x : Ext wr, x.to.cell? ⟨b, o + j * 5, none⟩ = _ := fun x => ext_cell x y0
              have z1 : ∀ x : Ext wr, x.to.cell? ⟨b, o + j * 5 + 1, none⟩ = _ := fun x => ext_cell x y1
              have z2 : ∀ x : Ext wr, x.to.cell? ⟨b, o + j * 5 + 2, none⟩ = _ := fun x => ext_cell x y2
              have z3 : ∀ x : Ext wr, x.to.cell? ⟨b, o + j * 5 + 3, none⟩ = _ := fun x => ext_cell x y3
              have z4 : ∀ x : Ext wr, x.to.cell? ⟨b, o + j * 5 + 4, none⟩ = _ := fun x => ext_cell x y4
              have hBs := Nat.le_trans HBB.out HB2.out.size
              have HC : Hid (∀ x : Ext wr, Calls Tryz.prog 21 #[.agg #[.string E.ks[j].sp, .string E.ks[j].nm, .slice a1 E.ks[j].atr.length c1, .string E.ks[j].tx, .slice a2 E.ks[j].ks.length c2], .string E.sp] x.to fun r w' => r = .returned (.string (Sn.mk (put E.ks[j] E.sp))) ∧ Below x.to.heap.size x.to w') := fun x =>
                IH.out _ (List.getElem_mem hjl) B x.to _ _ (hkin.stay (x.below.mono hBs)) (Nat.le_trans hBs x.below.size) (HKW.out _ (List.getElem_mem hjl))
              have g3 : (Sn.mk (put E.ks[j] E.sp)).size ≤ 60000 := by
                have h1 := put_len E.ks[j] E.sp
                have h2 := HKW.out _ (List.getElem_mem hjl)
                rw [Sn.mk_size]; omega
              have HM := Lib.hid (puts_take hjl E.sp)
              have HT4 : Hid ((T2 ++ Sn.mk (put E.ks[j] E.sp)).data.toList = hd5 E s ++ Tg.marks E.atr ++ 62 :: q E.tx.data.toList ++ puts (E.ks.take (j + 1)) E.sp) := by
                show _ = _
                rw [By.append_list, HT.out, HM.out, Sn.mk_list, List.append_assoc]
              have hs := extSome wr
              clear y0 y1 y2 y3 y4 hb hkin hBs HM HT
              generalize E.ks[j] = K at *
              go_wp2_with fail
              refine ext_region (by kernel_rfl) (by kernel_rfl) ?_
              repeat (go_big_quiet_step ((go_at_call 21; with_reducible exact ext_call _ (HC.out _))))
              refine wpQuiet_nil ?_
              rintro _ ⟨x, hx⟩
              subst hx
              have HBX := Lib.hid (HB2.out.trans (x.below.mono HB2.out.size))
              have HXX := Lib.hid ((x.below.block _ (heap_lt HX2.out)).trans HX2.out)
              clear z0 z1 z2 z3 z4 q0 q2 HC x0 x1 x2 x3 x4
              go_wp2_with fail
              go_roundw
              case rel => exact ⟨j + 1, _, by go_num, rfl, by omega, size_of HT4.out (HLC.out (j + 1)), HT4.out, HBX.out, HXX.out⟩
              case measure => simp [RowKit.intOf]; omega
            · have HR : Hid (T2 ++ ⟨#[60, 47]⟩ ++ E.nm ++ ⟨#[62]⟩ = Sn.mk (put E s)) := Sn.mk_eq (by
                rw [put_full HEM.out, By.append_list, By.append_list, By.append_list, HT.out, List.take_of_length_le (by omega)]
                simp)
              clear HT
              go_wp2_with fail
              go_ret
              exact ⟨by rw [← HR.out]; rfl, HB2.out⟩
  · have n1 : (E.sp.toList == s.toList) = false := by
      rw [Bool.eq_false_iff]; intro h
      rw [beq_iff_eq, ByteArray.toList_eq, ByteArray.toList_eq] at h
      exact hsp (Tg.bytes_eq h)
    have n2 : (E.sp.toList != s.toList) = true := by rw [bne, n1]; rfl
    have HT0 := Lib.hid (cat_hd1 hsp)
    clear hsp
    go_enter Tryz.func21, Tryz.ntmps21
    go_wp2_with fail
    refine (HQS.out _).mono ?_
    rintro r w1 ⟨rfl, hbb⟩
    have HWS := Lib.hid (HW0.out.trans (hbb.mono HW0.out.size))
    have HXS := Lib.hid ((hbb.block _ (heap_lt HX0.out)).trans HX0.out)
    clear hbb HW0 HX0 HQS
    obtain ⟨x0, x1, x2, x3, x4⟩ := bx5 HXS.out
    go_wp2_with fail
    clear x0 x1 x2 x3 x4
    go_loopw [5, 6] (fun t i wr => ∃ (k : Nat) (T : ByteArray), i = .int .i64 k ∧ t = .string T ∧ k ≤ E.atr.length ∧ T.size ≤ 60000 ∧ Hid (T.data.toList = hd5 E s ++ Tg.marks (E.atr.take k)) ∧ Hid (Below w.heap.size w wr) ∧ Hid (wr.heap[w.heap.size]? = some (.cells #[.string E.sp, .string E.nm, .slice aA E.atr.length cA, .string E.tx, .slice aK E.ks.length cK] 29 (0, 0)))) (fun _ i _ => E.atr.length - (RowKit.intOf i).toNat)
    case atStart => exact ⟨0, _, rfl, rfl, Nat.zero_le _, size_of HT0.out (by have := HLA.out 0; simp only [List.take_zero, Tg.marks, List.flatMap_nil, List.append_nil] at this; exact this), (by show _ = _; rw [HT0.out]; simp [Tg.marks]), HWS.out, HXS.out⟩
    case round =>
      clear HWS HXS HT0
      obtain ⟨k, T, rfl, rfl, hk, hT, HT, HB1, HX⟩ := hrel
      obtain ⟨x0, x1, x2, x3, x4⟩ := bx5 HX.out
      by_cases hlt : k < E.atr.length
      · obtain ⟨b, o, rfl, hb, y0, y1⟩ := (HAT.out.below (HB1.out.mono HBB.out)) k hlt
        have z0 : ∀ x : Ext wr, x.to.cell? ⟨b, o + k * 2, none⟩ = some (.string E.atr[k].1) := fun x => ext_cell x y0
        have z1 : ∀ x : Ext wr, x.to.cell? ⟨b, o + k * 2 + 1, none⟩ = some (.string E.atr[k].2) := fun x => ext_cell x y1
        have z2 : ∀ x : Ext wr, x.to.cell? ⟨w.heap.size, 2, none⟩ = some (.slice (some ⟨b, o, none⟩) E.atr.length cA) := fun x => ext_cell x x2
        obtain ⟨g1, g2⟩ := HAV.out _ (List.getElem_mem hlt)
        have HM := Lib.hid (marks_take hlt)
        have HL1 : Hid ((hd5 E s ++ Tg.marks (E.atr.take (k + 1))).length ≤ 60000) := HLA.out (k + 1)
        have hs := extSome wr
        generalize E.atr[k] = p at z0 z1 g1 g2 HM
        obtain ⟨p1, p2⟩ := p
        simp only at z0 z1 g1 g2 HM
        have g3 : (Sn.mk (q p2.data.toList)).size ≤ 18000 := by
          have h1 := (q_len p2.data.toList).2
          have h2 : p2.data.toList.length = p2.size := By.len_size _
          rw [Sn.mk_size]; omega
        have HC : Hid (∀ x : Ext wr, Calls Tryz.prog 46 #[.string p2] x.to fun e w' => e = .returned (.string (Sn.mk (q p2.data.toList))) ∧ Below x.to.heap.size x.to w') := fun x => rQuote_any _ _ (by omega)
        have HT2 : Hid ((T ++ ⟨#[32]⟩ ++ p1 ++ ⟨#[61, 39]⟩ ++ Sn.mk (q p2.data.toList) ++ ⟨#[39]⟩).data.toList = hd5 E s ++ Tg.marks (E.atr.take (k + 1))) := by
          show _ = _
          rw [cat_attr HT.out, HM.out, List.append_assoc]
        clear y0 y1 hb HT HM
        go_wp2_with fail
        refine ext_region (by kernel_rfl) (by kernel_rfl) ?_
        repeat (go_big_quiet_step ((go_at_call 46; with_reducible exact ext_call _ (HC.out _))))
        refine wpQuiet_nil ?_
        rintro _ ⟨x, hx⟩
        subst hx
        have HBX := Lib.hid (HB1.out.trans (x.below.mono HB1.out.size))
        have HXX := Lib.hid ((x.below.block _ (heap_lt HX.out)).trans HX.out)
        clear z0 z1 z2 HC x0 x1 x2 x3 x4
        go_wp2_with fail
        go_roundw
        case rel => exact ⟨k + 1, _, by go_num, rfl, by omega, size_of HT2.out HL1.out, HT2.out, HBX.out, HXX.out⟩
        case measure => simp [RowKit.intOf]; omega
      · have HT1 : Hid (T.data.toList = hd5 E s ++ Tg.marks E.atr) := by
          show _ = _
          rw [HT.out, List.take_of_length_le (by omega)]
        clear HT
        cases htx : E.tx.toList.isEmpty with
        | true =>
          by_cases hks0 : E.ks.length = 0
          · have HEM := Lib.hid (emp_a htx hks0)
            have k0 : ((E.ks.length : Int) == 0) = true := by rw [beq_iff_eq]; omega
            have HR : Hid (T ++ ⟨#[47, 62]⟩ = Sn.mk (put E s)) := Sn.mk_eq (by rw [put_bare HEM.out, By.append_list, HT1.out])
            clear hks0
            go_wp2_with fail
            go_ret
            exact ⟨by rw [← HR.out]; rfl, HB1.out⟩
          · have HEM := Lib.hid (emp_c hks0)
            have k0 : ((E.ks.length : Int) == 0) = false := by rw [beq_eq_false_iff_ne]; omega
            have HE := Lib.hid htx
            clear hks0
            go_wp2_with fail
            refine (HQT.out _).mono ?_
            rintro r w2 ⟨rfl, hbb⟩
            have HB2 := Lib.hid (HB1.out.trans (hbb.mono HB1.out.size))
            have HX2 := Lib.hid ((hbb.block _ (heap_lt HX.out)).trans HX.out)
            clear hbb x0 x1 x2 x3 x4
            obtain ⟨x0, x1, x2, x3, x4⟩ := bx5 HX2.out
            have HT3 : Hid ((T ++ ⟨#[62]⟩ ++ Sn.mk (q E.tx.data.toList)).data.toList = hd5 E s ++ Tg.marks E.atr ++ 62 :: q E.tx.data.toList) := by
              show _ = _
              simp [HT1.out, Sn.mk_list]
            have HLC : Hid (∀ j, (hd5 E s ++ Tg.marks E.atr ++ 62 :: q E.tx.data.toList ++ puts (E.ks.take j) E.sp).length ≤ 60000) := HLB.out HEM.out
            clear HT1
            go_wp2_with fail
            go_loopw [5, 7] (fun t i wr => ∃ (j : Nat) (T : ByteArray), i = .int .i64 j ∧ t = .string T ∧ j ≤ E.ks.length ∧ T.size ≤ 60000 ∧ Hid (T.data.toList = hd5 E s ++ Tg.marks E.atr ++ 62 :: q E.tx.data.toList ++ puts (E.ks.take j) E.sp) ∧ Hid (Below w.heap.size w wr) ∧ Hid (wr.heap[w.heap.size]? = some (.cells #[.string E.sp, .string E.nm, .slice aA E.atr.length cA, .string E.tx, .slice aK E.ks.length cK] 29 (0, 0)))) (fun _ i _ => E.ks.length - (RowKit.intOf i).toNat)
            case atStart =>
              have h0 : (T ++ ⟨#[62]⟩ ++ Sn.mk (q E.tx.data.toList)).data.toList = hd5 E s ++ Tg.marks E.atr ++ 62 :: q E.tx.data.toList ++ puts (E.ks.take 0) E.sp := by
                rw [HT3.out, List.take_zero, puts_nil, List.append_nil]
              exact ⟨0, _, rfl, rfl, Nat.zero_le _, size_of h0 (HLC.out 0), h0, HB2.out, HX2.out⟩
            case round =>
              clear HB2 HX2 HT3 x0 x1 x2 x3 x4
              obtain ⟨j, T2, rfl, rfl, hj, hT2, HT, HB2, HX2⟩ := hrel
              obtain ⟨x0, x1, x2, x3, x4⟩ := bx5 HX2.out
              by_cases hjl : j < E.ks.length
              · obtain ⟨b, o, a1, c1, a2, c2, rfl, hb, hf5, hkin⟩ := (HKS.out.below (HB2.out.mono HBB.out)) j hjl
                obtain ⟨y0, y1, y2, y3, y4⟩ := hf5
                have q2 : ∀ x : Ext wr, x.to.cell? ⟨w.heap.size, 4, none⟩ = _ := fun x => ext_cell x x4
                have q0 : ∀ x : Ext wr, x.to.cell? ⟨w.heap.size, 0, none⟩ = _ := fun x => ext_cell x x0
                have z0 : ∀ x : Ext wr, x.to.cell? ⟨b, o + j * 5, none⟩ = _ := fun x => ext_cell x y0
                have z1 : ∀ x : Ext wr, x.to.cell? ⟨b, o + j * 5 + 1, none⟩ = _ := fun x => ext_cell x y1
                have z2 : ∀ x : Ext wr, x.to.cell? ⟨b, o + j * 5 + 2, none⟩ = _ := fun x => ext_cell x y2
                have z3 : ∀ x : Ext wr, x.to.cell? ⟨b, o + j * 5 + 3, none⟩ = _ := fun x => ext_cell x y3
                have z4 : ∀ x : Ext wr, x.to.cell? ⟨b, o + j * 5 + 4, none⟩ = _ := fun x => ext_cell x y4
                have hBs := Nat.le_trans HBB.out HB2.out.size
                have HC : Hid (∀ x : Ext wr, Calls Tryz.prog 21 #[.agg #[.string E.ks[j].sp, .string E.ks[j].nm, .slice a1 E.ks[j].atr.length c1, .string E.ks[j].tx, .slice a2 E.ks[j].ks.length c2], .string E.sp] x.to fun r w' => r = .returned (.string (Sn.mk (put E.ks[j] E.sp))) ∧ Below x.to.heap.size x.to w') := fun x =>
                  IH.out _ (List.getElem_mem hjl) B x.to _ _ (hkin.stay (x.below.mono hBs)) (Nat.le_trans hBs x.below.size) (HKW.out _ (List.getElem_mem hjl))
                have g3 : (Sn.mk (put E.ks[j] E.sp)).size ≤ 60000 := by
                  have h1 := put_len E.ks[j] E.sp
                  have h2 := HKW.out _ (List.getElem_mem hjl)
                  rw [Sn.mk_size]; omega
                have HM := Lib.hid (puts_take hjl E.sp)
                have HT4 : Hid ((T2 ++ Sn.mk (put E.ks[j] E.sp)).data.toList = hd5 E s ++ Tg.marks E.atr ++ 62 :: q E.tx.data.toList ++ puts (E.ks.take (j + 1)) E.sp) := by
                  show _ = _
                  rw [By.append_list, HT.out, HM.out, Sn.mk_list, List.append_assoc]
                have hs := extSome wr
                clear y0 y1 y2 y3 y4 hb hkin hBs HM HT
                generalize E.ks[j] = K at *
                go_wp2_with fail
                refine ext_region (by kernel_rfl) (by kernel_rfl) ?_
                repeat (go_big_quiet_step ((go_at_call 21; with_reducible exact ext_call _ (HC.out _))))
                refine wpQuiet_nil ?_
                rintro _ ⟨x, hx⟩
                subst hx
                have HBX := Lib.hid (HB2.out.trans (x.below.mono HB2.out.size))
                have HXX := Lib.hid ((x.below.block _ (heap_lt HX2.out)).trans HX2.out)
                clear z0 z1 z2 z3 z4 q0 q2 HC x0 x1 x2 x3 x4
                go_wp2_with fail
                go_roundw
                case rel => exact ⟨j + 1, _, by go_num, rfl, by omega, size_of HT4.out (HLC.out (j + 1)), HT4.out, HBX.out, HXX.out⟩
                case measure => simp [RowKit.intOf]; omega
              · have HR : Hid (T2 ++ ⟨#[60, 47]⟩ ++ E.nm ++ ⟨#[62]⟩ = Sn.mk (put E s)) := Sn.mk_eq (by
                  rw [put_full HEM.out, By.append_list, By.append_list, By.append_list, HT.out, List.take_of_length_le (by omega)]
                  simp)
                clear HT
                go_wp2_with fail
                go_ret
                exact ⟨by rw [← HR.out]; rfl, HB2.out⟩
        | false =>
          have HEM := Lib.hid (emp_b htx)
          go_wp2_with fail
          refine (HQT.out _).mono ?_
          rintro r w2 ⟨rfl, hbb⟩
          have HB2 := Lib.hid (HB1.out.trans (hbb.mono HB1.out.size))
          have HX2 := Lib.hid ((hbb.block _ (heap_lt HX.out)).trans HX.out)
          clear hbb x0 x1 x2 x3 x4
          obtain ⟨x0, x1, x2, x3, x4⟩ := bx5 HX2.out
          have HT3 : Hid ((T ++ ⟨#[62]⟩ ++ Sn.mk (q E.tx.data.toList)).data.toList = hd5 E s ++ Tg.marks E.atr ++ 62 :: q E.tx.data.toList) := by
            show _ = _
            simp [HT1.out, Sn.mk_list]
          have HLC : Hid (∀ j, (hd5 E s ++ Tg.marks E.atr ++ 62 :: q E.tx.data.toList ++ puts (E.ks.take j) E.sp).length ≤ 60000) := HLB.out HEM.out
          clear HT1
          go_wp2_with fail
          go_loopw [5, 7] (fun t i wr => ∃ (j : Nat) (T : ByteArray), i = .int .i64 j ∧ t = .string T ∧ j ≤ E.ks.length ∧ T.size ≤ 60000 ∧ Hid (T.data.toList = hd5 E s ++ Tg.marks E.atr ++ 62 :: q E.tx.data.toList ++ puts (E.ks.take j) E.sp) ∧ Hid (Below w.heap.size w wr) ∧ Hid (wr.heap[w.heap.size]? = some (.cells #[.string E.sp, .string E.nm, .slice aA E.atr.length cA, .string E.tx, .slice aK E.ks.length cK] 29 (0, 0)))) (fun _ i _ => E.ks.length - (RowKit.intOf i).toNat)
          case atStart =>
            have h0 : (T ++ ⟨#[62]⟩ ++ Sn.mk (q E.tx.data.toList)).data.toList = hd5 E s ++ Tg.marks E.atr ++ 62 :: q E.tx.data.toList ++ puts (E.ks.take 0) E.sp := by
              rw [HT3.out, List.take_zero, puts_nil, List.append_nil]
            exact ⟨0, _, rfl, rfl, Nat.zero_le _, size_of h0 (HLC.out 0), h0, HB2.out, HX2.out⟩
          case round =>
            clear HB2 HX2 HT3 x0 x1 x2 x3 x4
            obtain ⟨j, T2, rfl, rfl, hj, hT2, HT, HB2, HX2⟩ := hrel
            obtain ⟨x0, x1, x2, x3, x4⟩ := bx5 HX2.out
            by_cases hjl : j < E.ks.length
            · obtain ⟨b, o, a1, c1, a2, c2, rfl, hb, hf5, hkin⟩ := (HKS.out.below (HB2.out.mono HBB.out)) j hjl
              obtain ⟨y0, y1, y2, y3, y4⟩ := hf5
              have q2 : ∀ x : Ext wr, x.to.cell? ⟨w.heap.size, 4, none⟩ = _ := fun x => ext_cell x x4
              have q0 : ∀ x : Ext wr, x.to.cell? ⟨w.heap.size, 0, none⟩ = _ := fun x => ext_cell x x0
              have z0 : ∀ x : Ext wr, x.to.cell? ⟨b, o + j * 5, none⟩ = _ := fun x => ext_cell x y0
              have z1 : ∀ x : Ext wr, x.to.cell? ⟨b, o + j * 5 + 1, none⟩ = _ := fun x => ext_cell x y1
              have z2 : ∀ x : Ext wr, x.to.cell? ⟨b, o + j * 5 + 2, none⟩ = _ := fun x => ext_cell x y2
              have z3 : ∀ x : Ext wr, x.to.cell? ⟨b, o + j * 5 + 3, none⟩ = _ := fun x => ext_cell x y3
              have z4 : ∀ x : Ext wr, x.to.cell? ⟨b, o + j * 5 + 4, none⟩ = _ := fun x => ext_cell x y4
              have hBs := Nat.le_trans HBB.out HB2.out.size
              have HC : Hid (∀ x : Ext wr, Calls Tryz.prog 21 #[.agg #[.string E.ks[j].sp, .string E.ks[j].nm, .slice a1 E.ks[j].atr.length c1, .string E.ks[j].tx, .slice a2 E.ks[j].ks.length c2], .string E.sp] x.to fun r w' => r = .returned (.string (Sn.mk (put E.ks[j] E.sp))) ∧ Below x.to.heap.size x.to w') := fun x =>
                IH.out _ (List.getElem_mem hjl) B x.to _ _ (hkin.stay (x.below.mono hBs)) (Nat.le_trans hBs x.below.size) (HKW.out _ (List.getElem_mem hjl))
              have g3 : (Sn.mk (put E.ks[j] E.sp)).size ≤ 60000 := by
                have h1 := put_len E.ks[j] E.sp
                have h2 := HKW.out _ (List.getElem_mem hjl)
                rw [Sn.mk_size]; omega
              have HM := Lib.hid (puts_take hjl E.sp)
              have HT4 : Hid ((T2 ++ Sn.mk (put E.ks[j] E.sp)).data.toList = hd5 E s ++ Tg.marks E.atr ++ 62 :: q E.tx.data.toList ++ puts (E.ks.take (j + 1)) E.sp) := by
                show _ = _
                rw [By.append_list, HT.out, HM.out, Sn.mk_list, List.append_assoc]
              have hs := extSome wr
              clear y0 y1 y2 y3 y4 hb hkin hBs HM HT
              generalize E.ks[j] = K at *
              go_wp2_with fail
              refine ext_region (by kernel_rfl) (by kernel_rfl) ?_
              repeat (go_big_quiet_step ((go_at_call 21; with_reducible exact ext_call _ (HC.out _))))
              refine wpQuiet_nil ?_
              rintro _ ⟨x, hx⟩
              subst hx
              have HBX := Lib.hid (HB2.out.trans (x.below.mono HB2.out.size))
              have HXX := Lib.hid ((x.below.block _ (heap_lt HX2.out)).trans HX2.out)
              clear z0 z1 z2 z3 z4 q0 q2 HC x0 x1 x2 x3 x4
              go_wp2_with fail
              go_roundw
              case rel => exact ⟨j + 1, _, by go_num, rfl, by omega, size_of HT4.out (HLC.out (j + 1)), HT4.out, HBX.out, HXX.out⟩
              case measure => simp [RowKit.intOf]; omega
            · have HR : Hid (T2 ++ ⟨#[60, 47]⟩ ++ E.nm ++ ⟨#[62]⟩ = Sn.mk (put E s)) := Sn.mk_eq (by
                rw [put_full HEM.out, By.append_list, By.append_list, By.append_list, HT.out, List.take_of_length_le (by omega)]
                simp)
              clear HT
              go_wp2_with fail
              go_ret
              exact ⟨by rw [← HR.out]; rfl, HB2.out⟩
end Go.Proofs.YtccpdfcmhggleaaGreatDoor
