/- Layer 6 in one text: contracts of the document's Put, right, Is. Conditions: those of each theorem's head. -/
import Derived.Test.YtolnpfcncmcacaaGreatDoorMM

/- The contract of the document's Put: an element's text. Condition: an element of at most 6000 letters and values. -/
namespace Go.Proofs.YtolnpfcncmcacaaGreatDoor
open Go.RowKit Go.Lib Go.Shelf Tg Sn

def putsP (e : El) : Prop := ∀ (B : Nat) (w : World) (v : Value) (s : ByteArray), In B w e v → B ≤ w.heap.size → wt e ≤ 6000 →
    Calls Tryz.prog 43 #[v, .string s] w fun r w' => r = .returned (.string (Sn.mk (put e s))) ∧ Below w.heap.size w w'
/-- What stands ahead of the attributes. -/
def hd5 (e : El) (s : ByteArray) : B8 := 60 :: (e.nm.data.toList ++ (if e.sp = s then [] else Tg.mark xmlns e.sp.data.toList))
theorem puts_take {l : List El} {k : Nat} (h : k < l.length) (s : ByteArray) : puts (l.take (k + 1)) s = puts (l.take k) s ++ put l[k] s := by
  rw [List.take_succ_eq_append_getElem h, puts_append, puts_cons, puts_nil, List.append_nil]
theorem marks_app (a b : List (ByteArray × ByteArray)) : Tg.marks (a ++ b) = Tg.marks a ++ Tg.marks b := by simp [Tg.marks]
theorem marks_take {l : List (ByteArray × ByteArray)} {k : Nat} (h : k < l.length) : Tg.marks (l.take (k + 1)) = Tg.marks (l.take k) ++ Tg.mark l[k].1.data.toList l[k].2.data.toList := by
  rw [List.take_succ_eq_append_getElem h, marks_app]
  congr 1
  simp [Tg.marks]
theorem put_hd (e : El) (s : ByteArray) : put e s = hd5 e s ++ Tg.marks e.atr ++ (if emp e.tx e.ks then [47, 62] else 62 :: q e.tx.data.toList) ++ puts e.ks e.sp ++ fin e := by
  rw [put_eq]; simp [beg, hd5]
theorem put_full {e : El} (h : emp e.tx e.ks = false) (s : ByteArray) : put e s = hd5 e s ++ Tg.marks e.atr ++ 62 :: q e.tx.data.toList ++ puts e.ks e.sp ++ ([60, 47] ++ e.nm.data.toList ++ [62]) := by
  rw [put_hd, fin, h]; simp
theorem put_bare {e : El} (h : emp e.tx e.ks = true) (s : ByteArray) : put e s = hd5 e s ++ Tg.marks e.atr ++ [47, 62] := by
  have hk : e.ks = [] := by
    unfold emp at h
    simp only [Bool.and_eq_true] at h
    exact List.isEmpty_iff.1 h.2
  rw [put_hd, fin, h, hk, puts_nil]; simp
theorem len_a (e : El) (s : ByteArray) (k : Nat) : (hd5 e s ++ Tg.marks (e.atr.take k)).length ≤ 20 * wt e := by
  have h := put_len e s
  have h2 : Tg.marks e.atr = Tg.marks (e.atr.take k) ++ Tg.marks (e.atr.drop k) := by rw [← marks_app, List.take_append_drop]
  rw [put_hd, h2] at h
  simp only [List.length_append] at h ⊢
  omega
theorem len_b {e : El} (he : emp e.tx e.ks = false) (s : ByteArray) (j : Nat) : (hd5 e s ++ Tg.marks e.atr ++ 62 :: q e.tx.data.toList ++ puts (e.ks.take j) e.sp).length ≤ 20 * wt e := by
  have h := put_len e s
  have h2 : puts e.ks e.sp = puts (e.ks.take j) e.sp ++ puts (e.ks.drop j) e.sp := by rw [← puts_append, List.take_append_drop]
  rw [put_full he, h2] at h
  simp only [List.length_append] at h ⊢
  omega
theorem cat_attr {T p1 p2 : ByteArray} {L : B8} (h : T.data.toList = L) : (T ++ ⟨#[32]⟩ ++ p1 ++ ⟨#[61, 39]⟩ ++ Sn.mk (q p2.data.toList) ++ ⟨#[39]⟩).data.toList = L ++ Tg.mark p1.data.toList p2.data.toList := by
  simp [h, Tg.mark, Sn.mk_list]
theorem cat_hd0 {e : El} {s : ByteArray} (h : e.sp = s) : ((⟨#[60]⟩ : ByteArray) ++ e.nm).data.toList = hd5 e s := by
  simp [hd5, h]
theorem cat_hd1 {e : El} {s : ByteArray} (h : ¬ e.sp = s) : ((⟨#[60]⟩ : ByteArray) ++ e.nm ++ ⟨#[32, 120, 109, 108, 110, 115, 61, 39]⟩ ++ Sn.mk (q e.sp.data.toList) ++ ⟨#[39]⟩).data.toList = hd5 e s := by
  simp [hd5, h, Tg.mark, xmlns, Sn.mk_list]
theorem size_of {T : ByteArray} {L : B8} {n : Nat} (h : T.data.toList = L) (hl : L.length ≤ n) : T.size ≤ n := by
  rw [← By.len_size, h]; exact hl
theorem emp_a {e : El} (h : e.tx.toList.isEmpty = true) (h2 : e.ks.length = 0) : emp e.tx e.ks = true := by
  have h3 : e.tx.data.toList.isEmpty = true := by rwa [ByteArray.toList_eq] at h
  simp [emp, h3, List.length_eq_zero_iff.1 h2]
theorem emp_b {e : El} (h : e.tx.toList.isEmpty = false) : emp e.tx e.ks = false := by
  have h3 : e.tx.data.toList.isEmpty = false := by rwa [ByteArray.toList_eq] at h
  unfold emp
  rw [h3, Bool.false_and]
theorem emp_c {e : El} (h2 : e.ks.length ≠ 0) : emp e.tx e.ks = false := by
  have h3 : e.ks.isEmpty = false := by
    cases h : e.ks with
    | nil => rw [h] at h2; exact absurd rfl h2
    | cons => rfl
  unfold emp
  rw [h3, Bool.and_false]

set_option maxRecDepth 100000 in
set_option maxHeartbeats 8000000 in
theorem rPut_any (e : El) : putsP e := by
  refine El.ind (P := putsP) (fun sp nm atr tx ks ih => ?_) e
  intro B w v s hin hB hwt
  generalize hE : El.mk sp nm atr tx ks = E at hin hwt
  obtain rfl : E.ks = ks := by rw [← hE]; rfl
  clear hE
  obtain ⟨aA, cA, aK, cK, rfl, ⟨hq1, hq2⟩, hkm, hat, hks⟩ := hin.out
  have hw := wt_eq E
  have hwk := wts_len E.ks
  have hnm : E.nm.size ≤ 6000 := by omega
  have HSP : Hid (E.sp.size ≤ 6000) := by show _ ≤ _; omega
  have HTX : Hid (E.tx.size ≤ 6000) := by show _ ≤ _; omega
  have HQS : Hid (∀ W, Calls Tryz.prog 64 #[.string E.sp] W fun e w' => e = .returned (.string (Sn.mk (q E.sp.data.toList))) ∧ Below W.heap.size W w') := fun W => rQuote_any _ W (by omega)
  have HQT : Hid (∀ W, Calls Tryz.prog 64 #[.string E.tx] W fun e w' => e = .returned (.string (Sn.mk (q E.tx.data.toList))) ∧ Below W.heap.size W w') := fun W => rQuote_any _ W (by omega)
  have hqs : (Sn.mk (q E.sp.data.toList)).size ≤ 36000 := by
    have h1 := (q_len E.sp.data.toList).2
    have h2 : E.sp.data.toList.length = E.sp.size := By.len_size _
    have h3 := HSP.out
    rw [Sn.mk_size]; omega
  have hqt : (Sn.mk (q E.tx.data.toList)).size ≤ 36000 := by
    have h1 := (q_len E.tx.data.toList).2
    have h2 : E.tx.data.toList.length = E.tx.size := By.len_size _
    have h3 := HTX.out
    rw [Sn.mk_size]; omega
  have HAV : Hid (∀ a ∈ E.atr, a.1.size ≤ 6000 ∧ a.2.size ≤ 6000) := fun a ha => by have := wtA_mem ha; omega
  have HKW : Hid (∀ k ∈ E.ks, wt k ≤ 6000) := fun k hk => by have := wts_mem hk; omega
  have hnk : E.ks.length ≤ 6000 := by omega
  have hna : E.atr.length ≤ 6000 := by omega
  have HLA : Hid (∀ k, (hd5 E s ++ Tg.marks (E.atr.take k)).length ≤ 120000) := fun k => Nat.le_trans (len_a E s k) (by omega)
  have HLB : Hid (emp E.tx E.ks = false → ∀ j, (hd5 E s ++ Tg.marks E.atr ++ 62 :: q E.tx.data.toList ++ puts (E.ks.take j) E.sp).length ≤ 120000) := fun h j => Nat.le_trans (len_b h s j) (by omega)
  have IH := Lib.hid ih
  have HBB := Lib.hid hB
  have HAT := Lib.hid hat
  have HKS := Lib.hid hks
  have HW0 : Hid (Below w.heap.size w (w.alloc (.cells #[.string E.sp, .string E.nm, .slice aA E.atr.length cA, .string E.tx, .slice aK E.ks.length cK] 48))) := (Below.refl _ w).alloc (Nat.le_refl _) _
  have HX0 := Lib.hid (box_new w #[.string E.sp, .string E.nm, .slice aA E.atr.length cA, .string E.tx, .slice aK E.ks.length cK] 48)
  clear hw hwk hin hB hat hks ih hq1 hq2 hwt hkm
  by_cases hsp : E.sp = s
  · have n1 : (E.sp.toList == s.toList) = true := by rw [hsp]; simp
    have n2 : (E.sp.toList != s.toList) = false := by rw [hsp]; simp
    have HT0 := Lib.hid (cat_hd0 hsp)
    have HWS := HW0
    have HXS := HX0
    clear hsp HW0 HX0 HQS hqs
    go_enter Tryz.func43, Tryz.ntmps43
    go_wp2_with fail
    go_loopw [5, 6] (fun t i wr => ∃ (k : Nat) (T : ByteArray), i = .int .i64 k ∧ t = .string T ∧ k ≤ E.atr.length ∧ T.size ≤ 120000 ∧ Hid (T.data.toList = hd5 E s ++ Tg.marks (E.atr.take k)) ∧ Hid (Below w.heap.size w wr) ∧ Hid (wr.heap[w.heap.size]? = some (.cells #[.string E.sp, .string E.nm, .slice aA E.atr.length cA, .string E.tx, .slice aK E.ks.length cK] 48 (0, 0)))) (fun _ i _ => E.atr.length - (RowKit.intOf i).toNat)
    case atStart => exact ⟨0, _, rfl, rfl, Nat.zero_le _, size_of HT0.out (by have := HLA.out 0; simp only [List.take_zero, Tg.marks, List.flatMap_nil, List.append_nil] at this; exact this), (by show _ = _; rw [HT0.out]; simp [Tg.marks]), HWS.out, HXS.out⟩
    case round =>
      clear HWS HXS HT0
      obtain ⟨k, T, rfl, rfl, hk, hT, HT, HB1, HX⟩ := hrel
      obtain ⟨x0, x1, x2, x3, x4⟩ := bx5 HX.out
      by_cases hlt : k < E.atr.length
      · obtain ⟨b, o, rfl, hb, y0, y1⟩ := (HAT.out.below (HB1.out.mono HBB.out)) k hlt
        have z0 : ∀ x : Ext wr, x.to.cell? ⟨b, o + k * 2, none⟩ = some (.string E.atr[k].1) := fun x => ext_cell x y0
        have z1 : ∀ x : Ext wr, x.to.cell? ⟨b, o + k * 2 + 1, none⟩ = some (.string E.atr[k].2) := fun x => ext_cell x y1
        have z2 : ∀ x : Ext wr, x.to.cell? ⟨w.heap.size, 2, none⟩ = some (.slice (some ⟨b, o, none⟩) E.atr.length cA) := fun x => ext_cell x x2
        obtain ⟨g1, g2⟩ := HAV.out _ (List.getElem_mem hlt)
        have HM := Lib.hid (marks_take hlt)
        have HL1 : Hid ((hd5 E s ++ Tg.marks (E.atr.take (k + 1))).length ≤ 120000) := HLA.out (k + 1)
        have hs := extSome wr
        generalize E.atr[k] = p at z0 z1 g1 g2 HM
        obtain ⟨p1, p2⟩ := p
        simp only at z0 z1 g1 g2 HM
        have g3 : (Sn.mk (q p2.data.toList)).size ≤ 36000 := by
          have h1 := (q_len p2.data.toList).2
          have h2 : p2.data.toList.length = p2.size := By.len_size _
          rw [Sn.mk_size]; omega
        have HC : Hid (∀ x : Ext wr, Calls Tryz.prog 64 #[.string p2] x.to fun e w' => e = .returned (.string (Sn.mk (q p2.data.toList))) ∧ Below x.to.heap.size x.to w') := fun x => rQuote_any _ _ (by omega)
        have HT2 : Hid ((T ++ ⟨#[32]⟩ ++ p1 ++ ⟨#[61, 39]⟩ ++ Sn.mk (q p2.data.toList) ++ ⟨#[39]⟩).data.toList = hd5 E s ++ Tg.marks (E.atr.take (k + 1))) := by
          show _ = _
          rw [cat_attr HT.out, HM.out, List.append_assoc]
        clear y0 y1 hb HT HM
        go_wp2_with fail
        refine ext_region (by kernel_rfl) (by kernel_rfl) ?_
        repeat (go_big_quiet_step ((go_at_call 64; with_reducible exact ext_call _ (HC.out _))))
        refine wpQuiet_nil ?_
        rintro _ ⟨x, hx⟩
        subst hx
        have HBX := Lib.hid (HB1.out.trans (x.below.mono HB1.out.size))
        have HXX := Lib.hid ((x.below.block _ (heap_lt HX.out)).trans HX.out)
        clear z0 z1 z2 HC x0 x1 x2 x3 x4
        go_wp2_with fail
        go_roundw
        case rel => exact ⟨k + 1, _, by go_num, rfl, by omega, size_of HT2.out HL1.out, HT2.out, HBX.out, HXX.out⟩
        case measure => simp [RowKit.intOf]; omega
      · have HT1 : Hid (T.data.toList = hd5 E s ++ Tg.marks E.atr) := by
          show _ = _
          rw [HT.out, List.take_of_length_le (by omega)]
        clear HT
        cases htx : E.tx.toList.isEmpty with
        | true =>
          by_cases hks0 : E.ks.length = 0
          · have HEM := Lib.hid (emp_a htx hks0)
            have k0 : ((E.ks.length : Int) == 0) = true := by rw [beq_iff_eq]; omega
            have HR : Hid (T ++ ⟨#[47, 62]⟩ = Sn.mk (put E s)) := Sn.mk_eq (by rw [put_bare HEM.out, By.append_list, HT1.out])
            clear hks0
            go_wp2_with fail
            go_ret
            exact ⟨by rw [← HR.out]; rfl, HB1.out⟩
          · have HEM := Lib.hid (emp_c hks0)
            have k0 : ((E.ks.length : Int) == 0) = false := by rw [beq_eq_false_iff_ne]; omega
            have HE := Lib.hid htx
            clear hks0
            go_wp2_with fail
            refine (HQT.out _).mono ?_
            rintro r w2 ⟨rfl, hbb⟩
            have HB2 := Lib.hid (HB1.out.trans (hbb.mono HB1.out.size))
            have HX2 := Lib.hid ((hbb.block _ (heap_lt HX.out)).trans HX.out)
            clear hbb x0 x1 x2 x3 x4
            obtain ⟨x0, x1, x2, x3, x4⟩ := bx5 HX2.out
            have HT3 : Hid ((T ++ ⟨#[62]⟩ ++ Sn.mk (q E.tx.data.toList)).data.toList = hd5 E s ++ Tg.marks E.atr ++ 62 :: q E.tx.data.toList) := by
              show _ = _
              simp [HT1.out, Sn.mk_list]
            have HLC : Hid (∀ j, (hd5 E s ++ Tg.marks E.atr ++ 62 :: q E.tx.data.toList ++ puts (E.ks.take j) E.sp).length ≤ 120000) := HLB.out HEM.out
            clear HT1
            go_wp2_with fail
            go_loopw [5, 7] (fun t i wr => ∃ (j : Nat) (T : ByteArray), i = .int .i64 j ∧ t = .string T ∧ j ≤ E.ks.length ∧ T.size ≤ 120000 ∧ Hid (T.data.toList = hd5 E s ++ Tg.marks E.atr ++ 62 :: q E.tx.data.toList ++ puts (E.ks.take j) E.sp) ∧ Hid (Below w.heap.size w wr) ∧ Hid (wr.heap[w.heap.size]? = some (.cells #[.string E.sp, .string E.nm, .slice aA E.atr.length cA, .string E.tx, .slice aK E.ks.length cK] 48 (0, 0)))) (fun _ i _ => E.ks.length - (RowKit.intOf i).toNat)
            case atStart =>
              have h0 : (T ++ ⟨#[62]⟩ ++ Sn.mk (q E.tx.data.toList)).data.toList = hd5 E s ++ Tg.marks E.atr ++ 62 :: q E.tx.data.toList ++ puts (E.ks.take 0) E.sp := by
                rw [HT3.out, List.take_zero, puts_nil, List.append_nil]
              exact ⟨0, _, rfl, rfl, Nat.zero_le _, size_of h0 (HLC.out 0), h0, HB2.out, HX2.out⟩
            case round =>
              clear HB2 HX2 HT3 x0 x1 x2 x3 x4
              obtain ⟨j, T2, rfl, rfl, hj, hT2, HT, HB2, HX2⟩ := hrel
              obtain ⟨x0, x1, x2, x3, x4⟩ := bx5 HX2.out
              by_cases hjl : j < E.ks.length
              · obtain ⟨b, o, a1, c1, a2, c2, rfl, hb, hf5, hkin⟩ := (HKS.out.below (HB2.out.mono HBB.out)) j hjl
                obtain ⟨y0, y1, y2, y3, y4⟩ := hf5
                have q2 : ∀ x : Ext wr, x.to.cell? ⟨w.heap.size, 4, none⟩ = _ := fun x => ext_cell x x4
                have q0 : ∀ x : Ext wr, x.to.cell? ⟨w.heap.size, 0, none⟩ = _ := fun x => ext_cell x x0
                have z0 : ∀ x : Ext wr, x.to.cell? ⟨b, o + j * 5, none⟩ = _ := fun x => ext_cell x y0
                have z1 : ∀ x : Ext wr, x.to.cell? ⟨b, o + j * 5 + 1, none⟩ = _ := fun x => ext_cell x y1
                have z2 : ∀ x : Ext wr, x.to.cell? ⟨b, o + j * 5 + 2, none⟩ = _ := fun x => ext_cell x y2
                have z3 : ∀ x : Ext wr, x.to.cell? ⟨b, o + j * 5 + 3, none⟩ = _ := fun x => ext_cell x y3
                have z4 : ∀ x : Ext wr, x.to.cell? ⟨b, o + j * 5 + 4, none⟩ = _ := fun x => ext_cell x y4
                have hBs := Nat.le_trans HBB.out HB2.out.size
                have HC : Hid (∀ x : Ext wr, Calls Tryz.prog 43 #[.agg #[.string E.ks[j].sp, .string E.ks[j].nm, .slice a1 E.ks[j].atr.length c1, .string E.ks[j].tx, .slice a2 E.ks[j].ks.length c2], .string E.sp] x.to fun r w' => r = .returned (.string (Sn.mk (put E.ks[j] E.sp))) ∧ Below x.to.heap.size x.to w') := fun x =>
                  IH.out _ (List.getElem_mem hjl) B x.to _ _ (hkin.stay (x.below.mono hBs)) (Nat.le_trans hBs x.below.size) (HKW.out _ (List.getElem_mem hjl))
                have g3 : (Sn.mk (put E.ks[j] E.sp)).size ≤ 120000 := by
                  have h1 := put_len E.ks[j] E.sp
                  have h2 := HKW.out _ (List.getElem_mem hjl)
                  rw [Sn.mk_size]; omega
                have HM := Lib.hid (puts_take hjl E.sp)
                have HT4 : Hid ((T2 ++ Sn.mk (put E.ks[j] E.sp)).data.toList = hd5 E s ++ Tg.marks E.atr ++ 62 :: q E.tx.data.toList ++ puts (E.ks.take (j + 1)) E.sp) := by
                  show _ = _
                  rw [By.append_list, HT.out, HM.out, Sn.mk_list, List.append_assoc]
                have hs := extSome wr
                clear y0 y1 y2 y3 y4 hb hkin hBs HM HT
                generalize E.ks[j] = K at *
                go_wp2_with fail
                refine ext_region (by kernel_rfl) (by kernel_rfl) ?_
                repeat (go_big_quiet_step ((go_at_call 43; with_reducible exact ext_call _ (HC.out _))))
                refine wpQuiet_nil ?_
                rintro _ ⟨x, hx⟩
                subst hx
                have HBX := Lib.hid (HB2.out.trans (x.below.mono HB2.out.size))
                have HXX := Lib.hid ((x.below.block _ (heap_lt HX2.out)).trans HX2.out)
                clear z0 z1 z2 z3 z4 q0 q2 HC x0 x1 x2 x3 x4
                go_wp2_with fail
                go_roundw
                case rel => exact ⟨j + 1, _, by go_num, rfl, by omega, size_of HT4.out (HLC.out (j + 1)), HT4.out, HBX.out, HXX.out⟩
                case measure => simp [RowKit.intOf]; omega
              · have HR : Hid (T2 ++ ⟨#[60, 47]⟩ ++ E.nm ++ ⟨#[62]⟩ = Sn.mk (put E s)) := Sn.mk_eq (by
                  rw [put_full HEM.out, By.append_list, By.append_list, By.append_list, HT.out, List.take_of_length_le (by omega)]
                  simp)
                clear HT
                go_wp2_with fail
                go_ret
                exact ⟨by rw [← HR.out]; rfl, HB2.out⟩
        | false =>
          have HEM := Lib.hid (emp_b htx)
          go_wp2_with fail
          refine (HQT.out _).mono ?_
          rintro r w2 ⟨rfl, hbb⟩
          have HB2 := Lib.hid (HB1.out.trans (hbb.mono HB1.out.size))
          have HX2 := Lib.hid ((hbb.block _ (heap_lt HX.out)).trans HX.out)
          clear hbb x0 x1 x2 x3 x4
          obtain ⟨x0, x1, x2, x3, x4⟩ := bx5 HX2.out
          have HT3 : Hid ((T ++ ⟨#[62]⟩ ++ Sn.mk (q E.tx.data.toList)).data.toList = hd5 E s ++ Tg.marks E.atr ++ 62 :: q E.tx.data.toList) := by
            show _ = _
            simp [HT1.out, Sn.mk_list]
          have HLC : Hid (∀ j, (hd5 E s ++ Tg.marks E.atr ++ 62 :: q E.tx.data.toList ++ puts (E.ks.take j) E.sp).length ≤ 120000) := HLB.out HEM.out
          clear HT1
          go_wp2_with fail
          go_loopw [5, 7] (fun t i wr => ∃ (j : Nat) (T : ByteArray), i = .int .i64 j ∧ t = .string T ∧ j ≤ E.ks.length ∧ T.size ≤ 120000 ∧ Hid (T.data.toList = hd5 E s ++ Tg.marks E.atr ++ 62 :: q E.tx.data.toList ++ puts (E.ks.take j) E.sp) ∧ Hid (Below w.heap.size w wr) ∧ Hid (wr.heap[w.heap.size]? = some (.cells #[.string E.sp, .string E.nm, .slice aA E.atr.length cA, .string E.tx, .slice aK E.ks.length cK] 48 (0, 0)))) (fun _ i _ => E.ks.length - (RowKit.intOf i).toNat)
          case atStart =>
            have h0 : (T ++ ⟨#[62]⟩ ++ Sn.mk (q E.tx.data.toList)).data.toList = hd5 E s ++ Tg.marks E.atr ++ 62 :: q E.tx.data.toList ++ puts (E.ks.take 0) E.sp := by
              rw [HT3.out, List.take_zero, puts_nil, List.append_nil]
            exact ⟨0, _, rfl, rfl, Nat.zero_le _, size_of h0 (HLC.out 0), h0, HB2.out, HX2.out⟩
          case round =>
            clear HB2 HX2 HT3 x0 x1 x2 x3 x4
            obtain ⟨j, T2, rfl, rfl, hj, hT2, HT, HB2, HX2⟩ := hrel
            obtain ⟨x0, x1, x2, x3, x4⟩ := bx5 HX2.out
            by_cases hjl : j < E.ks.length
            · obtain ⟨b, o, a1, c1, a2, c2, rfl, hb, hf5, hkin⟩ := (HKS.out.below (HB2.out.mono HBB.out)) j hjl
              obtain ⟨y0, y1, y2, y3, y4⟩ := hf5
              have q2 : ∀ x : Ext wr, x.to.cell? ⟨w.heap.size, 4, none⟩ = _ := fun x => ext_cell x x4
              have q0 : ∀ x : Ext wr, x.to.cell? ⟨w.heap.size, 0, none⟩ = _ := fun x => ext_cell x x0
              have z0 : ∀ x : Ext wr, x.to.cell? ⟨b, o + j * 5, none⟩ = _ := fun x => ext_cell x y0
              have z1 : ∀ x : Ext wr, x.to.cell? ⟨b, o + j * 5 + 1, none⟩ = _ := fun x => ext_cell x y1
              have z2 : ∀ x : Ext wr, x.to.cell? ⟨b, o + j * 5 + 2, none⟩ = _ := fun x => ext_cell x y2
              have z3 : ∀ x : Ext wr, x.to.cell? ⟨b, o + j * 5 + 3, none⟩ = _ := fun x => ext_cell x y3
              have z4 : ∀ x : Ext wr, x.to.cell? ⟨b, o + j * 5 + 4, none⟩ = _ := fun x => ext_cell x y4
              have hBs := Nat.le_trans HBB.out HB2.out.size
              have HC : Hid (∀ x : Ext wr, Calls Tryz.prog 43 #[.agg #[.string E.ks[j].sp, .string E.ks[j].nm, .slice a1 E.ks[j].atr.length c1, .string E.ks[j].tx, .slice a2 E.ks[j].ks.length c2], .string E.sp] x.to fun r w' => r = .returned (.string (Sn.mk (put E.ks[j] E.sp))) ∧ Below x.to.heap.size x.to w') := fun x =>
                IH.out _ (List.getElem_mem hjl) B x.to _ _ (hkin.stay (x.below.mono hBs)) (Nat.le_trans hBs x.below.size) (HKW.out _ (List.getElem_mem hjl))
              have g3 : (Sn.mk (put E.ks[j] E.sp)).size ≤ 120000 := by
                have h1 := put_len E.ks[j] E.sp
                have h2 := HKW.out _ (List.getElem_mem hjl)
                rw [Sn.mk_size]; omega
              have HM := Lib.hid (puts_take hjl E.sp)
              have HT4 : Hid ((T2 ++ Sn.mk (put E.ks[j] E.sp)).data.toList = hd5 E s ++ Tg.marks E.atr ++ 62 :: q E.tx.data.toList ++ puts (E.ks.take (j + 1)) E.sp) := by
                show _ = _
                rw [By.append_list, HT.out, HM.out, Sn.mk_list, List.append_assoc]
              have hs := extSome wr
              clear y0 y1 y2 y3 y4 hb hkin hBs HM HT
              generalize E.ks[j] = K at *
              go_wp2_with fail
              refine ext_region (by kernel_rfl) (by kernel_rfl) ?_
              repeat (go_big_quiet_step ((go_at_call 43; with_reducible exact ext_call _ (HC.out _))))
              refine wpQuiet_nil ?_
              rintro _ ⟨x, hx⟩
              subst hx
              have HBX := Lib.hid (HB2.out.trans (x.below.mono HB2.out.size))
              have HXX := Lib.hid ((x.below.block _ (heap_lt HX2.out)).trans HX2.out)
              clear z0 z1 z2 z3 z4 q0 q2 HC x0 x1 x2 x3 x4
              go_wp2_with fail
              go_roundw
              case rel => exact ⟨j + 1, _, by go_num, rfl, by omega, size_of HT4.out (HLC.out (j + 1)), HT4.out, HBX.out, HXX.out⟩
              case measure => simp [RowKit.intOf]; omega
            · have HR : Hid (T2 ++ ⟨#[60, 47]⟩ ++ E.nm ++ ⟨#[62]⟩ = Sn.mk (put E s)) := Sn.mk_eq (by
                rw [put_full HEM.out, By.append_list, By.append_list, By.append_list, HT.out, List.take_of_length_le (by omega)]
                simp)
              clear HT
              go_wp2_with fail
              go_ret
              exact ⟨by rw [← HR.out]; rfl, HB2.out⟩
  · have n1 : (E.sp.toList == s.toList) = false := by
      rw [Bool.eq_false_iff]; intro h
      rw [beq_iff_eq, ByteArray.toList_eq, ByteArray.toList_eq] at h
      exact hsp (Tg.bytes_eq h)
    have n2 : (E.sp.toList != s.toList) = true := by rw [bne, n1]; rfl
    have HT0 := Lib.hid (cat_hd1 hsp)
    clear hsp
    go_enter Tryz.func43, Tryz.ntmps43
    go_wp2_with fail
    refine (HQS.out _).mono ?_
    rintro r w1 ⟨rfl, hbb⟩
    have HWS := Lib.hid (HW0.out.trans (hbb.mono HW0.out.size))
    have HXS := Lib.hid ((hbb.block _ (heap_lt HX0.out)).trans HX0.out)
    clear hbb HW0 HX0 HQS
    obtain ⟨x0, x1, x2, x3, x4⟩ := bx5 HXS.out
    go_wp2_with fail
    clear x0 x1 x2 x3 x4
    go_loopw [5, 6] (fun t i wr => ∃ (k : Nat) (T : ByteArray), i = .int .i64 k ∧ t = .string T ∧ k ≤ E.atr.length ∧ T.size ≤ 120000 ∧ Hid (T.data.toList = hd5 E s ++ Tg.marks (E.atr.take k)) ∧ Hid (Below w.heap.size w wr) ∧ Hid (wr.heap[w.heap.size]? = some (.cells #[.string E.sp, .string E.nm, .slice aA E.atr.length cA, .string E.tx, .slice aK E.ks.length cK] 48 (0, 0)))) (fun _ i _ => E.atr.length - (RowKit.intOf i).toNat)
    case atStart => exact ⟨0, _, rfl, rfl, Nat.zero_le _, size_of HT0.out (by have := HLA.out 0; simp only [List.take_zero, Tg.marks, List.flatMap_nil, List.append_nil] at this; exact this), (by show _ = _; rw [HT0.out]; simp [Tg.marks]), HWS.out, HXS.out⟩
    case round =>
      clear HWS HXS HT0
      obtain ⟨k, T, rfl, rfl, hk, hT, HT, HB1, HX⟩ := hrel
      obtain ⟨x0, x1, x2, x3, x4⟩ := bx5 HX.out
      by_cases hlt : k < E.atr.length
      · obtain ⟨b, o, rfl, hb, y0, y1⟩ := (HAT.out.below (HB1.out.mono HBB.out)) k hlt
        have z0 : ∀ x : Ext wr, x.to.cell? ⟨b, o + k * 2, none⟩ = some (.string E.atr[k].1) := fun x => ext_cell x y0
        have z1 : ∀ x : Ext wr, x.to.cell? ⟨b, o + k * 2 + 1, none⟩ = some (.string E.atr[k].2) := fun x => ext_cell x y1
        have z2 : ∀ x : Ext wr, x.to.cell? ⟨w.heap.size, 2, none⟩ = some (.slice (some ⟨b, o, none⟩) E.atr.length cA) := fun x => ext_cell x x2
        obtain ⟨g1, g2⟩ := HAV.out _ (List.getElem_mem hlt)
        have HM := Lib.hid (marks_take hlt)
        have HL1 : Hid ((hd5 E s ++ Tg.marks (E.atr.take (k + 1))).length ≤ 120000) := HLA.out (k + 1)
        have hs := extSome wr
        generalize E.atr[k] = p at z0 z1 g1 g2 HM
        obtain ⟨p1, p2⟩ := p
        simp only at z0 z1 g1 g2 HM
        have g3 : (Sn.mk (q p2.data.toList)).size ≤ 36000 := by
          have h1 := (q_len p2.data.toList).2
          have h2 : p2.data.toList.length = p2.size := By.len_size _
          rw [Sn.mk_size]; omega
        have HC : Hid (∀ x : Ext wr, Calls Tryz.prog 64 #[.string p2] x.to fun e w' => e = .returned (.string (Sn.mk (q p2.data.toList))) ∧ Below x.to.heap.size x.to w') := fun x => rQuote_any _ _ (by omega)
        have HT2 : Hid ((T ++ ⟨#[32]⟩ ++ p1 ++ ⟨#[61, 39]⟩ ++ Sn.mk (q p2.data.toList) ++ ⟨#[39]⟩).data.toList = hd5 E s ++ Tg.marks (E.atr.take (k + 1))) := by
          show _ = _
          rw [cat_attr HT.out, HM.out, List.append_assoc]
        clear y0 y1 hb HT HM
        go_wp2_with fail
        refine ext_region (by kernel_rfl) (by kernel_rfl) ?_
        repeat (go_big_quiet_step ((go_at_call 64; with_reducible exact ext_call _ (HC.out _))))
        refine wpQuiet_nil ?_
        rintro _ ⟨x, hx⟩
        subst hx
        have HBX := Lib.hid (HB1.out.trans (x.below.mono HB1.out.size))
        have HXX := Lib.hid ((x.below.block _ (heap_lt HX.out)).trans HX.out)
        clear z0 z1 z2 HC x0 x1 x2 x3 x4
        go_wp2_with fail
        go_roundw
        case rel => exact ⟨k + 1, _, by go_num, rfl, by omega, size_of HT2.out HL1.out, HT2.out, HBX.out, HXX.out⟩
        case measure => simp [RowKit.intOf]; omega
      · have HT1 : Hid (T.data.toList = hd5 E s ++ Tg.marks E.atr) := by
          show _ = _
          rw [HT.out, List.take_of_length_le (by omega)]
        clear HT
        cases htx : E.tx.toList.isEmpty with
        | true =>
          by_cases hks0 : E.ks.length = 0
          · have HEM := Lib.hid (emp_a htx hks0)
            have k0 : ((E.ks.length : Int) == 0) = true := by rw [beq_iff_eq]; omega
            have HR : Hid (T ++ ⟨#[47, 62]⟩ = Sn.mk (put E s)) := Sn.mk_eq (by rw [put_bare HEM.out, By.append_list, HT1.out])
            clear hks0
            go_wp2_with fail
            go_ret
            exact ⟨by rw [← HR.out]; rfl, HB1.out⟩
          · have HEM := Lib.hid (emp_c hks0)
            have k0 : ((E.ks.length : Int) == 0) = false := by rw [beq_eq_false_iff_ne]; omega
            have HE := Lib.hid htx
            clear hks0
            go_wp2_with fail
            refine (HQT.out _).mono ?_
            rintro r w2 ⟨rfl, hbb⟩
            have HB2 := Lib.hid (HB1.out.trans (hbb.mono HB1.out.size))
            have HX2 := Lib.hid ((hbb.block _ (heap_lt HX.out)).trans HX.out)
            clear hbb x0 x1 x2 x3 x4
            obtain ⟨x0, x1, x2, x3, x4⟩ := bx5 HX2.out
            have HT3 : Hid ((T ++ ⟨#[62]⟩ ++ Sn.mk (q E.tx.data.toList)).data.toList = hd5 E s ++ Tg.marks E.atr ++ 62 :: q E.tx.data.toList) := by
              show _ = _
              simp [HT1.out, Sn.mk_list]
            have HLC : Hid (∀ j, (hd5 E s ++ Tg.marks E.atr ++ 62 :: q E.tx.data.toList ++ puts (E.ks.take j) E.sp).length ≤ 120000) := HLB.out HEM.out
            clear HT1
            go_wp2_with fail
            go_loopw [5, 7] (fun t i wr => ∃ (j : Nat) (T : ByteArray), i = .int .i64 j ∧ t = .string T ∧ j ≤ E.ks.length ∧ T.size ≤ 120000 ∧ Hid (T.data.toList = hd5 E s ++ Tg.marks E.atr ++ 62 :: q E.tx.data.toList ++ puts (E.ks.take j) E.sp) ∧ Hid (Below w.heap.size w wr) ∧ Hid (wr.heap[w.heap.size]? = some (.cells #[.string E.sp, .string E.nm, .slice aA E.atr.length cA, .string E.tx, .slice aK E.ks.length cK] 48 (0, 0)))) (fun _ i _ => E.ks.length - (RowKit.intOf i).toNat)
            case atStart =>
              have h0 : (T ++ ⟨#[62]⟩ ++ Sn.mk (q E.tx.data.toList)).data.toList = hd5 E s ++ Tg.marks E.atr ++ 62 :: q E.tx.data.toList ++ puts (E.ks.take 0) E.sp := by
                rw [HT3.out, List.take_zero, puts_nil, List.append_nil]
              exact ⟨0, _, rfl, rfl, Nat.zero_le _, size_of h0 (HLC.out 0), h0, HB2.out, HX2.out⟩
            case round =>
              clear HB2 HX2 HT3 x0 x1 x2 x3 x4
              obtain ⟨j, T2, rfl, rfl, hj, hT2, HT, HB2, HX2⟩ := hrel
              obtain ⟨x0, x1, x2, x3, x4⟩ := bx5 HX2.out
              by_cases hjl : j < E.ks.length
              · obtain ⟨b, o, a1, c1, a2, c2, rfl, hb, hf5, hkin⟩ := (HKS.out.below (HB2.out.mono HBB.out)) j hjl
                obtain ⟨y0, y1, y2, y3, y4⟩ := hf5
                have q2 : ∀ x : Ext wr, x.to.cell? ⟨w.heap.size, 4, none⟩ = _ := fun x => ext_cell x x4
                have q0 : ∀ x : Ext wr, x.to.cell? ⟨w.heap.size, 0, none⟩ = _ := fun x => ext_cell x x0
                have z0 : ∀ x : Ext wr, x.to.cell? ⟨b, o + j * 5, none⟩ = _ := fun x => ext_cell x y0
                have z1 : ∀ x : Ext wr, x.to.cell? ⟨b, o + j * 5 + 1, none⟩ = _ := fun x => ext_cell x y1
                have z2 : ∀ x : Ext wr, x.to.cell? ⟨b, o + j * 5 + 2, none⟩ = _ := fun x => ext_cell x y2
                have z3 : ∀ x : Ext wr, x.to.cell? ⟨b, o + j * 5 + 3, none⟩ = _ := fun x => ext_cell x y3
                have z4 : ∀ x : Ext wr, x.to.cell? ⟨b, o + j * 5 + 4, none⟩ = _ := fun x => ext_cell x y4
                have hBs := Nat.le_trans HBB.out HB2.out.size
                have HC : Hid (∀ x : Ext wr, Calls Tryz.prog 43 #[.agg #[.string E.ks[j].sp, .string E.ks[j].nm, .slice a1 E.ks[j].atr.length c1, .string E.ks[j].tx, .slice a2 E.ks[j].ks.length c2], .string E.sp] x.to fun r w' => r = .returned (.string (Sn.mk (put E.ks[j] E.sp))) ∧ Below x.to.heap.size x.to w') := fun x =>
                  IH.out _ (List.getElem_mem hjl) B x.to _ _ (hkin.stay (x.below.mono hBs)) (Nat.le_trans hBs x.below.size) (HKW.out _ (List.getElem_mem hjl))
                have g3 : (Sn.mk (put E.ks[j] E.sp)).size ≤ 120000 := by
                  have h1 := put_len E.ks[j] E.sp
                  have h2 := HKW.out _ (List.getElem_mem hjl)
                  rw [Sn.mk_size]; omega
                have HM := Lib.hid (puts_take hjl E.sp)
                have HT4 : Hid ((T2 ++ Sn.mk (put E.ks[j] E.sp)).data.toList = hd5 E s ++ Tg.marks E.atr ++ 62 :: q E.tx.data.toList ++ puts (E.ks.take (j + 1)) E.sp) := by
                  show _ = _
                  rw [By.append_list, HT.out, HM.out, Sn.mk_list, List.append_assoc]
                have hs := extSome wr
                clear y0 y1 y2 y3 y4 hb hkin hBs HM HT
                generalize E.ks[j] = K at *
                go_wp2_with fail
                refine ext_region (by kernel_rfl) (by kernel_rfl) ?_
                repeat (go_big_quiet_step ((go_at_call 43; with_reducible exact ext_call _ (HC.out _))))
                refine wpQuiet_nil ?_
                rintro _ ⟨x, hx⟩
                subst hx
                have HBX := Lib.hid (HB2.out.trans (x.below.mono HB2.out.size))
                have HXX := Lib.hid ((x.below.block _ (heap_lt HX2.out)).trans HX2.out)
                clear z0 z1 z2 z3 z4 q0 q2 HC x0 x1 x2 x3 x4
                go_wp2_with fail
                go_roundw
                case rel => exact ⟨j + 1, _, by go_num, rfl, by omega, size_of HT4.out (HLC.out (j + 1)), HT4.out, HBX.out, HXX.out⟩
                case measure => simp [RowKit.intOf]; omega
              · have HR : Hid (T2 ++ ⟨#[60, 47]⟩ ++ E.nm ++ ⟨#[62]⟩ = Sn.mk (put E s)) := Sn.mk_eq (by
                  rw [put_full HEM.out, By.append_list, By.append_list, By.append_list, HT.out, List.take_of_length_le (by omega)]
                  simp)
                clear HT
                go_wp2_with fail
                go_ret
                exact ⟨by rw [← HR.out]; rfl, HB2.out⟩
        | false =>
          have HEM := Lib.hid (emp_b htx)
          go_wp2_with fail
          refine (HQT.out _).mono ?_
          rintro r w2 ⟨rfl, hbb⟩
          have HB2 := Lib.hid (HB1.out.trans (hbb.mono HB1.out.size))
          have HX2 := Lib.hid ((hbb.block _ (heap_lt HX.out)).trans HX.out)
          clear hbb x0 x1 x2 x3 x4
          obtain ⟨x0, x1, x2, x3, x4⟩ := bx5 HX2.out
          have HT3 : Hid ((T ++ ⟨#[62]⟩ ++ Sn.mk (q E.tx.data.toList)).data.toList = hd5 E s ++ Tg.marks E.atr ++ 62 :: q E.tx.data.toList) := by
            show _ = _
            simp [HT1.out, Sn.mk_list]
          have HLC : Hid (∀ j, (hd5 E s ++ Tg.marks E.atr ++ 62 :: q E.tx.data.toList ++ puts (E.ks.take j) E.sp).length ≤ 120000) := HLB.out HEM.out
          clear HT1
          go_wp2_with fail
          go_loopw [5, 7] (fun t i wr => ∃ (j : Nat) (T : ByteArray), i = .int .i64 j ∧ t = .string T ∧ j ≤ E.ks.length ∧ T.size ≤ 120000 ∧ Hid (T.data.toList = hd5 E s ++ Tg.marks E.atr ++ 62 :: q E.tx.data.toList ++ puts (E.ks.take j) E.sp) ∧ Hid (Below w.heap.size w wr) ∧ Hid (wr.heap[w.heap.size]? = some (.cells #[.string E.sp, .string E.nm, .slice aA E.atr.length cA, .string E.tx, .slice aK E.ks.length cK] 48 (0, 0)))) (fun _ i _ => E.ks.length - (RowKit.intOf i).toNat)
          case atStart =>
            have h0 : (T ++ ⟨#[62]⟩ ++ Sn.mk (q E.tx.data.toList)).data.toList = hd5 E s ++ Tg.marks E.atr ++ 62 :: q E.tx.data.toList ++ puts (E.ks.take 0) E.sp := by
              rw [HT3.out, List.take_zero, puts_nil, List.append_nil]
            exact ⟨0, _, rfl, rfl, Nat.zero_le _, size_of h0 (HLC.out 0), h0, HB2.out, HX2.out⟩
          case round =>
            clear HB2 HX2 HT3 x0 x1 x2 x3 x4
            obtain ⟨j, T2, rfl, rfl, hj, hT2, HT, HB2, HX2⟩ := hrel
            obtain ⟨x0, x1, x2, x3, x4⟩ := bx5 HX2.out
            by_cases hjl : j < E.ks.length
            · obtain ⟨b, o, a1, c1, a2, c2, rfl, hb, hf5, hkin⟩ := (HKS.out.below (HB2.out.mono HBB.out)) j hjl
              obtain ⟨y0, y1, y2, y3, y4⟩ := hf5
              have q2 : ∀ x : Ext wr, x.to.cell? ⟨w.heap.size, 4, none⟩ = _ := fun x => ext_cell x x4
              have q0 : ∀ x : Ext wr, x.to.cell? ⟨w.heap.size, 0, none⟩ = _ := fun x => ext_cell x x0
              have z0 : ∀ x : Ext wr, x.to.cell? ⟨b, o + j * 5, none⟩ = _ := fun x => ext_cell x y0
              have z1 : ∀ x : Ext wr, x.to.cell? ⟨b, o + j * 5 + 1, none⟩ = _ := fun x => ext_cell x y1
              have z2 : ∀ x : Ext wr, x.to.cell? ⟨b, o + j * 5 + 2, none⟩ = _ := fun x => ext_cell x y2
              have z3 : ∀ x : Ext wr, x.to.cell? ⟨b, o + j * 5 + 3, none⟩ = _ := fun x => ext_cell x y3
              have z4 : ∀ x : Ext wr, x.to.cell? ⟨b, o + j * 5 + 4, none⟩ = _ := fun x => ext_cell x y4
              have hBs := Nat.le_trans HBB.out HB2.out.size
              have HC : Hid (∀ x : Ext wr, Calls Tryz.prog 43 #[.agg #[.string E.ks[j].sp, .string E.ks[j].nm, .slice a1 E.ks[j].atr.length c1, .string E.ks[j].tx, .slice a2 E.ks[j].ks.length c2], .string E.sp] x.to fun r w' => r = .returned (.string (Sn.mk (put E.ks[j] E.sp))) ∧ Below x.to.heap.size x.to w') := fun x =>
                IH.out _ (List.getElem_mem hjl) B x.to _ _ (hkin.stay (x.below.mono hBs)) (Nat.le_trans hBs x.below.size) (HKW.out _ (List.getElem_mem hjl))
              have g3 : (Sn.mk (put E.ks[j] E.sp)).size ≤ 120000 := by
                have h1 := put_len E.ks[j] E.sp
                have h2 := HKW.out _ (List.getElem_mem hjl)
                rw [Sn.mk_size]; omega
              have HM := Lib.hid (puts_take hjl E.sp)
              have HT4 : Hid ((T2 ++ Sn.mk (put E.ks[j] E.sp)).data.toList = hd5 E s ++ Tg.marks E.atr ++ 62 :: q E.tx.data.toList ++ puts (E.ks.take (j + 1)) E.sp) := by
                show _ = _
                rw [By.append_list, HT.out, HM.out, Sn.mk_list, List.append_assoc]
              have hs := extSome wr
              clear y0 y1 y2 y3 y4 hb hkin hBs HM HT
              generalize E.ks[j] = K at *
              go_wp2_with fail
              refine ext_region (by kernel_rfl) (by kernel_rfl) ?_
              repeat (go_big_quiet_step ((go_at_call 43; with_reducible exact ext_call _ (HC.out _))))
              refine wpQuiet_nil ?_
              rintro _ ⟨x, hx⟩
              subst hx
              have HBX := Lib.hid (HB2.out.trans (x.below.mono HB2.out.size))
              have HXX := Lib.hid ((x.below.block _ (heap_lt HX2.out)).trans HX2.out)
              clear z0 z1 z2 z3 z4 q0 q2 HC x0 x1 x2 x3 x4
              go_wp2_with fail
              go_roundw
              case rel => exact ⟨j + 1, _, by go_num, rfl, by omega, size_of HT4.out (HLC.out (j + 1)), HT4.out, HBX.out, HXX.out⟩
              case measure => simp [RowKit.intOf]; omega
            · have HR : Hid (T2 ++ ⟨#[60, 47]⟩ ++ E.nm ++ ⟨#[62]⟩ = Sn.mk (put E s)) := Sn.mk_eq (by
                rw [put_full HEM.out, By.append_list, By.append_list, By.append_list, HT.out, List.take_of_length_le (by omega)]
                simp)
              clear HT
              go_wp2_with fail
              go_ret
              exact ⟨by rw [← HR.out]; rfl, HB2.out⟩
end Go.Proofs.YtolnpfcncmcacaaGreatDoor

/- The contract of the document's right: only an element that is right passes. Condition: an element of at most 6000 letters and values. -/
namespace Go.Proofs.YtolnpfcncmcacaaGreatDoor
open Go.RowKit Go.Lib Go.Shelf Tg Sn

/-- What right answers: a yes tells that the element is right. -/
def RtP (d : Nat) (e : El) (w : World) (r : Ending) (w' : World) : Prop := (∃ b : Bool, r = .returned (.bool b) ∧ (b = true → Rt d e)) ∧ Below w.heap.size w w'
def rightP (e : El) : Prop := ∀ (d B : Nat) (w : World) (v : Value), In B w e v → B ≤ w.heap.size → wt e ≤ 6000 → d ≤ 100 →
    Calls Tryz.prog 42 #[v, .int .i64 d] w (RtP d e w)

/-- Attributes that may be. -/
def Ag (l : List At) : Prop := (∀ a ∈ l, attrNameB a.1.data.toList = true ∧ isTx a.2.data.toList = true) ∧ Dif l
theorem Ag.nil : Ag [] := ⟨fun _ h => absurd h (by simp), List.Pairwise.nil⟩
theorem Ag.next {l : List At} {k : Nat} (h : Ag (l.take k)) (hk : k < l.length) (h1 : attrNameB l[k].1.data.toList = true) (h2 : isTx l[k].2.data.toList = true) (h3 : ∀ j (hj : j < l.length), j < k → l[j].1.data.toList ≠ l[k].1.data.toList) : Ag (l.take (k + 1)) := by
  rw [List.take_succ_eq_append_getElem hk]
  refine ⟨fun a ha => ?_, ?_⟩
  · rcases List.mem_append.1 ha with hm | hm
    · exact h.1 a hm
    · rw [List.mem_singleton.1 hm]; exact ⟨h1, h2⟩
  · refine List.pairwise_append.2 ⟨h.2, List.pairwise_singleton _ _, fun a ha b hb => ?_⟩
    rw [List.mem_singleton.1 hb]
    obtain ⟨j, hj, e⟩ := List.mem_iff_getElem.1 ha
    rw [List.length_take] at hj
    rw [List.getElem_take] at e
    rw [← e]
    exact fun e2 => h3 j (by omega) (by omega) e2.symm

set_option maxRecDepth 100000 in
set_option maxHeartbeats 8000000 in
theorem right_any (e : El) : rightP e := by
  refine El.ind (P := rightP) (fun sp nm atr tx ks ih => ?_) e
  intro d B w v hin hB hwt hd
  generalize hE : El.mk sp nm atr tx ks = E at hin hwt
  obtain rfl : E.ks = ks := by rw [← hE]; rfl
  clear hE
  obtain ⟨aA, cA, aK, cK, rfl, ⟨hq1, hq2⟩, hkm, hat, hks⟩ := hin.out
  have hw := wt_eq E
  have hwk := wts_len E.ks
  have HN : Hid (∀ W, Calls Tryz.prog 62 #[.string E.nm] W fun e w' => e = .returned (.bool (nameB E.nm.data.toList)) ∧ W = w') := fun W => rName_any _ W (by omega)
  have HS : Hid (∀ W, Calls Tryz.prog 63 #[.string E.sp] W fun e w' => e = .returned (.bool (isTx E.sp.data.toList)) ∧ Below W.heap.size W w') := fun W => rText_any _ W (by omega)
  have HT : Hid (∀ W, Calls Tryz.prog 63 #[.string E.tx] W fun e w' => e = .returned (.bool (isTx E.tx.data.toList)) ∧ Below W.heap.size W w') := fun W => rText_any _ W (by omega)
  have HAV : Hid (∀ a ∈ E.atr, a.1.size ≤ 6000 ∧ a.2.size ≤ 6000) := fun a ha => by have := wtA_mem ha; omega
  have HKW : Hid (∀ k ∈ E.ks, wt k ≤ 6000) := fun k hk => by have := wts_mem hk; omega
  have hnk : E.ks.length ≤ 6000 := by omega
  have hna : E.atr.length ≤ 6000 := by omega
  have IH := Lib.hid ih
  have HBB := Lib.hid hB
  have HAT := Lib.hid hat
  have HKS := Lib.hid hks
  have HW0 : Hid (Below w.heap.size w (w.alloc (.cells #[.string E.sp, .string E.nm, .slice aA E.atr.length cA, .string E.tx, .slice aK E.ks.length cK] 48))) := (Below.refl _ w).alloc (Nat.le_refl _) _
  have HX0 := Lib.hid (box_new w #[.string E.sp, .string E.nm, .slice aA E.atr.length cA, .string E.tx, .slice aK E.ks.length cK] 48)
  clear hw hwk hin hB hat hks ih hq1 hq2 hwt hkm
  by_cases d16 : 16 < d
  · have t1 : decide ((16 : Int) < (d : Int)) = true := by rw [decide_eq_true_iff]; omega
    clear d16
    go_enter Tryz.func42, Tryz.ntmps42
    go_wp2_with fail
    go_ret
    exact ⟨⟨false, rfl, fun h => by cases h⟩, HW0.out⟩
  have t1 : decide ((16 : Int) < (d : Int)) = false := by rw [decide_eq_false_iff_not]; omega
  have D1 : Hid (d ≤ 16) := by show _ ≤ _; omega
  clear d16
  cases hn : nameB E.nm.data.toList with
  | false =>
    rw [hn] at HN
    clear hn
    go_enter Tryz.func42, Tryz.ntmps42
    go_wp2_with fail
    refine (HN.out _).mono ?_
    rintro r w1 ⟨rfl, rfl⟩
    go_wp2_with fail
    go_ret
    exact ⟨⟨false, rfl, fun h => by cases h⟩, HW0.out⟩
  | true =>
    have D2 := Lib.hid hn
    rw [hn] at HN
    clear hn
    by_cases hs0 : E.sp.size = 0
    · have t2 : E.sp.toList.isEmpty = true := by rw [ByteArray.toList_eq, By.empty_of hs0]; rfl
      clear hs0
      go_enter Tryz.func42, Tryz.ntmps42
      go_wp2_with fail
      refine (HN.out _).mono ?_
      rintro r w1 ⟨rfl, rfl⟩
      go_wp2_with fail
      go_ret
      exact ⟨⟨false, rfl, fun h => by cases h⟩, HW0.out⟩
    have t2 : E.sp.toList.isEmpty = false := By.nonempty hs0
    have D3 := Lib.hid hs0
    clear hs0
    by_cases hs1 : 256 < E.sp.size
    · have t3 : decide ((256 : Int) < (E.sp.size : Int)) = true := by rw [decide_eq_true_iff]; omega
      clear hs1
      go_enter Tryz.func42, Tryz.ntmps42
      go_wp2_with fail
      refine (HN.out _).mono ?_
      rintro r w1 ⟨rfl, rfl⟩
      go_wp2_with fail
      go_ret
      exact ⟨⟨false, rfl, fun h => by cases h⟩, HW0.out⟩
    have t3 : decide ((256 : Int) < (E.sp.size : Int)) = false := by rw [decide_eq_false_iff_not]; omega
    have D4 : Hid (E.sp.size ≤ 256) := by show _ ≤ _; omega
    clear hs1
    cases h1 : isTx E.sp.data.toList with
    | false =>
      rw [h1] at HS
      clear h1
      go_enter Tryz.func42, Tryz.ntmps42
      go_wp2_with fail
      refine (HN.out _).mono ?_
      rintro r w1 ⟨rfl, rfl⟩
      go_wp2_with fail
      refine (HS.out _).mono ?_
      rintro r w1 ⟨rfl, hbb⟩
      have HB1 := Lib.hid (HW0.out.trans (hbb.mono HW0.out.size))
      have HX1 := Lib.hid ((hbb.block _ (heap_lt HX0.out)).trans HX0.out)
      clear hbb HW0 HX0
      obtain ⟨x0, x1, x2, x3, x4⟩ := bx5 HX1.out
      go_wp2_with fail
      go_ret
      exact ⟨⟨false, rfl, fun h => by cases h⟩, HB1.out⟩
    | true =>
      have D5 := Lib.hid h1
      rw [h1] at HS
      clear h1
      cases h2 : isTx E.tx.data.toList with
      | false =>
        rw [h2] at HT
        clear h2
        go_enter Tryz.func42, Tryz.ntmps42
        go_wp2_with fail
        refine (HN.out _).mono ?_
        rintro r w1 ⟨rfl, rfl⟩
        go_wp2_with fail
        refine (HS.out _).mono ?_
        rintro r w1 ⟨rfl, hbb⟩
        have HB1 := Lib.hid (HW0.out.trans (hbb.mono HW0.out.size))
        have HX1 := Lib.hid ((hbb.block _ (heap_lt HX0.out)).trans HX0.out)
        clear hbb HW0 HX0
        obtain ⟨x0, x1, x2, x3, x4⟩ := bx5 HX1.out
        go_wp2_with fail
        refine (HT.out _).mono ?_
        rintro r w2 ⟨rfl, hbb⟩
        have HB2 := Lib.hid (HB1.out.trans (hbb.mono HB1.out.size))
        have HX2 := Lib.hid ((hbb.block _ (heap_lt HX1.out)).trans HX1.out)
        clear hbb HB1 HX1 x0 x1 x2 x3 x4
        obtain ⟨x0, x1, x2, x3, x4⟩ := bx5 HX2.out
        go_wp2_with fail
        go_ret
        exact ⟨⟨false, rfl, fun h => by cases h⟩, HB2.out⟩
      | true =>
        have D6 := Lib.hid h2
        rw [h2] at HT
        clear h2
        by_cases ha : 16 < E.atr.length
        · have t4 : decide ((16 : Int) < (E.atr.length : Int)) = true := by rw [decide_eq_true_iff]; omega
          clear ha
          go_enter Tryz.func42, Tryz.ntmps42
          go_wp2_with fail
          refine (HN.out _).mono ?_
          rintro r w1 ⟨rfl, rfl⟩
          go_wp2_with fail
          refine (HS.out _).mono ?_
          rintro r w1 ⟨rfl, hbb⟩
          have HB1 := Lib.hid (HW0.out.trans (hbb.mono HW0.out.size))
          have HX1 := Lib.hid ((hbb.block _ (heap_lt HX0.out)).trans HX0.out)
          clear hbb HW0 HX0
          obtain ⟨x0, x1, x2, x3, x4⟩ := bx5 HX1.out
          go_wp2_with fail
          refine (HT.out _).mono ?_
          rintro r w2 ⟨rfl, hbb⟩
          have HB2 := Lib.hid (HB1.out.trans (hbb.mono HB1.out.size))
          have HX2 := Lib.hid ((hbb.block _ (heap_lt HX1.out)).trans HX1.out)
          clear hbb HB1 HX1 x0 x1 x2 x3 x4
          obtain ⟨x0, x1, x2, x3, x4⟩ := bx5 HX2.out
          go_wp2_with fail
          go_ret
          exact ⟨⟨false, rfl, fun h => by cases h⟩, HB2.out⟩
        have t4 : decide ((16 : Int) < (E.atr.length : Int)) = false := by rw [decide_eq_false_iff_not]; omega
        have D7 : Hid (E.atr.length ≤ 16) := by show _ ≤ _; omega
        clear ha
        go_enter Tryz.func42, Tryz.ntmps42
        go_wp2_with fail
        refine (HN.out _).mono ?_
        rintro r w1 ⟨rfl, rfl⟩
        go_wp2_with fail
        refine (HS.out _).mono ?_
        rintro r w1 ⟨rfl, hbb⟩
        have HB1 := Lib.hid (HW0.out.trans (hbb.mono HW0.out.size))
        have HX1 := Lib.hid ((hbb.block _ (heap_lt HX0.out)).trans HX0.out)
        clear hbb HW0 HX0
        obtain ⟨x0, x1, x2, x3, x4⟩ := bx5 HX1.out
        go_wp2_with fail
        refine (HT.out _).mono ?_
        rintro r w2 ⟨rfl, hbb⟩
        have HB2 := Lib.hid (HB1.out.trans (hbb.mono HB1.out.size))
        have HX2 := Lib.hid ((hbb.block _ (heap_lt HX1.out)).trans HX1.out)
        clear hbb HB1 HX1 x0 x1 x2 x3 x4
        obtain ⟨x0, x1, x2, x3, x4⟩ := bx5 HX2.out
        go_wp2_with fail
        clear x0 x1 x2 x3 x4 HN HS HT
        go_loopw [5] (fun i wr => ∃ k : Nat, i = .int .i64 k ∧ k ≤ E.atr.length ∧ Hid (Ag (E.atr.take k)) ∧ Hid (Below w.heap.size w wr) ∧ Hid (wr.heap[w.heap.size]? = some (.cells #[.string E.sp, .string E.nm, .slice aA E.atr.length cA, .string E.tx, .slice aK E.ks.length cK] 48 (0, 0)))) (fun i _ => E.atr.length - (RowKit.intOf i).toNat)
        case atStart => exact ⟨0, rfl, Nat.zero_le _, Ag.nil, HB2.out, HX2.out⟩
        case round =>
          clear HB2 HX2
          obtain ⟨k, rfl, hk, HA, HB, HX⟩ := hrel
          obtain ⟨x0, x1, x2, x3, x4⟩ := bx5 HX.out
          by_cases hlt : k < E.atr.length
          · obtain ⟨b, o, rfl, hb, y0, y1⟩ := (HAT.out.below (HB.out.mono HBB.out)) k hlt
            obtain ⟨g1, g2⟩ := HAV.out _ (List.getElem_mem hlt)
            have HNX := Lib.hid (HA.out.next hlt)
            have HP := Lib.hid (rfl : E.atr[k] = E.atr[k])
            generalize hp : E.atr[k] = p at y0 y1 g1 g2 HNX HP
            obtain ⟨p1, p2⟩ := p
            simp only at y0 y1 g1 g2 HNX
            have HN : Hid (∀ W, Calls Tryz.prog 62 #[.string p1] W fun e w' => e = .returned (.bool (nameB p1.data.toList)) ∧ W = w') := fun W => rName_any _ W (by omega)
            have HT : Hid (∀ W, Calls Tryz.prog 63 #[.string p2] W fun e w' => e = .returned (.bool (isTx p2.data.toList)) ∧ Below W.heap.size W w') := fun W => rText_any _ W (by omega)
            have HP1 := Lib.hid hp
            clear hp
            have HBW : Hid (Below w.heap.size w (wr.alloc (.cells #[.string p1, .string p2] 81))) := HB.out.trans ((Below.refl _ wr).alloc HB.out.size _)
            have HXW : Hid ((wr.alloc (.cells #[.string p1, .string p2] 81)).heap[w.heap.size]? = some (.cells #[.string E.sp, .string E.nm, .slice (some ⟨b, o, none⟩) E.atr.length cA, .string E.tx, .slice aK E.ks.length cK] 48 (0, 0))) := (Below.heap_alloc wr _ _ (heap_lt HX.out)).trans HX.out
            have HPW : Hid ((wr.alloc (.cells #[.string p1, .string p2] 81)).heap[wr.heap.size]? = some (.cells #[.string p1, .string p2] 81 (0, 0))) := box_new wr _ _
            cases hn : nameB p1.data.toList with
            | false =>
              by_cases hxl : p1.data.toList = xlang
              · have HAN : Hid (attrNameB p1.data.toList = true) := by show _ = _; rw [hxl]; decide
                obtain rfl : p1 = ⟨#[120, 109, 108, 58, 108, 97, 110, 103]⟩ := Tg.bytes_eq hxl
                clear hxl
                rw [hn] at HN
                clear hn
                go_wp2_with fail
                refine (HN.out _).mono ?_
                rintro r w1 ⟨rfl, rfl⟩
                go_wp2_with fail
                cases ht : isTx p2.data.toList with
                | false =>
                  rw [ht] at HT
                  clear ht
                  refine (HT.out _).mono ?_
                  rintro r w1 ⟨rfl, hbb⟩
                  have HB1 := Lib.hid (HBW.out.trans (hbb.mono HBW.out.size))
                  clear hbb
                  go_wp2_with fail
                  go_ret
                  exact ⟨⟨false, rfl, fun h => by cases h⟩, HB1.out⟩
                | true =>
                  rw [ht] at HT
                  have HNY : Hid (_) := fun hj => HNX.out HAN.out ht hj
                  clear ht
                  refine (HT.out _).mono ?_
                  rintro r w1 ⟨rfl, hbb⟩
                  have HB1 := Lib.hid (HBW.out.trans (hbb.mono HBW.out.size))
                  have HX1 := Lib.hid ((hbb.block _ (heap_lt HXW.out)).trans HXW.out)
                  have HP2 := Lib.hid ((hbb.block _ (heap_lt HPW.out)).trans HPW.out)
                  clear hbb HBW HXW HPW HB HX x0 x1 x2 x3 x4 y0 y1
                  obtain ⟨x0, x1, x2, x3, x4⟩ := bx5 HX1.out
                  go_wp2_with fail
                  clear x0 x1 x2 x3 x4
                  generalize hNB : wr.heap.size = NB at HP2
                  clear hNB
                  go_loopw [7] (fun i wi => ∃ j : Nat, i = .int .i64 j ∧ j ≤ k ∧ Hid (∀ m (hm : m < E.atr.length), m < j → E.atr[m].1.data.toList ≠ (⟨#[120, 109, 108, 58, 108, 97, 110, 103]⟩ : ByteArray).data.toList) ∧ Hid (Below w.heap.size w wi) ∧ Hid (wi.heap[w.heap.size]? = some (.cells #[.string E.sp, .string E.nm, .slice (some ⟨b, o, none⟩) E.atr.length cA, .string E.tx, .slice aK E.ks.length cK] 48 (0, 0))) ∧ Hid (wi.heap[NB]? = some (.cells #[.string (⟨#[120, 109, 108, 58, 108, 97, 110, 103]⟩ : ByteArray), .string p2] 81 (0, 0)))) (fun i _ => k - (RowKit.intOf i).toNat)
                  case atStart => exact ⟨0, rfl, Nat.zero_le _, fun m hm h => absurd h (Nat.not_lt_zero _), HB1.out, HX1.out, HP2.out⟩
                  case round =>
                    clear HB1 HX1 HP2
                    obtain ⟨j, rfl, hj, HD, HB, HX, HP2⟩ := hrel
                    obtain ⟨x0, x1, x2, x3, x4⟩ := bx5 HX.out
                    by_cases hjk : j < k
                    · have hjl : j < E.atr.length := by omega
                      obtain ⟨b', o', he, hb', y0, y1⟩ := (HAT.out.below (HB.out.mono HBB.out)) j hjl
                      obtain ⟨rfl, rfl⟩ : b = b' ∧ o = o' := by
                        simp only [Option.some.injEq, Addr.mk.injEq] at he
                        exact ⟨he.1, he.2.1⟩
                      have z0 : ∀ x : Ext wr, x.to.cell? ⟨b, o + j * 2, none⟩ = some (.string E.atr[j].1) := fun x => ext_cell x y0
                      have z2 : ∀ x : Ext wr, x.to.cell? ⟨w.heap.size, 2, none⟩ = some (.slice (some ⟨b, o, none⟩) E.atr.length cA) := fun x => ext_cell x x2
                      have z3 : ∀ x : Ext wr, x.to.cell? ⟨NB, 0, none⟩ = some (.string (⟨#[120, 109, 108, 58, 108, 97, 110, 103]⟩ : ByteArray)) := fun x => ext_cell x (cell_of_heap HP2.out 0)
                      have HDN := Lib.hid (HD.out)
                      have hs := extSome wr
                      have HDX : Hid (E.atr[j].1.data.toList ≠ (⟨#[120, 109, 108, 58, 108, 97, 110, 103]⟩ : ByteArray).data.toList → ∀ m (hm : m < E.atr.length), m < j + 1 → E.atr[m].1.data.toList ≠ (⟨#[120, 109, 108, 58, 108, 97, 110, 103]⟩ : ByteArray).data.toList) := fun hne m hm h => by
                        rcases Nat.lt_succ_iff_lt_or_eq.1 h with h | h
                        · exact HDN.out m hm h
                        · subst h; exact hne
                      clear HDN HD y0 y1 he hb'
                      generalize E.atr[j] = g at z0 HDX
                      obtain ⟨g1', g2'⟩ := g
                      simp only at z0 HDX
                      by_cases heq : g1' = (⟨#[120, 109, 108, 58, 108, 97, 110, 103]⟩ : ByteArray)
                      · subst heq
                        clear HDX
                        go_wp2_with fail
                        refine ext_region (by kernel_rfl) (by kernel_rfl) ?_
                        repeat (go_big_quiet_step (fail))
                        refine wpQuiet_nil ?_
                        rintro _ ⟨x, hx⟩
                        subst hx
                        have HBX := Lib.hid (HB.out.trans (x.below.mono HB.out.size))
                        clear z0 z2 z3 x0 x1 x2 x3 x4
                        go_wp2_with fail
                        go_ret
                        exact ⟨⟨false, rfl, fun h => by cases h⟩, HBX.out⟩
                      · have n1 : (g1'.toList == [120, 109, 108, 58, 108, 97, 110, 103]) = false := by
                          rw [beq_eq_false_iff_ne, ByteArray.toList_eq]
                          exact fun h => heq (Tg.bytes_eq h)
                        have n3 : ¬ g1'.toList = [120, 109, 108, 58, 108, 97, 110, 103] := by
                          rw [ByteArray.toList_eq]
                          exact fun h => heq (Tg.bytes_eq h)
                        have HDY := Lib.hid (HDX.out fun h => heq (Tg.bytes_eq h))
                        clear heq HDX
                        go_wp2_with fail
                        refine ext_region (by kernel_rfl) (by kernel_rfl) ?_
                        repeat (go_big_quiet_step (fail))
                        refine wpQuiet_nil ?_
                        rintro _ ⟨x, hx⟩
                        subst hx
                        have HBX := Lib.hid (HB.out.trans (x.below.mono HB.out.size))
                        have HXX := Lib.hid ((x.below.block _ (heap_lt HX.out)).trans HX.out)
                        have HPX := Lib.hid ((x.below.block _ (heap_lt HP2.out)).trans HP2.out)
                        clear z0 z2 z3 x0 x1 x2 x3 x4
                        go_wp2_with fail
                        go_roundw
                        case rel => exact ⟨j + 1, by go_num, by omega, HDY.out, HBX.out, HXX.out, HPX.out⟩
                        case measure => simp [RowKit.intOf]; omega
                    · have HAG := Lib.hid (HNY.out fun m hm h => HD.out m hm (by omega))
                      clear HD HNY
                      go_wp2_with fail
                      go_roundw
                      case rel => exact ⟨k + 1, by go_num, by omega, HAG.out, HB.out, HX.out⟩
                      case measure => simp [RowKit.intOf]; omega
              · have m1 : (p1.toList == [120, 109, 108, 58, 108, 97, 110, 103]) = false := by rw [beq_eq_false_iff_ne, ByteArray.toList_eq]; exact hxl
                have m2 : (p1.toList != [120, 109, 108, 58, 108, 97, 110, 103]) = true := by rw [bne, m1]; rfl
                have m3 : ¬ p1.toList = [120, 109, 108, 58, 108, 97, 110, 103] := by rw [ByteArray.toList_eq]; exact hxl
                clear hxl
                rw [hn] at HN
                clear hn
                go_wp2_with fail
                refine (HN.out _).mono ?_
                rintro r w1 ⟨rfl, rfl⟩
                go_wp2_with fail
                go_ret
                exact ⟨⟨false, rfl, fun h => by cases h⟩, HBW.out⟩
            | true =>
              by_cases hxm : p1.data.toList = xmlns
              · obtain rfl : p1 = ⟨#[120, 109, 108, 110, 115]⟩ := Tg.bytes_eq hxm
                clear hxm
                rw [hn] at HN
                clear hn
                go_wp2_with fail
                refine (HN.out _).mono ?_
                rintro r w1 ⟨rfl, rfl⟩
                go_wp2_with fail
                go_ret
                exact ⟨⟨false, rfl, fun h => by cases h⟩, HBW.out⟩
              · have HAN : Hid (attrNameB p1.data.toList = true) := by
                  show _ = _
                  unfold attrNameB
                  rw [hn]
                  simp [hxm]
                have m1 : (p1.toList == [120, 109, 108, 110, 115]) = false := by rw [beq_eq_false_iff_ne, ByteArray.toList_eq]; exact hxm
                have m3 : ¬ p1.toList = [120, 109, 108, 110, 115] := by rw [ByteArray.toList_eq]; exact hxm
                clear hxm
                rw [hn] at HN
                clear hn
                go_wp2_with fail
                refine (HN.out _).mono ?_
                rintro r w1 ⟨rfl, rfl⟩
                go_wp2_with fail
                cases ht : isTx p2.data.toList with
                | false =>
                  rw [ht] at HT
                  clear ht
                  refine (HT.out _).mono ?_
                  rintro r w1 ⟨rfl, hbb⟩
                  have HB1 := Lib.hid (HBW.out.trans (hbb.mono HBW.out.size))
                  clear hbb
                  go_wp2_with fail
                  go_ret
                  exact ⟨⟨false, rfl, fun h => by cases h⟩, HB1.out⟩
                | true =>
                  rw [ht] at HT
                  have HNY : Hid (_) := fun hj => HNX.out HAN.out ht hj
                  clear ht
                  refine (HT.out _).mono ?_
                  rintro r w1 ⟨rfl, hbb⟩
                  have HB1 := Lib.hid (HBW.out.trans (hbb.mono HBW.out.size))
                  have HX1 := Lib.hid ((hbb.block _ (heap_lt HXW.out)).trans HXW.out)
                  have HP2 := Lib.hid ((hbb.block _ (heap_lt HPW.out)).trans HPW.out)
                  clear hbb HBW HXW HPW HB HX x0 x1 x2 x3 x4 y0 y1
                  obtain ⟨x0, x1, x2, x3, x4⟩ := bx5 HX1.out
                  go_wp2_with fail
                  clear x0 x1 x2 x3 x4
                  generalize hNB : wr.heap.size = NB at HP2
                  clear hNB
                  go_loopw [7] (fun i wi => ∃ j : Nat, i = .int .i64 j ∧ j ≤ k ∧ Hid (∀ m (hm : m < E.atr.length), m < j → E.atr[m].1.data.toList ≠ (p1).data.toList) ∧ Hid (Below w.heap.size w wi) ∧ Hid (wi.heap[w.heap.size]? = some (.cells #[.string E.sp, .string E.nm, .slice (some ⟨b, o, none⟩) E.atr.length cA, .string E.tx, .slice aK E.ks.length cK] 48 (0, 0))) ∧ Hid (wi.heap[NB]? = some (.cells #[.string (p1), .string p2] 81 (0, 0)))) (fun i _ => k - (RowKit.intOf i).toNat)
                  case atStart => exact ⟨0, rfl, Nat.zero_le _, fun m hm h => absurd h (Nat.not_lt_zero _), HB1.out, HX1.out, HP2.out⟩
                  case round =>
                    clear HB1 HX1 HP2
                    obtain ⟨j, rfl, hj, HD, HB, HX, HP2⟩ := hrel
                    obtain ⟨x0, x1, x2, x3, x4⟩ := bx5 HX.out
                    by_cases hjk : j < k
                    · have hjl : j < E.atr.length := by omega
                      obtain ⟨b', o', he, hb', y0, y1⟩ := (HAT.out.below (HB.out.mono HBB.out)) j hjl
                      obtain ⟨rfl, rfl⟩ : b = b' ∧ o = o' := by
                        simp only [Option.some.injEq, Addr.mk.injEq] at he
                        exact ⟨he.1, he.2.1⟩
                      have z0 : ∀ x : Ext wr, x.to.cell? ⟨b, o + j * 2, none⟩ = some (.string E.atr[j].1) := fun x => ext_cell x y0
                      have z2 : ∀ x : Ext wr, x.to.cell? ⟨w.heap.size, 2, none⟩ = some (.slice (some ⟨b, o, none⟩) E.atr.length cA) := fun x => ext_cell x x2
                      have z3 : ∀ x : Ext wr, x.to.cell? ⟨NB, 0, none⟩ = some (.string (p1)) := fun x => ext_cell x (cell_of_heap HP2.out 0)
                      have HDN := Lib.hid (HD.out)
                      have hs := extSome wr
                      have HDX : Hid (E.atr[j].1.data.toList ≠ (p1).data.toList → ∀ m (hm : m < E.atr.length), m < j + 1 → E.atr[m].1.data.toList ≠ (p1).data.toList) := fun hne m hm h => by
                        rcases Nat.lt_succ_iff_lt_or_eq.1 h with h | h
                        · exact HDN.out m hm h
                        · subst h; exact hne
                      clear HDN HD y0 y1 he hb'
                      generalize E.atr[j] = g at z0 HDX
                      obtain ⟨g1', g2'⟩ := g
                      simp only at z0 HDX
                      by_cases heq : g1' = (p1)
                      · have n1 : (g1'.toList == (p1).toList) = true := by rw [heq]; simp
                        clear HDX heq
                        go_wp2_with fail
                        refine ext_region (by kernel_rfl) (by kernel_rfl) ?_
                        repeat (go_big_quiet_step (fail))
                        refine wpQuiet_nil ?_
                        rintro _ ⟨x, hx⟩
                        subst hx
                        have HBX := Lib.hid (HB.out.trans (x.below.mono HB.out.size))
                        clear z0 z2 z3 x0 x1 x2 x3 x4
                        go_wp2_with fail
                        go_ret
                        exact ⟨⟨false, rfl, fun h => by cases h⟩, HBX.out⟩
                      · have n1 : (g1'.toList == (p1).toList) = false := by
                          rw [beq_eq_false_iff_ne, ByteArray.toList_eq, ByteArray.toList_eq]
                          exact fun h => heq (Tg.bytes_eq h)
                        have HDY := Lib.hid (HDX.out fun h => heq (Tg.bytes_eq h))
                        clear heq HDX
                        go_wp2_with fail
                        refine ext_region (by kernel_rfl) (by kernel_rfl) ?_
                        repeat (go_big_quiet_step (fail))
                        refine wpQuiet_nil ?_
                        rintro _ ⟨x, hx⟩
                        subst hx
                        have HBX := Lib.hid (HB.out.trans (x.below.mono HB.out.size))
                        have HXX := Lib.hid ((x.below.block _ (heap_lt HX.out)).trans HX.out)
                        have HPX := Lib.hid ((x.below.block _ (heap_lt HP2.out)).trans HP2.out)
                        clear z0 z2 z3 x0 x1 x2 x3 x4
                        go_wp2_with fail
                        go_roundw
                        case rel => exact ⟨j + 1, by go_num, by omega, HDY.out, HBX.out, HXX.out, HPX.out⟩
                        case measure => simp [RowKit.intOf]; omega
                    · have HAG := Lib.hid (HNY.out fun m hm h => HD.out m hm (by omega))
                      clear HD HNY
                      go_wp2_with fail
                      go_roundw
                      case rel => exact ⟨k + 1, by go_num, by omega, HAG.out, HB.out, HX.out⟩
                      case measure => simp [RowKit.intOf]; omega
          · have HAG : Hid (Ag E.atr) := by
              have := HA.out
              rwa [List.take_of_length_le (by omega)] at this
            clear HA
            go_wp2_with fail
            clear x0 x1 x2 x3 x4
            go_loopw [8] (fun i wi => ∃ j : Nat, i = .int .i64 j ∧ j ≤ E.ks.length ∧ Hid (∀ x ∈ E.ks.take j, Rt (d + 1) x) ∧ Hid (Below w.heap.size w wi) ∧ Hid (wi.heap[w.heap.size]? = some (.cells #[.string E.sp, .string E.nm, .slice aA E.atr.length cA, .string E.tx, .slice aK E.ks.length cK] 48 (0, 0)))) (fun i _ => E.ks.length - (RowKit.intOf i).toNat)
            case atStart => exact ⟨0, rfl, Nat.zero_le _, fun x hx => absurd hx (by simp), HB.out, HX.out⟩
            case round =>
              clear HB HX
              obtain ⟨j, rfl, hj, HR, HB, HX⟩ := hrel
              obtain ⟨x0, x1, x2, x3, x4⟩ := bx5 HX.out
              by_cases hjl : j < E.ks.length
              · obtain ⟨b, o, a1, c1, a2, c2, rfl, hb, hf5, hkin⟩ := (HKS.out.below (HB.out.mono HBB.out)) j hjl
                obtain ⟨y0, y1, y2, y3, y4⟩ := hf5
                have hC := IH.out _ (List.getElem_mem hjl) (d + 1) B _ _ hkin (Nat.le_trans HBB.out HB.out.size) (HKW.out _ (List.getElem_mem hjl)) (by have := D1.out; omega)
                have e1 : ((d + 1 : Nat) : Int) = (d : Int) + 1 := rfl
                rw [e1] at hC
                have HC := Lib.hid hC
                have HR2 : Hid (Rt (d + 1) E.ks[j] → ∀ x ∈ E.ks.take (j + 1), Rt (d + 1) x) := fun h x hx => by
                  rw [List.take_succ_eq_append_getElem hjl] at hx
                  rcases List.mem_append.1 hx with hm | hm
                  · exact HR.out x hm
                  · rw [List.mem_singleton.1 hm]; exact h
                clear hkin hb hC e1 HR
                go_wp2_with fail
                refine HC.out.mono ?_
                rintro r w2 ⟨⟨yes, rfl, hy⟩, hbb⟩
                have HB2 := Lib.hid (HB.out.trans (hbb.mono HB.out.size))
                have HX2 := Lib.hid ((hbb.block _ (heap_lt HX.out)).trans HX.out)
                clear hbb HC x0 x1 x2 x3 x4 y0 y1 y2 y3 y4
                cases yes with
                | false =>
                  clear hy
                  go_wp2_with fail
                  go_ret
                  exact ⟨⟨false, rfl, fun h => by cases h⟩, HB2.out⟩
                | true =>
                  have HR3 := Lib.hid (HR2.out (hy rfl))
                  clear hy HR2
                  go_wp2_with fail
                  go_roundw
                  case rel => exact ⟨j + 1, by go_num, by omega, HR3.out, HB2.out, HX2.out⟩
                  case measure => simp [RowKit.intOf]; omega
              · have HRT : Hid (Rt d E) := by
                  have h := HR.out
                  rw [List.take_of_length_le (by omega)] at h
                  have := Rt.mk d E.sp E.nm E.atr E.tx E.ks D1.out D2.out D3.out D4.out D5.out D6.out D7.out HAG.out.1 HAG.out.2 h
                  rwa [← E.eta] at this
                clear HR
                go_wp2_with fail
                go_ret
                exact ⟨⟨true, rfl, fun _ => HRT.out⟩, HB.out⟩
end Go.Proofs.YtolnpfcncmcacaaGreatDoor

/- The contract of the document's Is: only an element that may be passes. Condition: an element of at most 6000 letters and values. -/
namespace Go.Proofs.YtolnpfcncmcacaaGreatDoor
open Go.RowKit Go.Lib Go.Shelf Tg Sn

set_option maxRecDepth 100000 in
set_option maxHeartbeats 4000000 in
theorem is_any (e : El) (B : Nat) (w : World) (v : Value) (hin : In B w e v) (hB : B ≤ w.heap.size) (hwt : wt e ≤ 6000) :
    Calls Tryz.prog 21 #[v] w fun r w' => (∃ b : Bool, r = .returned (.bool b) ∧ (b = true → Rt 1 e ∧ (put e (Sn.mk [])).length ≤ 16384)) ∧ Below w.heap.size w w' := by
  have HR : Hid (∀ W, Below w.heap.size w W → Calls Tryz.prog 42 #[v, .int .i64 1] W (RtP 1 e W)) := fun W hb => right_any e 1 B W v (hin.stay (hb.mono hB)) (Nat.le_trans hB hb.size) hwt (by decide)
  have HP : Hid (∀ W, Below w.heap.size w W → Calls Tryz.prog 43 #[v, .string ⟨#[]⟩] W fun r w' => r = .returned (.string (Sn.mk (put e (Sn.mk [])))) ∧ Below W.heap.size W w') :=
    fun W hb => rPut_any e B W v ⟨#[]⟩ (hin.stay (hb.mono hB)) (Nat.le_trans hB hb.size) hwt
  obtain ⟨aA, cA, aK, cK, rfl⟩ := hin.form
  have HW0 : Hid (Below w.heap.size w (w.alloc (.cells #[.string e.sp, .string e.nm, .slice aA e.atr.length cA, .string e.tx, .slice aK e.ks.length cK] 48))) := (Below.refl _ w).alloc (Nat.le_refl _) _
  have HX0 := Lib.hid (box_new w #[.string e.sp, .string e.nm, .slice aA e.atr.length cA, .string e.tx, .slice aK e.ks.length cK] 48)
  have HZ : Hid ((Sn.mk (put e (Sn.mk []))).size = (put e (Sn.mk [])).length) := Sn.mk_size _
  have hz : (Sn.mk (put e (Sn.mk []))).size ≤ 200000 := by
    have := put_len e (Sn.mk [])
    rw [Sn.mk_size]; omega
  clear hin hwt
  by_cases hlt : (Sn.mk (put e (Sn.mk []))).size ≤ 16384
  case' pos =>
    have HZL : Hid (true = true → (put e (Sn.mk [])).length ≤ 16384) := fun _ => by rw [← HZ.out]; exact hlt
    have d1 : decide (((Sn.mk (put e (Sn.mk []))).size : Int) ≤ 16384) = true := by rw [decide_eq_true_iff]; omega
  case' neg =>
    have HZL : Hid (false = true → (put e (Sn.mk [])).length ≤ 16384) := fun h => by cases h
    have d1 : decide (((Sn.mk (put e (Sn.mk []))).size : Int) ≤ 16384) = false := by rw [decide_eq_false_iff_not]; omega
  all_goals
    clear hlt HZ
    go_enter Tryz.func21, Tryz.ntmps21
    go_wp2_with fail
    refine (HR.out _ ((Below.refl _ w).alloc (Nat.le_refl _) _)).mono ?_
    rintro r w1 ⟨⟨b, rfl, hb⟩, hbb⟩
    have HB := Lib.hid (HW0.out.trans (hbb.mono HW0.out.size))
    have HX1 := Lib.hid ((hbb.block _ (heap_lt HX0.out)).trans HX0.out)
    obtain ⟨x0, x1, x2, x3, x4⟩ := bx5 HX1.out
    clear hbb
    have HT := Lib.hid hb
    clear hb
    cases b with
    | false =>
      go_wp2_with fail
      go_ret
      exact ⟨⟨false, rfl, fun h => by cases h⟩, HB.out⟩
    | true =>
      go_wp2_with fail
      refine (HP.out _ HB.out).mono ?_
      rintro r w2 ⟨rfl, hbb⟩
      have HB2 := Lib.hid (HB.out.trans (hbb.mono HB.out.size))
      clear hbb
      go_wp2_with fail
      go_ret
      exact ⟨⟨_, rfl, fun h => ⟨HT.out (by trivial), by first | exact HZL.out (by trivial) | cases h⟩⟩, HB2.out⟩
end Go.Proofs.YtolnpfcncmcacaaGreatDoor
