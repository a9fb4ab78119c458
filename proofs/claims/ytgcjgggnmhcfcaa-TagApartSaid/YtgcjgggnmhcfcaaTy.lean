/- Contract of tag.mayBe: whether an element may be, its kids aside. Condition: an element of at most 20000 values and letters. -/
import Derived.Test.YtgcjgggnmhcfcaaTh
namespace Go.Proofs.Ytgcjgggnmhcfcaa
open Go.RowKit Go.Lib Go.Shelf Tg

set_option maxRecDepth 100000 in
set_option maxHeartbeats 4000000 in
theorem mayBe_any (e : El) (aA : Option Addr) (cA : Nat) (aK : Option Addr) (cK : Nat) (w : World) (ht : wt e ≤ 20000) (hcA : e.atr.length ≤ cA) (hA : AtIn w.heap.size w aA e.atr) :
    Calls Try.prog 14 #[.agg #[.string e.sp, .string e.nm, .slice aA e.atr.length cA, .string e.tx, .slice aK e.ks.length cK]] w fun r w' => r = .returned (.bool (mayB e)) ∧ Below w.heap.size w w' := by
  have hw := wt_eq e
  have han : e.atr.length ≤ 20000 := by omega
  have E : Hid (mayB e = (nameB e.nm.data.toList && spaceB e.sp.data.toList && decide (e.atr.length ≤ 16) && isTx e.tx.data.toList && attrsB e.atr)) := rfl
  have N1 := Lib.hid (fun W => isName_any e.nm W (by omega))
  have N2 := Lib.hid (fun W => isSpace_any e.sp W (by omega))
  have N4 := Lib.hid (fun W => isText_any e.tx W (by omega))
  have HAM : Hid (∀ a ∈ e.atr, a.1.size ≤ 1048576 ∧ a.2.size ≤ 1048576) := fun a ha => by have := wtA_mem ha; omega
  have k3 : decide ((16 : Int) < e.atr.length) = !decide (e.atr.length ≤ 16) := by
    rw [Bool.eq_iff_iff]; simp; omega
  have HA := Lib.hid hA
  have HX0 := Lib.hid (box_new w #[.string e.sp, .string e.nm, .slice aA e.atr.length cA, .string e.tx, .slice aK e.ks.length cK] 25)
  have HW0 : Hid (Below w.heap.size w (w.alloc (.cells #[.string e.sp, .string e.nm, .slice aA e.atr.length cA, .string e.tx, .slice aK e.ks.length cK] 25))) := (Below.refl _ _).alloc (Nat.le_refl _) _
  clear hw hA ht
  generalize nameB e.nm.data.toList = b1 at N1 E
  cases b1 with
  | false =>
    have E2 : Hid (mayB e = false) := E.out.trans (by simp)
    clear E k3
    go_enter Try.func14, Try.ntmps14
    go_wp2_with fail
    refine (N1.out _).mono ?_
    rintro r w1 ⟨rfl, rfl⟩
    go_wp2_with fail
    go_ret
    exact ⟨by rw [E2.out]; rfl, HW0.out⟩
  | true =>
    generalize spaceB e.sp.data.toList = b2 at N2 E
    cases b2 with
    | false =>
      have E2 : Hid (mayB e = false) := E.out.trans (by simp)
      clear E k3
      go_enter Try.func14, Try.ntmps14
      go_wp2_with fail
      refine (N1.out _).mono ?_
      rintro r w1 ⟨rfl, rfl⟩
      go_wp2_with fail
      refine (N2.out _).mono ?_
      rintro r w1 ⟨rfl, hb⟩
      have HB := Lib.hid (more HW0.out (Nat.le_refl _) hb)
      clear hb
      go_wp2_with fail
      go_ret
      exact ⟨by rw [E2.out]; rfl, HB.out⟩
    | true =>
      generalize hb3 : decide (e.atr.length ≤ 16) = b3 at k3 E
      cases b3 with
      | false =>
        have E2 : Hid (mayB e = false) := E.out.trans (by simp)
        clear E hb3
        go_enter Try.func14, Try.ntmps14
        go_wp2_with fail
        refine (N1.out _).mono ?_
        rintro r w1 ⟨rfl, rfl⟩
        go_wp2_with fail
        refine (N2.out _).mono ?_
        rintro r w1 ⟨rfl, hb⟩
        have HB := Lib.hid (more HW0.out (Nat.le_refl _) hb)
        obtain ⟨x0, x1, x2, x3, x4⟩ := bx5 ((hb.block _ (heap_lt HX0.out)).trans HX0.out)
        clear hb
        go_wp2_with fail
        go_ret
        exact ⟨by rw [E2.out]; rfl, HB.out⟩
      | true =>
        clear hb3
        generalize isTx e.tx.data.toList = b4 at N4 E
        cases b4 with
        | false =>
          have E2 : Hid (mayB e = false) := E.out.trans (by simp)
          clear E
          go_enter Try.func14, Try.ntmps14
          go_wp2_with fail
          refine (N1.out _).mono ?_
          rintro r w1 ⟨rfl, rfl⟩
          go_wp2_with fail
          refine (N2.out _).mono ?_
          rintro r w1 ⟨rfl, hb⟩
          have HB := Lib.hid (more HW0.out (Nat.le_refl _) hb)
          obtain ⟨x0, x1, x2, x3, x4⟩ := bx5 ((hb.block _ (heap_lt HX0.out)).trans HX0.out)
          clear hb
          go_wp2_with fail
          refine (N4.out _).mono ?_
          rintro r w2 ⟨rfl, hb⟩
          have HB2 := Lib.hid (more HB.out (Nat.le_refl _) hb)
          clear hb
          go_wp2_with fail
          go_ret
          exact ⟨by rw [E2.out]; rfl, HB2.out⟩
        | true =>
          have E2 : Hid (mayB e = attrsB e.atr) := E.out.trans (by simp)
          clear E
          go_enter Try.func14, Try.ntmps14
          go_wp2_with fail
          refine (N1.out _).mono ?_
          rintro r w1 ⟨rfl, rfl⟩
          go_wp2_with fail
          refine (N2.out _).mono ?_
          rintro r w1 ⟨rfl, hb⟩
          have HB := Lib.hid (more HW0.out (Nat.le_refl _) hb)
          have HX1 := Lib.hid ((hb.block _ (heap_lt HX0.out)).trans HX0.out)
          obtain ⟨x0, x1, x2, x3, x4⟩ := bx5 HX1.out
          clear hb
          go_wp2_with fail
          refine (N4.out _).mono ?_
          rintro r w2 ⟨rfl, hb⟩
          have HB2 := Lib.hid (more HB.out (Nat.le_refl _) hb)
          have HX2 := Lib.hid ((hb.block _ (heap_lt HX1.out)).trans HX1.out)
          clear hb x0 x1 x2 x3 x4 HX1 HX0 HB
          obtain ⟨x0, x1, x2, x3, x4⟩ := bx5 HX2.out
          go_wp2_with fail
          clear x0 x1 x2 x3 x4
          go_loopw [30] (fun i wr => ∃ k : Nat, i = .int .i64 k ∧ k ≤ e.atr.length ∧ Hid (∀ j (hj : j < e.atr.length), j < k → attrB (e.atr.take j) e.atr[j] = true) ∧ Hid (Below w.heap.size w wr) ∧ Hid (wr.heap[w.heap.size]? = some (.cells #[.string e.sp, .string e.nm, .slice aA e.atr.length cA, .string e.tx, .slice aK e.ks.length cK] 25 (0, 0)))) (fun i _ => e.atr.length - (RowKit.intOf i).toNat)
          case atStart => exact ⟨0, rfl, Nat.zero_le _, (fun j _ h => by cases h), HB2.out, HX2.out⟩
          case round =>
            obtain ⟨k, rfl, hk, HO, HB, HX⟩ := hrel
            clear HB2 HX2 N1 N2 N4
            by_cases hlt : k < e.atr.length
            · obtain ⟨b, o, rfl, hb, y0, y1⟩ := (HA.out.below HB.out) k hlt
              have hWW : wr.alloc (.cells #[.string e.atr[k].1, .string e.atr[k].2] 53) = wr.alloc (.cells #[.string e.atr[k].1, .string e.atr[k].2] 53) := rfl
              generalize hW : wr.alloc (.cells #[.string e.atr[k].1, .string e.atr[k].2] 53) = W at hWW
              have HBW : Hid (Below w.heap.size w W) := by rw [← hW]; exact HB.out.alloc HB.out.size _
              have HXW : Hid (W.heap[w.heap.size]? = some (.cells #[.string e.sp, .string e.nm, .slice (some ⟨b, o, none⟩) e.atr.length cA, .string e.tx, .slice aK e.ks.length cK] 25 (0, 0))) := by
                show _ = _
                rw [← hW, Below.heap_alloc _ _ _ (heap_lt HX.out)]; exact HX.out
              have hya : W.heap[wr.heap.size]? = some (.cells #[.string e.atr[k].1, .string e.atr[k].2] 53 (0, 0)) := by rw [← hW]; exact box_new wr _ _
              have z0 : ∀ x : Ext W, x.to.cell? ⟨wr.heap.size, 0, none⟩ = some (.string e.atr[k].1) := fun x => ext_cell x (by rw [Lib.cell_of_heap hya]; rfl)
              have z1 : ∀ x : Ext W, x.to.cell? ⟨wr.heap.size, 1, none⟩ = some (.string e.atr[k].2) := fun x => ext_cell x (by rw [Lib.cell_of_heap hya]; rfl)
              have z2 : ∀ x : Ext W, x.to.cell? ⟨w.heap.size, 2, none⟩ = some (.slice (some ⟨b, o, none⟩) e.atr.length cA) := fun x => ext_cell x (by rw [Lib.cell_of_heap HXW.out]; rfl)
              obtain ⟨zz1, zz2⟩ := HAM.out _ (List.getElem_mem hlt)
              have M1 := Lib.hid (fun W => isAttrName_any e.atr[k].1 W zz1)
              have M2 : Hid (∀ x : Ext W, Calls Try.prog 31 #[.slice (some ⟨b, o, none⟩) k cA, .string e.atr[k].1] x.to fun r w' => r = .returned (.bool (hasB (e.atr.take k) e.atr[k].1)) ∧ Below x.to.heap.size x.to w') := by
                intro x
                have hlen : (e.atr.take k).length = k := by simp; omega
                have hat : AtIn x.to.heap.size x.to (some ⟨b, o, none⟩) (e.atr.take k) := by
                  have h1 := (HA.out.below (HBW.out.trans (x.below.mono HBW.out.size))).up (Nat.le_trans HBW.out.size x.below.size)
                  intro i hi
                  have hi2 : i < e.atr.length := by rw [hlen] at hi; omega
                  obtain ⟨b2, o2, q1, q2, q3, q4⟩ := h1 i hi2
                  refine ⟨b2, o2, q1, q2, ?_, ?_⟩
                  · rw [q3]; simp
                  · rw [q4]; simp
                have := hasAttr_any (e.atr.take k) e.atr[k].1 (some ⟨b, o, none⟩) cA x.to (by rw [hlen]; omega) hat
                rwa [hlen] at this
              have M3 := Lib.hid (fun W => isText_any e.atr[k].2 W zz2)
              have EA : Hid (attrB (e.atr.take k) e.atr[k] = (attrNameB e.atr[k].1.data.toList && !hasB (e.atr.take k) e.atr[k].1 && isTx e.atr[k].2.data.toList)) := rfl
              have HFA := Lib.hid (fun h => attrs_fail hlt h)
              have hs := extSome W
              obtain ⟨x0, x1, x2, x3, x4⟩ := bx5 HX.out
              generalize attrNameB e.atr[k].1.data.toList = c1 at M1 EA
              generalize hasB (e.atr.take k) e.atr[k].1 = c2 at M2 EA
              generalize isTx e.atr[k].2.data.toList = c3 at M3 EA
              clear HAM hWW zz1 zz2 hya
              cases c1 with
              | false =>
                have EF : Hid (mayB e = false) := E2.out.trans (HFA.out (EA.out.trans (by simp)))
                clear HFA EA E2
                go_wp2_with fail
                refine ext_region (by kernel_rfl) (by kernel_rfl) ?_
                repeat (go_big_quiet_step ((first | (go_at_call 30; with_reducible exact ext_same _ (M1.out _)))))
                refine wpQuiet_nil ?_
                rintro _ ⟨x, hx⟩
                subst hx
                go_wp2_with fail
                go_ret
                exact ⟨by rw [EF.out]; rfl, HBW.out.trans (x.below.mono HBW.out.size)⟩
              | true =>
                cases c2 with
                | true =>
                  have EF : Hid (mayB e = false) := E2.out.trans (HFA.out (EA.out.trans (by simp)))
                  clear HFA EA E2
                  go_wp2_with fail
                  refine ext_region (by kernel_rfl) (by kernel_rfl) ?_
                  repeat (go_big_quiet_step ((first | (go_at_call 30; with_reducible exact ext_same _ (M1.out _)) | (go_at_call 31; with_reducible exact ext_call _ (M2.out _)) | (go_at_call 29; with_reducible exact ext_call _ (M3.out _)))))
                  refine wpQuiet_nil ?_
                  rintro _ ⟨x, hx⟩
                  subst hx
                  go_wp2_with fail
                  go_ret
                  exact ⟨by rw [EF.out]; rfl, HBW.out.trans (x.below.mono HBW.out.size)⟩
                | false =>
                  cases c3 with
                  | false =>
                    have EF : Hid (mayB e = false) := E2.out.trans (HFA.out (EA.out.trans (by simp)))
                    clear HFA EA E2
                    go_wp2_with fail
                    refine ext_region (by kernel_rfl) (by kernel_rfl) ?_
                    repeat (go_big_quiet_step ((first | (go_at_call 30; with_reducible exact ext_same _ (M1.out _)) | (go_at_call 31; with_reducible exact ext_call _ (M2.out _)) | (go_at_call 29; with_reducible exact ext_call _ (M3.out _)))))
                    refine wpQuiet_nil ?_
                    rintro _ ⟨x, hx⟩
                    subst hx
                    go_wp2_with fail
                    go_ret
                    exact ⟨by rw [EF.out]; rfl, HBW.out.trans (x.below.mono HBW.out.size)⟩
                  | true =>
                    have HO2 : Hid (∀ j (hj : j < e.atr.length), j < k + 1 → attrB (e.atr.take j) e.atr[j] = true) := by
                      intro j hj hjk
                      by_cases hjk2 : j = k
                      · subst hjk2
                        exact EA.out.trans (by simp)
                      · exact HO.out j hj (by omega)
                    clear HFA EA HO
                    go_wp2_with fail
                    refine ext_region (by kernel_rfl) (by kernel_rfl) ?_
                    repeat (go_big_quiet_step ((first | (go_at_call 30; with_reducible exact ext_same _ (M1.out _)) | (go_at_call 31; with_reducible exact ext_call _ (M2.out _)) | (go_at_call 29; with_reducible exact ext_call _ (M3.out _)))))
                    refine wpQuiet_nil ?_
                    rintro _ ⟨x, hx⟩
                    subst hx
                    have HBX := Lib.hid (HBW.out.trans (x.below.mono HBW.out.size))
                    have HXX := Lib.hid ((x.below.block _ (heap_lt HXW.out)).trans HXW.out)
                    clear z0 z1 z2
                    go_wp2_with fail
                    go_roundw
                    case rel => exact ⟨k + 1, by go_num, by omega, HO2.out, HBX.out, HXX.out⟩
                    case measure => simp [RowKit.intOf]; omega
            · have HT : Hid (mayB e = true) := E2.out.trans (attrs_good fun j hj => HO.out j hj (by omega))
              go_wp2_with fail
              go_ret
              exact ⟨by rw [HT.out]; rfl, HB.out⟩
end Go.Proofs.Ytgcjgggnmhcfcaa
