/- Package tag: mayBe, Check, Same. Conditions: those of each theorem's head. -/
import Derived.Test.YtccpdfcmhggleaaGreatDoorAt
import Derived.Deep.Quiet
import Derived.StillTail
import Derived.Deep.QuietTactic
import Derived.IntWalk

namespace Go.Proofs.YtccpdfcmhggleaaGreatDoor
open Go.RowKit Go.Lib Go.Shelf Tg

set_option maxRecDepth 100000 in
set_option maxHeartbeats 4000000 in
theorem mayBe_any (e : El) (aA : Option Addr) (cA : Nat) (aK : Option Addr) (cK : Nat) (w : World) (ht : wt e ≤ 20000) (hcA : e.atr.length ≤ cA) (hA : AtIn w.heap.size w aA e.atr) :
    Calls Tryz.prog 60 #[.agg #[.string e.sp, .string e.nm, .slice aA e.atr.length cA, .string e.tx, .slice aK e.ks.length cK]] w fun r w' => r = .returned (.bool (mayB e)) ∧ Below w.heap.size w w' := by
  have hw := wt_eq e
  have han : e.atr.length ≤ 20000 := by omega
  have E : Hid (mayB e = (nameB e.nm.data.toList && spaceB e.sp.data.toList && decide (e.atr.length ≤ 16) && isTx e.tx.data.toList && attrsB e.atr)) := rfl
  have N1 := Lib.hid (fun W => isName_any e.nm W (by omega))
  have N2 := Lib.hid (fun W => isSpace_any e.sp W (by omega))
  have N4 := Lib.hid (fun W => isText_any e.tx W (by omega))
  have HAM : Hid (∀ a ∈ e.atr, a.1.size ≤ 1048576 ∧ a.2.size ≤ 1048576) := fun a ha => by have := wtA_mem ha; omega
  have k3 : decide ((16 : Int) < e.atr.length) = !decide (e.atr.length ≤ 16) := by
    rw [Bool.eq_iff_iff]; simp; omega
  have HA := Lib.hid hA
  have HX0 := Lib.hid (box_new w #[.string e.sp, .string e.nm, .slice aA e.atr.length cA, .string e.tx, .slice aK e.ks.length cK] 29)
  have HW0 : Hid (Below w.heap.size w (w.alloc (.cells #[.string e.sp, .string e.nm, .slice aA e.atr.length cA, .string e.tx, .slice aK e.ks.length cK] 29))) := (Below.refl _ _).alloc (Nat.le_refl _) _
  clear hw hA ht
  generalize nameB e.nm.data.toList = b1 at N1 E
  cases b1 with
  | false =>
    have E2 : Hid (mayB e = false) := E.out.trans (by simp)
    clear E k3
    go_enter Tryz.func60, Tryz.ntmps60
    go_wp2_with fail
    refine (N1.out _).mono ?_
    rintro r w1 ⟨rfl, rfl⟩
    go_wp2_with fail
    go_ret
    exact ⟨by rw [E2.out]; rfl, HW0.out⟩
  | true =>
    generalize spaceB e.sp.data.toList = b2 at N2 E
    cases b2 with
    | false =>
      have E2 : Hid (mayB e = false) := E.out.trans (by simp)
      clear E k3
      go_enter Tryz.func60, Tryz.ntmps60
      go_wp2_with fail
      refine (N1.out _).mono ?_
      rintro r w1 ⟨rfl, rfl⟩
      go_wp2_with fail
      refine (N2.out _).mono ?_
      rintro r w1 ⟨rfl, hb⟩
      have HB := Lib.hid (more HW0.out (Nat.le_refl _) hb)
      clear hb
      go_wp2_with fail
      go_ret
      exact ⟨by rw [E2.out]; rfl, HB.out⟩
    | true =>
      generalize hb3 : decide (e.atr.length ≤ 16) = b3 at k3 E
      cases b3 with
      | false =>
        have E2 : Hid (mayB e = false) := E.out.trans (by simp)
        clear E hb3
        go_enter Tryz.func60, Tryz.ntmps60
        go_wp2_with fail
        refine (N1.out _).mono ?_
        rintro r w1 ⟨rfl, rfl⟩
        go_wp2_with fail
        refine (N2.out _).mono ?_
        rintro r w1 ⟨rfl, hb⟩
        have HB := Lib.hid (more HW0.out (Nat.le_refl _) hb)
        obtain ⟨x0, x1, x2, x3, x4⟩ := bx5 ((hb.block _ (heap_lt HX0.out)).trans HX0.out)
        clear hb
        go_wp2_with fail
        go_ret
        exact ⟨by rw [E2.out]; rfl, HB.out⟩
      | true =>
        clear hb3
        generalize isTx e.tx.data.toList = b4 at N4 E
        cases b4 with
        | false =>
          have E2 : Hid (mayB e = false) := E.out.trans (by simp)
          clear E
          go_enter Tryz.func60, Tryz.ntmps60
          go_wp2_with fail
          refine (N1.out _).mono ?_
          rintro r w1 ⟨rfl, rfl⟩
          go_wp2_with fail
          refine (N2.out _).mono ?_
          rintro r w1 ⟨rfl, hb⟩
          have HB := Lib.hid (more HW0.out (Nat.le_refl _) hb)
          obtain ⟨x0, x1, x2, x3, x4⟩ := bx5 ((hb.block _ (heap_lt HX0.out)).trans HX0.out)
          clear hb
          go_wp2_with fail
          refine (N4.out _).mono ?_
          rintro r w2 ⟨rfl, hb⟩
          have HB2 := Lib.hid (more HB.out (Nat.le_refl _) hb)
          clear hb
          go_wp2_with fail
          go_ret
          exact ⟨by rw [E2.out]; rfl, HB2.out⟩
        | true =>
          have E2 : Hid (mayB e = attrsB e.atr) := E.out.trans (by simp)
          clear E
          go_enter Tryz.func60, Tryz.ntmps60
          go_wp2_with fail
          refine (N1.out _).mono ?_
          rintro r w1 ⟨rfl, rfl⟩
          go_wp2_with fail
          refine (N2.out _).mono ?_
          rintro r w1 ⟨rfl, hb⟩
          have HB := Lib.hid (more HW0.out (Nat.le_refl _) hb)
          have HX1 := Lib.hid ((hb.block _ (heap_lt HX0.out)).trans HX0.out)
          obtain ⟨x0, x1, x2, x3, x4⟩ := bx5 HX1.out
          clear hb
          go_wp2_with fail
          refine (N4.out _).mono ?_
          rintro r w2 ⟨rfl, hb⟩
          have HB2 := Lib.hid (more HB.out (Nat.le_refl _) hb)
          have HX2 := Lib.hid ((hb.block _ (heap_lt HX1.out)).trans HX1.out)
          clear hb x0 x1 x2 x3 x4 HX1 HX0 HB
          obtain ⟨x0, x1, x2, x3, x4⟩ := bx5 HX2.out
          go_wp2_with fail
          clear x0 x1 x2 x3 x4
          go_loopw [30] (fun i wr => ∃ k : Nat, i = .int .i64 k ∧ k ≤ e.atr.length ∧ Hid (∀ j (hj : j < e.atr.length), j < k → attrB (e.atr.take j) e.atr[j] = true) ∧ Hid (Below w.heap.size w wr) ∧ Hid (wr.heap[w.heap.size]? = some (.cells #[.string e.sp, .string e.nm, .slice aA e.atr.length cA, .string e.tx, .slice aK e.ks.length cK] 29 (0, 0)))) (fun i _ => e.atr.length - (RowKit.intOf i).toNat)
          case atStart => exact ⟨0, rfl, Nat.zero_le _, (fun j _ h => by cases h), HB2.out, HX2.out⟩
          case round =>
            obtain ⟨k, rfl, hk, HO, HB, HX⟩ := hrel
            clear HB2 HX2 N1 N2 N4
            by_cases hlt : k < e.atr.length
            · obtain ⟨b, o, rfl, hb, y0, y1⟩ := (HA.out.below HB.out) k hlt
              have hWW : wr.alloc (.cells #[.string e.atr[k].1, .string e.atr[k].2] 49) = wr.alloc (.cells #[.string e.atr[k].1, .string e.atr[k].2] 49) := rfl
              generalize hW : wr.alloc (.cells #[.string e.atr[k].1, .string e.atr[k].2] 49) = W at hWW
              have HBW : Hid (Below w.heap.size w W) := by rw [← hW]; exact HB.out.alloc HB.out.size _
              have HXW : Hid (W.heap[w.heap.size]? = some (.cells #[.string e.sp, .string e.nm, .slice (some ⟨b, o, none⟩) e.atr.length cA, .string e.tx, .slice aK e.ks.length cK] 29 (0, 0))) := by
                show _ = _
                rw [← hW, Below.heap_alloc _ _ _ (heap_lt HX.out)]; exact HX.out
              have hya : W.heap[wr.heap.size]? = some (.cells #[.string e.atr[k].1, .string e.atr[k].2] 49 (0, 0)) := by rw [← hW]; exact box_new wr _ _
              have z0 : ∀ x : Ext W, x.to.cell? ⟨wr.heap.size, 0, none⟩ = some (.string e.atr[k].1) := fun x => ext_cell x (by rw [Lib.cell_of_heap hya]; rfl)
              have z1 : ∀ x : Ext W, x.to.cell? ⟨wr.heap.size, 1, none⟩ = some (.string e.atr[k].2) := fun x => ext_cell x (by rw [Lib.cell_of_heap hya]; rfl)
              have z2 : ∀ x : Ext W, x.to.cell? ⟨w.heap.size, 2, none⟩ = some (.slice (some ⟨b, o, none⟩) e.atr.length cA) := fun x => ext_cell x (by rw [Lib.cell_of_heap HXW.out]; rfl)
              obtain ⟨zz1, zz2⟩ := HAM.out _ (List.getElem_mem hlt)
              have M1 := Lib.hid (fun W => isAttrName_any e.atr[k].1 W zz1)
              have M2 : Hid (∀ x : Ext W, Calls Tryz.prog 87 #[.slice (some ⟨b, o, none⟩) k cA, .string e.atr[k].1] x.to fun r w' => r = .returned (.bool (hasB (e.atr.take k) e.atr[k].1)) ∧ Below x.to.heap.size x.to w') := by
                intro x
                have hlen : (e.atr.take k).length = k := by simp; omega
                have hat : AtIn x.to.heap.size x.to (some ⟨b, o, none⟩) (e.atr.take k) := by
                  have h1 := (HA.out.below (HBW.out.trans (x.below.mono HBW.out.size))).up (Nat.le_trans HBW.out.size x.below.size)
                  intro i hi
                  have hi2 : i < e.atr.length := by rw [hlen] at hi; omega
                  obtain ⟨b2, o2, q1, q2, q3, q4⟩ := h1 i hi2
                  refine ⟨b2, o2, q1, q2, ?_, ?_⟩
                  · rw [q3]; simp
                  · rw [q4]; simp
                have := hasAttr_any (e.atr.take k) e.atr[k].1 (some ⟨b, o, none⟩) cA x.to (by rw [hlen]; omega) hat
                rwa [hlen] at this
              have M3 := Lib.hid (fun W => isText_any e.atr[k].2 W zz2)
              have EA : Hid (attrB (e.atr.take k) e.atr[k] = (attrNameB e.atr[k].1.data.toList && !hasB (e.atr.take k) e.atr[k].1 && isTx e.atr[k].2.data.toList)) := rfl
              have HFA := Lib.hid (fun h => attrs_fail hlt h)
              have hs := extSome W
              obtain ⟨x0, x1, x2, x3, x4⟩ := bx5 HX.out
              generalize attrNameB e.atr[k].1.data.toList = c1 at M1 EA
              generalize hasB (e.atr.take k) e.atr[k].1 = c2 at M2 EA
              generalize isTx e.atr[k].2.data.toList = c3 at M3 EA
              clear HAM hWW zz1 zz2 hya
              cases c1 with
              | false =>
                have EF : Hid (mayB e = false) := E2.out.trans (HFA.out (EA.out.trans (by simp)))
                clear HFA EA E2
                go_wp2_with fail
                refine ext_region (by kernel_rfl) (by kernel_rfl) ?_
                repeat (go_big_quiet_step ((first | (go_at_call 86; with_reducible exact ext_same _ (M1.out _)))))
                refine wpQuiet_nil ?_
                rintro _ ⟨x, hx⟩
                subst hx
                go_wp2_with fail
                go_ret
                exact ⟨by rw [EF.out]; rfl, HBW.out.trans (x.below.mono HBW.out.size)⟩
              | true =>
                cases c2 with
                | true =>
                  have EF : Hid (mayB e = false) := E2.out.trans (HFA.out (EA.out.trans (by simp)))
                  clear HFA EA E2
                  go_wp2_with fail
                  refine ext_region (by kernel_rfl) (by kernel_rfl) ?_
                  repeat (go_big_quiet_step ((first | (go_at_call 86; with_reducible exact ext_same _ (M1.out _)) | (go_at_call 87; with_reducible exact ext_call _ (M2.out _)) | (go_at_call 85; with_reducible exact ext_call _ (M3.out _)))))
                  refine wpQuiet_nil ?_
                  rintro _ ⟨x, hx⟩
                  subst hx
                  go_wp2_with fail
                  go_ret
                  exact ⟨by rw [EF.out]; rfl, HBW.out.trans (x.below.mono HBW.out.size)⟩
                | false =>
                  cases c3 with
                  | false =>
                    have EF : Hid (mayB e = false) := E2.out.trans (HFA.out (EA.out.trans (by simp)))
                    clear HFA EA E2
                    go_wp2_with fail
                    refine ext_region (by kernel_rfl) (by kernel_rfl) ?_
                    repeat (go_big_quiet_step ((first | (go_at_call 86; with_reducible exact ext_same _ (M1.out _)) | (go_at_call 87; with_reducible exact ext_call _ (M2.out _)) | (go_at_call 85; with_reducible exact ext_call _ (M3.out _)))))
                    refine wpQuiet_nil ?_
                    rintro _ ⟨x, hx⟩
                    subst hx
                    go_wp2_with fail
                    go_ret
                    exact ⟨by rw [EF.out]; rfl, HBW.out.trans (x.below.mono HBW.out.size)⟩
                  | true =>
                    have HO2 : Hid (∀ j (hj : j < e.atr.length), j < k + 1 → attrB (e.atr.take j) e.atr[j] = true) := by
                      intro j hj hjk
                      by_cases hjk2 : j = k
                      · subst hjk2
                        exact EA.out.trans (by simp)
                      · exact HO.out j hj (by omega)
                    clear HFA EA HO
                    go_wp2_with fail
                    refine ext_region (by kernel_rfl) (by kernel_rfl) ?_
                    repeat (go_big_quiet_step ((first | (go_at_call 86; with_reducible exact ext_same _ (M1.out _)) | (go_at_call 87; with_reducible exact ext_call _ (M2.out _)) | (go_at_call 85; with_reducible exact ext_call _ (M3.out _)))))
                    refine wpQuiet_nil ?_
                    rintro _ ⟨x, hx⟩
                    subst hx
                    have HBX := Lib.hid (HBW.out.trans (x.below.mono HBW.out.size))
                    have HXX := Lib.hid ((x.below.block _ (heap_lt HXW.out)).trans HXW.out)
                    clear z0 z1 z2
                    go_wp2_with fail
                    go_roundw
                    case rel => exact ⟨k + 1, by go_num, by omega, HO2.out, HBX.out, HXX.out⟩
                    case measure => simp [RowKit.intOf]; omega
            · have HT : Hid (mayB e = true) := E2.out.trans (attrs_good fun j hj => HO.out j hj (by omega))
              go_wp2_with fail
              go_ret
              exact ⟨by rw [HT.out]; rfl, HB.out⟩

end Go.Proofs.YtccpdfcmhggleaaGreatDoor

namespace Go.Proofs.YtccpdfcmhggleaaGreatDoor
open Go
section
variable {P : Program} {ops : Array Oper} {md : Region.Mode} {C : World → Prop}

/-- The first n operations, in whatever order; behind them T. -/
def wpHead (P : Program) (md : Region.Mode) (ops : Array Oper) (C : World → Prop) (n : Nat) (T : Array Bool → Act → Prop) : Nat → Array Bool → Act → Prop
  | 0, listed, a => T listed a
  | f + 1, listed, a => Region.ready md ops listed ≠ [] ∧ ∀ i ∈ Region.ready md ops listed, i < n ∧ qOp P ops C i (wpHead P md ops C n T f (listed.setIfInBounds i true)) a
theorem wpAny_head {n g : Nat} {T : Array Bool → Act → Prop} {Q' : Exit → Act → World → Prop} (hT : ∀ listed a w, C w → T listed a → wpAny P md ops Q' g listed a w) :
    ∀ (f : Nat) (listed : Array Bool) (a : Act) (w : World), C w → wpHead P md ops C n T f listed a → wpAny P md ops Q' (f + g) listed a w := by
  intro f
  induction f with
  | zero => intro listed a w hw h; rw [Nat.zero_add]; exact hT _ _ _ hw h
  | succ f ih =>
    intro listed a w hw h
    rw [show f + 1 + g = (f + g) + 1 by omega]
    exact ⟨fun e => absurd e h.1, fun i hi => wpOp_of_qOp hw (fun a' w' hw' h' => ih _ a' w' hw' h') (h.2 i hi).2⟩
/-- Which of the first n comes first makes no difference. -/
theorem wpHead_first {n i : Nat} {oi : Oper} {v : Value} {T : Array Bool → Act → Prop} (hi : ops[i]? = some oi) (hsel : ∀ (j : Nat) (o : Oper) cs b, ops[j]? = some o → o.op ≠ .select cs b)
    (hs : Region.sinkB md ops n = true) (hc : Region.chainB md ops n = true) (hn : n < ops.size) (hin : i < n)
    (hT : ∀ listed a, T listed a → ∀ j ∈ Region.ready md ops listed, n ≤ j) : ∀ (f : Nat) (listed : Array Bool) (a : Act), HeadInv md ops n listed →
      (∀ j oj, ops[j]? = some oj → j ≠ i → listed.getD j true = false → (∀ e ∈ oj.after, Region.binds md e = true → e.on ≠ i) → oi.apart ops oj = true) →
      i ∈ Region.ready md ops listed → YieldsIn P ops C oi v a → wpHead P md ops C n T f (listed.setIfInBounds i true) (a.put oi.dst v) → wpHead P md ops C n T (f + 1) listed a := by
  intro f
  induction f with
  | zero =>
    intro listed a inv _ hr hy H
    refine ⟨List.ne_nil_of_mem hr, fun j hj => ?_⟩
    have hjn : j < n := Nat.lt_of_not_le fun h => tail_waits hs hc hn inv _ i rfl hin (mem_ready.1 hr).1 j h hj
    refine ⟨hjn, ?_⟩
    by_cases e : j = i
    · subst e
      exact hy.qOp hi H
    · have := hT _ _ H j (ready_mono hj e)
      omega
  | succ f ih =>
    intro listed a inv hap hr hy H
    refine ⟨List.ne_nil_of_mem hr, fun j hj => ?_⟩
    have hjn : j < n := Nat.lt_of_not_le fun h => tail_waits hs hc hn inv _ i rfl hin (mem_ready.1 hr).1 j h hj
    refine ⟨hjn, ?_⟩
    by_cases e : j = i
    · subst e
      exact hy.qOp hi H
    · obtain ⟨hju, oj, hoj, hwait⟩ := mem_ready.1 hj
      have hno : ∀ x ∈ oj.after, Region.binds md x = true → x.on ≠ i := by
        intro x hx hb hon
        have h1 := hwait x hx hb
        rw [hon, getD_both (mem_ready.1 hr).1] at h1
        cases h1
      refine qOp_mono (fun a' h3 => ih (listed.setIfInBounds j true) a' (inv.set hj hjn) (fun k ok hk hki hun hnk => ?_) (ready_mono hr (Ne.symm e)) h3.1 ?_)
        (qOp_put hoj (hap j oj hoj e hju hno) (fun cs b => hsel i oi cs b hi) (fun cs b => hsel j oj cs b hoj) hy (H.2 j (ready_mono hj e)).2)
      · refine hap k ok hk hki ?_ hnk
        by_cases ejk : j = k
        · subst ejk; exact hju
        · rwa [getD_set_ne true ejk] at hun
      · have h4 := h3.2
        rwa [Array.setIfInBounds_comm _ _ (Ne.symm e)] at h4
theorem wpHead_lex {n g : Nat} {T : Act → Prop} (hsel : Region.noSelect ops = true) (hs : Region.sinkB md ops n = true) (hc : Region.chainB md ops n = true) (hn : n < ops.size) :
    ∀ (l : List Oper) (k : Nat) (listed : Array Bool) (a : Act), (∀ j, j < l.length → l[j]? = ops[k + j]?) → k + l.length = n → HeadInv md ops n listed →
    Region.lexHead md ops g l.length k listed = true → wpQuiet P ops C T l a → wpHead P md ops C n (fun listed' a' => Region.seqB md ops g n listed' = true ∧ T a') l.length listed a := by
  intro l
  induction l with
  | nil =>
    intro k listed a _ hk _ hB h
    obtain rfl : k = n := by simpa using hk
    exact ⟨by simpa [Region.lexHead] using hB, h⟩
  | cons o l ih =>
    intro k listed a hl hk inv hB h
    have h0 : ops[k]? = some o := by simpa using (hl 0 (by simp)).symm
    simp only [List.length_cons, Region.lexHead, Bool.and_eq_true] at hB
    simp only [List.length_cons] at hk
    have hkn : k < n := by omega
    have hr : k ∈ Region.ready md ops listed := by simpa using hB.1.1
    obtain ⟨v, hy, hK⟩ := yieldsIn_of_qOp (C := C) (P := P) h0 (show qOp P ops C k (wpQuiet P ops C T l) a by unfold qOp; simp only [h0]; exact h)
    exact wpHead_first h0 (Region.noSelect_spec hsel) hs hc hn hkn (fun listed' a' hL => seqB_ready hL.1) l.length listed a inv (Region.free_spec h0 hB.1.2) hr hy
      (ih (k + 1) _ _ (fun j hj => by have := hl (j + 1) (by simp; omega); simpa [Nat.add_assoc, Nat.add_comm 1 j] using this) (by omega) (inv.set hr hkn) hB.2 hK)
end
/-- A region that draws: n operations that are quiet in a class of worlds, then the rest in its order. -/
theorem wp_region_tail {P : Program} {C : World → Prop} {id : Nat} {Q : Exit → Act → World → Prop} {a : Act} {w : World} {l : List Oper} (n : Nat) (hm : P.follows .mixedOrders = true) (hB : Region.lexTailB .any l.toArray n = true)
    (hC : C w.drew) (h : wpQuiet P l.toArray C (fun a' => ∀ w', C w' → wpList P l.toArray Q (l.drop n) a' w') (l.take n) a) : (Code.region id l.toArray true).wp P Q a w := by
  simp only [Region.lexTailB, Bool.and_eq_true, decide_eq_true_eq] at hB
  obtain ⟨⟨⟨⟨hsel, hn⟩, hs⟩, hc⟩, hlex⟩ := hB
  have hn' : n < l.length := by simpa using hn
  have htl : (l.take n).length = n := by simp; omega
  have hdl : (l.drop n).length = l.toArray.size - n := by simp
  have inv0 : HeadInv .any l.toArray n (Array.replicate l.toArray.size false) :=
    ⟨by simp, fun j oj _ hl => (by rw [getD_replicate_false] at hl; cases hl), fun t _ ht => getD_in (by simpa using ht) (getD_replicate_false _ _)⟩
  have H := wpHead_lex (P := P) (C := C) (md := .any) (g := l.toArray.size - n) hsel hs hc hn (l.take n) 0 _ a (fun j hj => by
    have hj' : j < n := by rw [htl] at hj; exact hj
    simp [hj']) (by simpa using htl) inv0 (by rw [htl]; exact hlex) h
  refine wp_region_any hm ?_
  have := wpAny_head (Q' := Q) (g := l.toArray.size - n) (fun listed a' w' hw' hL => by
    have := wpAny_of_seq (md := .any) (Q' := Q) (l.drop n) n listed a' w' (fun j => by simp [List.getElem?_drop]) (by rw [hdl]; exact hL.1) (hL.2 w' hw')
    rwa [hdl] at this) _ _ _ w.drew hC H
  rw [htl, show n + (l.toArray.size - n) = l.toArray.size by omega] at this
  exact this
theorem ext_tail {P : Program} {id : Nat} {Q : Exit → Act → World → Prop} {a : Act} {w : World} {l : List Oper} (n : Nat) (hm : P.follows .mixedOrders = true) (hB : Region.lexTailB .any l.toArray n = true)
    (h : wpQuiet P l.toArray (fun w' => ∃ x : Ext w, w' = x.to) (fun a' => ∀ w', (∃ x : Ext w, w' = x.to) → wpList P l.toArray Q (l.drop n) a' w') (l.take n) a) : (Code.region id l.toArray true).wp P Q a w :=
  wp_region_tail (C := fun w' => ∃ x : Ext w, w' = x.to) n hm hB ⟨⟨w.drew, (RowKit.Below.refl _ _).drew⟩, rfl⟩ h
theorem ext_frozen {w : World} (x : Ext w) {p : Addr} {v : Value} (h : w.cell? p = some v) {b : Bool} (hf : w.frozen? p = b) : x.to.frozen? p = b := by
  have hlt := World.block_lt_of_cell? _ _ h
  rw [← hf]
  exact x.below.frozen hlt

end Go.Proofs.YtccpdfcmhggleaaGreatDoor

namespace Go.Proofs.YtccpdfcmhggleaaGreatDoor
open Go.RowKit Go.Lib Go.Shelf Tg

/-- What Check lets by leaves no less than nothing, and no more than there was. -/
theorem lk_left (e : El) : ∀ s d left, (lk e s d left).1 = true → 0 ≤ (lk e s d left).2 ∧ (lk e s d left).2 ≤ left := by
  refine El.ind (P := fun e => ∀ s d left, (lk e s d left).1 = true → 0 ≤ (lk e s d left).2 ∧ (lk e s d left).2 ≤ left) (fun sp nm atr tx ks ih => ?_) e
  intro s d left
  rw [lk]
  split
  · intro h; cases h
  · split
    · intro h; cases h
    · rename_i h0
      have : ∀ (m : List El) (l : Int), (∀ k ∈ m, ∀ s d left, (lk k s d left).1 = true → 0 ≤ (lk k s d left).2 ∧ (lk k s d left).2 ≤ left) → 0 ≤ l → (lks m sp (d + 1) l).1 = true → 0 ≤ (lks m sp (d + 1) l).2 ∧ (lks m sp (d + 1) l).2 ≤ l := by
        intro m
        induction m with
        | nil => intro l _ h0 _; rw [lks]; exact ⟨h0, Int.le_refl _⟩
        | cons k r ihm =>
          intro l hi h0
          rw [lks]
          split
          · rename_i h1
            intro h2
            have a := hi k (List.mem_cons_self ..) sp (d + 1) l h1
            have b := ihm (lk k sp (d + 1) l).2 (fun k hk => hi k (List.mem_cons_of_mem _ hk)) a.1 h2
            exact ⟨b.1, Int.le_trans b.2 a.2⟩
          · intro h; cases h
      intro h
      have := this ks _ ih (by omega) h
      exact ⟨this.1, by omega⟩
theorem lks_drop {l : List El} {k : Nat} (h : k < l.length) (s : ByteArray) (d : Nat) (left : Int) : lks (l.drop k) s d left =
    if (lk l[k] s d left).1 = true then lks (l.drop (k + 1)) s d (lk l[k] s d left).2 else (false, (lk l[k] s d left).2) := by
  rw [List.drop_eq_getElem_cons h, lks]
/-- What Check's inner function keeps: what is left, its box, all that w held below B. -/
structure Ck (B L N : Nat) (cs : Array Value) (w : World) (left : Int) (wr : World) : Prop where
  lf : wr.heap[L]? = some (.cells #[.int .i64 left] 3 (0, 0))
  kp : Kp B L w wr
  box : wr.heap[N]? = some (.cells cs 29 (0, 0))
theorem Ck.call {B L N : Nat} {cs : Array Value} {w wr w' : World} {left : Int} (h : Ck B L N cs w left wr) (hb : Below wr.heap.size wr w') (hB : B ≤ L) : Ck B L N cs w left w' :=
  ⟨(hb.block L (heap_lt h.lf)).trans h.lf, h.kp.trans (Kp.of hb (Nat.le_trans hB (Nat.le_of_lt (heap_lt h.lf)))), (hb.block N (heap_lt h.box)).trans h.box⟩
theorem Ck.step {B L N : Nat} {cs : Array Value} {w wr w' : World} {left left' : Int} (h : Ck B L N cs w left wr) (hl : w'.heap[L]? = some (.cells #[.int .i64 left'] 3 (0, 0))) (hk : Kp B L wr w') (hN : N ≠ L) : Ck B L N cs w left' w' :=
  ⟨hl, h.kp.trans hk, hk.block h.box hN (by decide)⟩
theorem Ck.alloc {B L N : Nat} {cs : Array Value} {w wr : World} {left : Int} (h : Ck B L N cs w left wr) (hB : B ≤ L) (o : Obj) : Ck B L N cs w left (wr.alloc o) := h.call ((Below.refl _ wr).alloc (Nat.le_refl _) o) hB
theorem Ck.drew {B L N : Nat} {cs : Array Value} {w wr : World} {left : Int} (h : Ck B L N cs w left wr) : Ck B L N cs w left wr.drew := ⟨h.lf, h.kp.drew, h.box⟩
theorem Ck.set {B L N : Nat} {cs : Array Value} {w wr : World} {left : Int} (h : Ck B L N cs w left wr) (hB : B ≤ L) (hN : N ≠ L) (u : Int) : Ck B L N cs w u (wr.setCell ⟨L, 0, none⟩ (.int .i64 u)) :=
  ⟨one_setCell h.lf, h.kp.trans ⟨(Below.refl _ _).setCell (p := ⟨L, 0, none⟩) hB _, (Lib.OthersKept.refl _ _ _).setCell ⟨L, 0, none⟩ rfl _⟩, (Below.heap_setCell _ _ _ _ hN).trans h.box⟩
theorem Ck.le {B L N : Nat} {cs : Array Value} {w wr : World} {left : Int} (h : Ck B L N cs w left wr) (hB : B ≤ L) : B ≤ wr.heap.size := Nat.le_trans hB (Nat.le_of_lt (heap_lt h.lf))
/-- The cells that the counting statement reads and writes. -/
theorem Ck.cells {B L N : Nat} {v0 v1 v2 v3 v4 : Value} {w wr : World} {left : Int} (h : Ck B L N #[v0, v1, v2, v3, v4] w left wr) :
    wr.cell? ⟨N, 0, none⟩ = some v0 ∧ wr.cell? ⟨N, 1, none⟩ = some v1 ∧ wr.cell? ⟨N, 2, none⟩ = some v2 ∧ wr.cell? ⟨N, 3, none⟩ = some v3 ∧ wr.cell? ⟨N, 4, none⟩ = some v4 ∧ wr.cell? ⟨L, 0, none⟩ = some (.int .i64 left) ∧ wr.frozen? ⟨L, 0, none⟩ = false ∧ Ck B L N #[v0, v1, v2, v3, v4] w left wr := by
  obtain ⟨h0, h1, h2, h3, h4⟩ := bx5 h.box
  exact ⟨h0, h1, h2, h3, h4, by rw [Lib.cell_of_heap h.lf]; rfl, Lib.frozen_of_heap h.lf 0, h⟩
theorem ckL {B L N : Nat} {cs : Array Value} {w W : World} {left : Int} (h : Ck B L N cs w left W) : W.cell? ⟨L, 0, none⟩ = some (.int .i64 left) ∧ W.frozen? ⟨L, 0, none⟩ = false :=
  ⟨by rw [Lib.cell_of_heap h.lf]; rfl, Lib.frozen_of_heap h.lf 0⟩
theorem wrap_in {x : Int} (h1 : -9223372036854775808 ≤ x) (h2 : x ≤ 9223372036854775807) : IntKind.i64.wrap x = x := by
  rw [IntKind.wrap_i64]; omega

def lookP (e : El) : Prop := ∀ (B L U : Nat) (w : World) (v : Value) (s : ByteArray) (d : Nat) (D : Int) (left : Int), In B w e v → wt e ≤ 20000 → B ≤ L → U ≠ L → D = d → d ≤ 100 → 0 ≤ left → left ≤ 16384 →
    w.heap[L]? = some (.cells #[.int .i64 left] 3 (0, 0)) →
    w.heap[U]? = some (.cells #[.func (.func 59) #[] #[.pointer (some ⟨L, 0, none⟩), .pointer (some ⟨U, 0, none⟩)]] 82 (0, 0)) →
    Calls Tryz.prog 59 #[v, .string s, .int .i64 D, .pointer (some ⟨L, 0, none⟩), .pointer (some ⟨U, 0, none⟩)] w fun r w' => r = .returned (.bool (lk e s d left).1) ∧ w'.heap[L]? = some (.cells #[.int .i64 (lk e s d left).2] 3 (0, 0)) ∧ Kp B L w w'

set_option maxRecDepth 100000 in
set_option maxHeartbeats 4000000 in
/-- Check's inner function: whether the element may be, and what is left. -/
theorem lookC_any (e : El) : lookP e := by
  refine El.ind (P := lookP) (fun sp nm atr tx ks ih => ?_) e
  intro B L U w v s d D left hin ht hBL hUL hD hd hl0 hl1 hL hU
  generalize hE : El.mk sp nm atr tx ks = E at hin ht
  obtain rfl : E.ks = ks := by rw [← hE]; rfl
  clear hE
  obtain ⟨aA, cA, aK, cK, rfl, ⟨hcA, _⟩, hkm, hat, hks⟩ := hin.out
  have hw := wt_eq E
  have hwk := wts_len E.ks
  have hnk : E.ks.length ≤ 20000 := by omega
  have IH := Lib.hid ih
  have HBL := Lib.hid hBL
  have HUL := Lib.hid hUL
  have hLw : L < w.heap.size := heap_lt hL
  have HNL : Hid (w.heap.size ≠ L) := by show _ ≠ _; omega
  have HP0 : Hid (Ck B L w.heap.size #[.string E.sp, .string E.nm, .slice aA E.atr.length cA, .string E.tx, .slice aK E.ks.length cK] w left (w.alloc (.cells #[.string E.sp, .string E.nm, .slice aA E.atr.length cA, .string E.tx, .slice aK E.ks.length cK] 29))) :=
    ⟨(Below.heap_alloc _ _ _ hLw).trans hL, (Kp.refl _ _ _).alloc (by omega) _, box_new w _ _⟩
  have HMB : Hid (∀ W, AtIn W.heap.size W aA E.atr → Calls Tryz.prog 60 #[.agg #[.string E.sp, .string E.nm, .slice aA E.atr.length cA, .string E.tx, .slice aK E.ks.length cK]] W fun r w' => r = .returned (.bool (mayB E)) ∧ Below W.heap.size W w') := fun W h => mayBe_any E aA cA aK cK W ht hcA h
  have HAT := Lib.hid hat
  have HLK := Lib.hid (lk_eq E s d left)
  have HU := Lib.hid hU
  have HD := Lib.hid hD
  by_cases h16 : 16 < d
  · have f1 : decide ((16 : Int) < D) = true := by rw [hD]; simp; omega
    have HR : Hid (lk E s d left = (false, left)) := HLK.out.trans (if_pos (.inl h16))
    clear hw hwk ih hin hUL hU hat hks hkm ht hBL hD hd h16 HLK hL IH HMB
    go_enter Tryz.func59, Tryz.ntmps59
    go_wp2_with fail
    go_ret
    exact ⟨by rw [HR.out]; rfl, by rw [HR.out]; exact HP0.out.lf, HP0.out.kp⟩
  have f1 : decide ((16 : Int) < D) = false := by rw [hD]; simp; omega
  have hd16 : d ≤ 16 := by omega
  cases hmb : mayB E with
  | false =>
    rw [hmb] at HMB
    have HR : Hid (lk E s d left = (false, left)) := HLK.out.trans (if_pos (.inr hmb))
    clear hw hwk ih hin hUL hU hat hks hkm ht hBL hD hd h16 HLK hL IH hmb
    go_enter Tryz.func59, Tryz.ntmps59
    go_wp2_with fail
    refine (HMB.out _ ((HAT.out.below HP0.out.kp.below).up (HP0.out.le HBL.out))).mono ?_
    rintro r w1 ⟨rfl, hb⟩
    have HP1 := Lib.hid (HP0.out.call hb HBL.out)
    clear hb
    go_wp2_with fail
    go_ret
    exact ⟨by rw [HR.out]; rfl, by rw [HR.out]; exact HP1.out.lf, HP1.out.kp⟩
  | true =>
    rw [hmb] at HMB
    have HR : Hid (lk E s d left = if left - (((beg E s).length : Int) + ((fin E).length : Int)) < 0 then (false, left - (((beg E s).length : Int) + ((fin E).length : Int)))
      else lks E.ks E.sp (d + 1) (left - (((beg E s).length : Int) + ((fin E).length : Int)))) := HLK.out.trans (if_neg (by rintro (h | h); exact h16 h; rw [hmb] at h; cases h))
    have HBE : Hid (∀ W, Ck B L w.heap.size #[.string E.sp, .string E.nm, .slice aA E.atr.length cA, .string E.tx, .slice aK E.ks.length cK] w left W → Calls Tryz.prog 61 #[.agg #[.string E.sp, .string E.nm, .slice aA E.atr.length cA, .string E.tx, .slice aK E.ks.length cK], .string s] W fun r w' => r = .returned (.string ⟨(beg E s).toArray⟩) ∧ Below W.heap.size W w') :=
      fun W h => begin_any E s aA cA aK cK W ht ((hat.below h.kp.below).up (h.le hBL))
    have HFI := Lib.hid (fun W => end_any E aA E.atr.length cA aK cK W (by omega))
    have HKS := Lib.hid hks
    have HWT : Hid (∀ k ∈ E.ks, wt k ≤ 20000) := fun k hk => by have := wts_mem hk; omega
    have hbl := beg_len E s
    have hfl := fin_len E
    have hz1 : (beg E s).length ≤ 1000000 := by omega
    have hz2 : (fin E).length ≤ 1000000 := by omega
    have e1 := mk_size (beg E s)
    have e2 := mk_size (fin E)
    rw [← e1, ← e2] at HR
    rw [← e1] at hz1
    rw [← e2] at hz2
    generalize (⟨(beg E s).toArray⟩ : ByteArray) = tb at HBE HR hz1
    generalize (⟨(fin E).toArray⟩ : ByteArray) = te at HFI HR hz2
    clear hw hwk ih hin hUL hU hat hks hkm ht hBL hD h16 HLK hL hmb hbl hfl e1 e2
    go_enter Tryz.func59, Tryz.ntmps59
    go_wp2_with fail
    refine (HMB.out _ ((HAT.out.below HP0.out.kp.below).up (HP0.out.le HBL.out))).mono ?_
    rintro r w1 ⟨rfl, hb⟩
    have HP1 := Lib.hid (HP0.out.call hb HBL.out)
    clear hb HP0 HMB
    go_wp2_with fail
    have W1 : IntKind.i64.wrap ((tb.size : Int) + (te.size : Int)) = (tb.size : Int) + (te.size : Int) := wrap_in (by omega) (by omega)
    have W2 : IntKind.i64.wrap (left - ((tb.size : Int) + (te.size : Int))) = left - ((tb.size : Int) + (te.size : Int)) := wrap_in (by omega) (by omega)
    obtain ⟨y0, y1, y2, y3, y4⟩ := bx5 HP1.out.box
    obtain ⟨y5, y6⟩ := ckL HP1.out
    have z0 : ∀ x : Ext w1, x.to.cell? ⟨w.heap.size, 0, none⟩ = some (.string E.sp) := fun x => ext_cell x y0
    have z1 : ∀ x : Ext w1, x.to.cell? ⟨w.heap.size, 1, none⟩ = some (.string E.nm) := fun x => ext_cell x y1
    have z2 : ∀ x : Ext w1, x.to.cell? ⟨w.heap.size, 2, none⟩ = some (.slice aA E.atr.length cA) := fun x => ext_cell x y2
    have z3 : ∀ x : Ext w1, x.to.cell? ⟨w.heap.size, 3, none⟩ = some (.string E.tx) := fun x => ext_cell x y3
    have z4 : ∀ x : Ext w1, x.to.cell? ⟨w.heap.size, 4, none⟩ = some (.slice aK E.ks.length cK) := fun x => ext_cell x y4
    have z5 : ∀ x : Ext w1, x.to.cell? ⟨L, 0, none⟩ = some (.int .i64 left) := fun x => ext_cell x y5
    have z6 : ∀ x : Ext w1, x.to.frozen? ⟨L, 0, none⟩ = false := fun x => ext_frozen x y5 y6
    have HBX : Hid (∀ x : Ext w1, Calls Tryz.prog 61 #[.agg #[.string E.sp, .string E.nm, .slice aA E.atr.length cA, .string E.tx, .slice aK E.ks.length cK], .string s] x.to fun r w' => r = .returned (.string tb) ∧ Below x.to.heap.size x.to w') :=
      fun x => HBE.out _ (HP1.out.call x.below HBL.out)
    have hs := extSome w1
    clear y0 y1 y2 y3 y4 y5 y6 HBE
    refine ext_tail 10 (by kernel_rfl) (by kernel_rfl) ?_
    simp only [List.take_succ_cons, List.take_zero, List.drop_succ_cons, List.drop_zero]
    repeat (go_big_quiet_step ((first | (go_at_call 61; with_reducible exact ext_call _ (HBX.out _)) | (go_at_call 62; with_reducible exact ext_call _ (HFI.out _)))))
    refine wpQuiet_nil ?_
    rintro _ ⟨x, hx⟩
    subst hx
    have HP2 := Lib.hid ((HP1.out.call x.below HBL.out).set HBL.out HNL.out (left - ((tb.size : Int) + (te.size : Int))))
    clear HP1 HBX HFI W1 W2
    by_cases hneg : left - ((tb.size : Int) + (te.size : Int)) < 0
    · have HR2 : Hid (lk E s d left = (false, left - ((tb.size : Int) + (te.size : Int)))) := HR.out.trans (if_pos hneg)
      have f2 : decide (left - ((tb.size : Int) + (te.size : Int)) < 0) = true := decide_eq_true hneg
      clear HR
      go_wp2_with fail
      go_ret
      exact ⟨by rw [HR2.out]; rfl, by rw [HR2.out]; exact HP2.out.lf, HP2.out.kp⟩
    · have HR2 : Hid (lk E s d left = lks E.ks E.sp (d + 1) (left - ((tb.size : Int) + (te.size : Int)))) := HR.out.trans (if_neg hneg)
      have f2 : decide (left - ((tb.size : Int) + (te.size : Int)) < 0) = false := decide_eq_false hneg
      have hf1 : 0 ≤ left - ((tb.size : Int) + (te.size : Int)) := by omega
      have hf2 : left - ((tb.size : Int) + (te.size : Int)) ≤ 16384 := by omega
      clear HR hneg
      generalize left - ((tb.size : Int) + (te.size : Int)) = lf0 at HP2 HR2 f2 hf1 hf2 ⊢
      go_wp2_with fail
      clear z0 z1 z2 z3 z4 z5 z6
      have hD1 : ((d + 1 : Nat) : Int) = D + 1 := by rw [HD.out]; rfl
      have HD1 := Lib.hid hD1.symm
      have hDb : D ≤ 100 := by rw [HD.out]; omega
      have hDb2 : 0 ≤ D := by rw [HD.out]; omega
      clear hD1
      go_loopw [33] (fun i wr => ∃ (k : Nat) (lf : Int), i = .int .i64 k ∧ k ≤ E.ks.length ∧ 0 ≤ lf ∧ lf ≤ 16384 ∧ Hid (lks (E.ks.drop k) E.sp (d + 1) lf = lks E.ks E.sp (d + 1) lf0) ∧ Hid (Ck B L w.heap.size #[.string E.sp, .string E.nm, .slice aA E.atr.length cA, .string E.tx, .slice aK E.ks.length cK] w lf wr)) (fun i _ => E.ks.length - (RowKit.intOf i).toNat)
      case atStart => exact ⟨0, lf0, rfl, Nat.zero_le _, hf1, hf2, rfl, HP2.out⟩
      case round =>
        obtain ⟨k, lf, rfl, hk, hq1, hq2, HO, HC⟩ := hrel
        clear HP2
        by_cases hlt : k < E.ks.length
        · obtain ⟨b, o, a1, c1, a2, c2, rfl, hb, hf5, hkin⟩ := (HKS.out.below HC.out.kp.below) k hlt
          obtain ⟨y0, y1, y2, y3, y4⟩ := hf5
          obtain ⟨x0, x1, x2, x3, x4⟩ := bx5 HC.out.box
          have hUr := HC.out.kp.block HU.out HUL.out (by decide)
          have u0 : wr.cell? ⟨U, 0, none⟩ = some (.func (.func 59) #[] #[.pointer (some ⟨L, 0, none⟩), .pointer (some ⟨U, 0, none⟩)]) := by rw [Lib.cell_of_heap hUr]; rfl
          have u1 := cell_alloc u0 (.cells #[.string E.ks[k].sp, .string E.ks[k].nm, .slice a1 E.ks[k].atr.length c1, .string E.ks[k].tx, .slice a2 E.ks[k].ks.length c2] 29)
          have e0 := cell_alloc x0 (.cells #[.string E.ks[k].sp, .string E.ks[k].nm, .slice a1 E.ks[k].atr.length c1, .string E.ks[k].tx, .slice a2 E.ks[k].ks.length c2] 29)
          have HC1 : Hid (Ck B L w.heap.size _ w lf (wr.alloc (.cells #[.string E.ks[k].sp, .string E.ks[k].nm, .slice a1 E.ks[k].atr.length c1, .string E.ks[k].tx, .slice a2 E.ks[k].ks.length c2] 29))) := HC.out.alloc HBL.out _
          have HD0 := Lib.hid (lks_drop hlt E.sp (d + 1) lf)
          have HLL := Lib.hid (lk_left E.ks[k] E.sp (d + 1) lf)
          have HR3 := Lib.hid (IH.out _ (List.getElem_mem hlt) B L U (wr.alloc (.cells #[.string E.ks[k].sp, .string E.ks[k].nm, .slice a1 E.ks[k].atr.length c1, .string E.ks[k].tx, .slice a2 E.ks[k].ks.length c2] 29)) (.agg #[.string E.ks[k].sp, .string E.ks[k].nm, .slice a1 E.ks[k].atr.length c1, .string E.ks[k].tx, .slice a2 E.ks[k].ks.length c2]) E.sp (d + 1) (D + 1) lf (hkin.stay (((Below.refl B wr).alloc (HC.out.le HBL.out) _))) (HWT.out _ (List.getElem_mem hlt)) HBL.out HUL.out HD1.out (by omega) hq1 hq2 HC1.out.lf (HC1.out.kp.block HU.out HUL.out (by decide)))
          generalize lk E.ks[k] E.sp (d + 1) lf = p at HD0 HLL HR3
          obtain ⟨pb, pl⟩ := p
          clear hUr u0 x0 x1 x2 x3 x4 hkin hb HC
          cases pb with
          | false =>
            have HR4 : Hid (lk E s d left = (false, pl)) := by
              show _ = _
              rw [HR2.out, ← HO.out, HD0.out]; rfl
            clear HD0 HLL HO
            go_wp2_with fail
            refine HR3.out.mono ?_
            rintro r w3 ⟨rfl, hl, hkk⟩
            have HC2 := Lib.hid (HC1.out.step hl hkk HNL.out)
            clear hl hkk HC1 HR3 u1 e0 y0 y1 y2 y3 y4
            go_wp2_with fail
            go_ret
            exact ⟨by rw [HR4.out]; rfl, by rw [HR4.out]; exact HC2.out.lf, HC2.out.kp⟩
          | true =>
            have HO2 : Hid (lks (E.ks.drop (k + 1)) E.sp (d + 1) pl = lks E.ks E.sp (d + 1) lf0) := by
              show _ = _
              rw [← HO.out, HD0.out]; rfl
            have hp := HLL.out rfl
            have hp1 : 0 ≤ pl := hp.1
            have hp2 : pl ≤ 16384 := Int.le_trans hp.2 hq2
            clear HD0 HLL HO hp
            go_wp2_with fail
            refine HR3.out.mono ?_
            rintro r w3 ⟨rfl, hl, hkk⟩
            have HC2 := Lib.hid (HC1.out.step hl hkk HNL.out)
            clear hl hkk HC1 HR3 u1 e0 y0 y1 y2 y3 y4
            go_wp2_with fail
            go_roundw
            case rel => exact ⟨k + 1, pl, by go_num, by omega, hp1, hp2, HO2.out, HC2.out⟩
            case measure => simp [RowKit.intOf]; omega
        · have HR4 : Hid (lk E s d left = (true, lf)) := by
            show _ = _
            rw [HR2.out, ← HO.out, List.drop_of_length_le (by omega), lks]
          go_wp2_with fail
          go_ret
          exact ⟨by rw [HR4.out]; rfl, by rw [HR4.out]; exact HC.out.lf, HC.out.kp⟩
/-- Check's answer. -/
def cdt (b : Bool) : Int := if b then 0 else 50
set_option maxRecDepth 100000 in
set_option maxHeartbeats 4000000 in
theorem check_any (e : El) (w : World) (v : Value) (hin : In w.heap.size w e v) (ht : wt e ≤ 20000) :
    Calls Tryz.prog 27 #[v] w fun r w' => r = .returned (.int .i64 (cdt (chkB e))) ∧ Below w.heap.size w w' := by
  obtain ⟨aA, cA, aK, cK, rfl, _, _, _, _⟩ := hin.out
  have HI := Lib.hid hin
  have HT := Lib.hid ht
  have HC : Hid (chkB e = (lk e ⟨#[]⟩ 1 16384).1) := rfl
  clear hin ht
  have HL0 := box_new (w.alloc (.cells #[.string e.sp, .string e.nm, .slice aA e.atr.length cA, .string e.tx, .slice aK e.ks.length cK] 29)) #[.int .i64 16384] 3
  have HU0 := box_new ((w.alloc (.cells #[.string e.sp, .string e.nm, .slice aA e.atr.length cA, .string e.tx, .slice aK e.ks.length cK] 29)).alloc (.cells #[.int .i64 16384] 3)) #[.func (.func 59) #[] #[.pointer (some ⟨w.heap.size + 1, 0, none⟩), .pointer (some ⟨w.heap.size + 1 + 1, 0, none⟩)]] 82
  have HL := Lib.hid HL0
  have HU := Lib.hid HU0
  clear HL0 HU0
  go_enter Tryz.func27, Tryz.ntmps27
  go_wp2_with fail
  refine (lookC_any e (w.heap.size + 1) (w.heap.size + 1) (w.heap.size + 1 + 1) _ _ ⟨#[]⟩ 1 1 16384 ?h1 HT.out (Nat.le_refl _) (by omega) rfl (by decide) (by decide) (by decide) ?h2 ?h3).mono ?_
  case h1 => exact (HI.out.stay ((((Below.refl _ w).alloc (Nat.le_refl _) _).alloc (by simp) _).alloc (by simp; omega) _)).mono (Nat.le_succ _)
  case h2 =>
    have h := HL.out
    rw [Below.heap_alloc _ _ _ (by simp)]
    simpa using h
  case h3 => simpa using HU.out
  rintro r w1 ⟨rfl, _, hk⟩
  have HB1 : Hid (Below w.heap.size w w1) := ((((Below.refl _ w).alloc (Nat.le_refl _) _).alloc (by simp) _).alloc (by simp; omega) _).trans (hk.below.mono (Nat.le_succ _))
  clear hk HL HU HI HT
  generalize (lk e ⟨#[]⟩ 1 16384).1 = b at HC
  cases b with
  | true =>
    go_wp2_with fail
    go_ret
    exact ⟨by rw [HC.out]; rfl, HB1.out⟩
  | false =>
    go_wp2_with fail
    go_ret
    exact ⟨by rw [HC.out]; rfl, HB1.out⟩

end Go.Proofs.YtccpdfcmhggleaaGreatDoor

namespace Go.Proofs.YtccpdfcmhggleaaGreatDoor
open Go.RowKit Go.Lib Go.Shelf Tg

noncomputable def eqv {α : Type} (x y : α) : Bool := @decide (x = y) (Classical.propDecidable _)
theorem eqv_yes {α : Type} {x y : α} (h : x = y) : eqv x y = true := by unfold eqv; exact (@decide_eq_true_iff _ (Classical.propDecidable _)).2 h
theorem eqv_no {α : Type} {x y : α} (h : x ≠ y) : eqv x y = false := by rw [Bool.eq_false_iff]; intro e; unfold eqv at e; exact h ((@decide_eq_true_iff _ (Classical.propDecidable _)).1 e)
theorem take_eq {α : Type} {l m : List α} {k : Nat} (hl : k < l.length) (hm : k < m.length) (h : l.take k = m.take k) (he : l[k] = m[k]) : l.take (k + 1) = m.take (k + 1) := by
  rw [List.take_succ_eq_append_getElem hl, List.take_succ_eq_append_getElem hm, h, he]
theorem text_ne {a b : ByteArray} (h : a ≠ b) : ¬ a.toList = b.toList := fun e => h (bytes_eq (by rw [ByteArray.toList_eq, ByteArray.toList_eq] at e; exact e))
theorem text_neb {a b : ByteArray} (h : a ≠ b) : (a.toList == b.toList) = false := by rw [beq_eq_false_iff_ne]; exact text_ne h

set_option maxRecDepth 100000 in
set_option maxHeartbeats 4000000 in
theorem equalA_any (l m : List (ByteArray × ByteArray)) (B : Nat) (a a' : Option Addr) (c c' : Nat) (w : World) (hl : l.length ≤ maxLen) (hA : AtIn B w a l) (hA' : AtIn B w a' m) (hB : B ≤ w.heap.size) :
    Calls Tryz.prog 76 #[.slice a l.length c, .slice a' m.length c'] w fun e w' => e = .returned (.bool (eqv l m)) ∧ Below w.heap.size w w' := by
  have HW : Hid (Below w.heap.size w w) := Below.refl _ _
  have HA := Lib.hid (hA.up hB)
  have HA' := Lib.hid (hA'.up hB)
  unfold maxLen at hl
  clear hA hA'
  by_cases hn : l.length = m.length
  · have f0 : bne (l.length : Int) m.length = false := by simp; omega
    have HN := Lib.hid hn
    clear hn
    go_enter Tryz.func76, Tryz.ntmps76
    go_wp2_with fail
    go_loopw [13] (fun i wr => ∃ k : Nat, i = .int .i64 k ∧ k ≤ l.length ∧ Hid (l.take k = m.take k) ∧ Hid (Below w.heap.size w wr)) (fun i _ => l.length - (RowKit.intOf i).toNat)
    case atStart => exact ⟨0, rfl, Nat.zero_le _, rfl, HW.out⟩
    case round =>
      obtain ⟨k, rfl, hk, HO, HB⟩ := hrel
      by_cases hlt : k < l.length
      · have hlt2 : k < m.length := by rw [← HN.out]; exact hlt
        obtain ⟨b, o, rfl, hb, y0, y1⟩ := (HA.out.below HB.out) k hlt
        obtain ⟨b', o', rfl, hb', y0', y1'⟩ := (HA'.out.below HB.out) k hlt2
        have z0 : ∀ x : Ext wr, x.to.cell? ⟨b, o + k * 2, none⟩ = some (.string l[k].1) := fun x => ext_cell x y0
        have z1 : ∀ x : Ext wr, x.to.cell? ⟨b, o + k * 2 + 1, none⟩ = some (.string l[k].2) := fun x => ext_cell x y1
        have z0' : ∀ x : Ext wr, x.to.cell? ⟨b', o' + k * 2, none⟩ = some (.string m[k].1) := fun x => ext_cell x y0'
        have z1' : ∀ x : Ext wr, x.to.cell? ⟨b', o' + k * 2 + 1, none⟩ = some (.string m[k].2) := fun x => ext_cell x y1'
        have hs := extSome wr
        have HT := Lib.hid (fun he => take_eq hlt hlt2 HO.out he)
        have HF : Hid (l[k] ≠ m[k] → l ≠ m) := fun h e => h (by simp only [e])
        have i2 : (k : Int) < m.length := by omega
        generalize l[k] = p at z0 z1 HT HF
        generalize m[k] = r at z0' z1' HT HF
        obtain ⟨p1, p2⟩ := p
        obtain ⟨r1, r2⟩ := r
        clear y0 y1 y0' y1' hb hb'
        by_cases h1 : p1 = r1
        · subst h1
          by_cases h2 : p2 = r2
          · subst h2
            have HO2 := Lib.hid (HT.out rfl)
            clear HT HF
            go_wp2_with fail
            refine ext_region (by kernel_rfl) (by kernel_rfl) ?_
            repeat (go_big_quiet_step (fail))
            refine wpQuiet_nil ?_
            rintro _ ⟨x, hx⟩
            subst hx
            have HBX := Lib.hid (HB.out.trans (x.below.mono HB.out.size))
            clear z0 z1 z0' z1'
            go_wp2_with fail
            go_roundw
            case rel => exact ⟨k + 1, by go_num, by omega, HO2.out, HBX.out⟩
            case measure => simp [RowKit.intOf]; omega
          · have n1 := text_ne h2
            have n2 := text_neb h2
            have HE : Hid (eqv l m = false) := eqv_no (HF.out (by intro e; cases e; exact h2 rfl))
            clear HT HF h2
            go_wp2_with fail
            refine ext_region (by kernel_rfl) (by kernel_rfl) ?_
            repeat (go_big_quiet_step (fail))
            refine wpQuiet_nil ?_
            rintro _ ⟨x, hx⟩
            subst hx
            go_wp2_with fail
            go_ret
            exact ⟨by rw [HE.out]; rfl, HB.out.trans (x.below.mono HB.out.size)⟩
        · have n1 := text_ne h1
          have n2 := text_neb h1
          have HE : Hid (eqv l m = false) := eqv_no (HF.out (by intro e; cases e; exact h1 rfl))
          clear HT HF h1
          go_wp2_with fail
          refine ext_region (by kernel_rfl) (by kernel_rfl) ?_
          repeat (go_big_quiet_step (fail))
          refine wpQuiet_nil ?_
          rintro _ ⟨x, hx⟩
          subst hx
          go_wp2_with fail
          go_ret
          exact ⟨by rw [HE.out]; rfl, HB.out.trans (x.below.mono HB.out.size)⟩
      · have HE : Hid (eqv l m = true) := eqv_yes (by
          have := HO.out
          rwa [List.take_of_length_le (by omega), List.take_of_length_le (by rw [← HN.out]; omega)] at this)
        go_wp2_with fail
        go_ret
        exact ⟨by rw [HE.out]; rfl, HB.out⟩
  · have f0 : bne (l.length : Int) m.length = true := by simp; omega
    have HE : Hid (eqv l m = false) := eqv_no fun e => hn (by rw [e])
    clear hn
    go_enter Tryz.func76, Tryz.ntmps76
    go_wp2_with fail
    go_ret
    exact ⟨by rw [HE.out]; rfl, HW.out⟩
/-- What Same is asked for of one element. -/
def sameP (e : El) : Prop := ∀ (f : El) (B : Nat) (w : World) (v v' : Value), In B w e v → In B w f v' → B ≤ w.heap.size →
    Calls Tryz.prog 45 #[v, v'] w fun r w' => r = .returned (.bool (eqv e f)) ∧ Below w.heap.size w w'
set_option maxRecDepth 100000 in
set_option maxHeartbeats 4000000 in
theorem equalF_any (l m : List El) (ih : ∀ k ∈ l, sameP k) (B : Nat) (a a' : Option Addr) (c c' : Nat) (w : World) (hl : l.length ≤ maxLen) (hA : KsIn B w a l) (hA' : KsIn B w a' m) (hB : B ≤ w.heap.size) :
    Calls Tryz.prog 44 #[.slice a l.length c, .slice a' m.length c', .func (.func 45) #[] #[]] w fun e w' => e = .returned (.bool (eqv l m)) ∧ Below w.heap.size w w' := by
  have HW : Hid (Below w.heap.size w w) := Below.refl _ _
  have HA := Lib.hid hA
  have HA' := Lib.hid hA'
  have HBB := Lib.hid hB
  have IH := Lib.hid ih
  unfold maxLen at hl
  clear hA hA' ih hB
  by_cases hn : l.length = m.length
  · have f0 : bne (l.length : Int) m.length = false := by simp; omega
    have HN := Lib.hid hn
    clear hn
    go_enter Tryz.func44, Tryz.ntmps44
    go_wp2_with fail
    go_loopw [17] (fun i wr => ∃ k : Nat, i = .int .i64 k ∧ k ≤ l.length ∧ Hid (l.take k = m.take k) ∧ Hid (Below w.heap.size w wr)) (fun i _ => l.length - (RowKit.intOf i).toNat)
    case atStart => exact ⟨0, rfl, Nat.zero_le _, rfl, HW.out⟩
    case round =>
      obtain ⟨k, rfl, hk, HO, HB⟩ := hrel
      by_cases hlt : k < l.length
      · have hlt2 : k < m.length := by rw [← HN.out]; exact hlt
        obtain ⟨b, o, a1, c1, a2, c2, rfl, hb, hf5, hkin⟩ := (HA.out.below (HB.out.mono HBB.out)) k hlt
        obtain ⟨b', o', a1', c1', a2', c2', rfl, hb', hf5', hkin'⟩ := (HA'.out.below (HB.out.mono HBB.out)) k hlt2
        obtain ⟨y0, y1, y2, y3, y4⟩ := hf5
        obtain ⟨y0', y1', y2', y3', y4'⟩ := hf5'
        have q0 := cell_alloc y0' (.cells #[.string l[k].sp, .string l[k].nm, .slice a1 l[k].atr.length c1, .string l[k].tx, .slice a2 l[k].ks.length c2] 29)
        have q1 := cell_alloc y1' (.cells #[.string l[k].sp, .string l[k].nm, .slice a1 l[k].atr.length c1, .string l[k].tx, .slice a2 l[k].ks.length c2] 29)
        have q2 := cell_alloc y2' (.cells #[.string l[k].sp, .string l[k].nm, .slice a1 l[k].atr.length c1, .string l[k].tx, .slice a2 l[k].ks.length c2] 29)
        have q3 := cell_alloc y3' (.cells #[.string l[k].sp, .string l[k].nm, .slice a1 l[k].atr.length c1, .string l[k].tx, .slice a2 l[k].ks.length c2] 29)
        have q4 := cell_alloc y4' (.cells #[.string l[k].sp, .string l[k].nm, .slice a1 l[k].atr.length c1, .string l[k].tx, .slice a2 l[k].ks.length c2] 29)
        have hBw : Below B wr ((wr.alloc (.cells #[.string l[k].sp, .string l[k].nm, .slice a1 l[k].atr.length c1, .string l[k].tx, .slice a2 l[k].ks.length c2] 29)).alloc (.cells #[.string m[k].sp, .string m[k].nm, .slice a1' m[k].atr.length c1', .string m[k].tx, .slice a2' m[k].ks.length c2'] 29)) :=
          ((Below.refl _ _).alloc (Nat.le_trans HBB.out HB.out.size) _).alloc (by have h1 := HBB.out; have h2 := HB.out.size; simp; omega) _
        have HC := Lib.hid (IH.out _ (List.getElem_mem hlt) m[k] B ((wr.alloc (.cells #[.string l[k].sp, .string l[k].nm, .slice a1 l[k].atr.length c1, .string l[k].tx, .slice a2 l[k].ks.length c2] 29)).alloc (.cells #[.string m[k].sp, .string m[k].nm, .slice a1' m[k].atr.length c1', .string m[k].tx, .slice a2' m[k].ks.length c2'] 29)) _ _ (hkin.stay hBw) (hkin'.stay hBw) (Nat.le_trans (Nat.le_trans HBB.out HB.out.size) hBw.size))
        have HB2 : Hid (Below w.heap.size w ((wr.alloc (.cells #[.string l[k].sp, .string l[k].nm, .slice a1 l[k].atr.length c1, .string l[k].tx, .slice a2 l[k].ks.length c2] 29)).alloc (.cells #[.string m[k].sp, .string m[k].nm, .slice a1' m[k].atr.length c1', .string m[k].tx, .slice a2' m[k].ks.length c2'] 29))) :=
          (HB.out.alloc HB.out.size _).alloc (by have h2 := HB.out.size; simp; omega) _
        have i2 : (k : Int) < m.length := by omega
        by_cases hkk : l[k] = m[k]
        · have HT := Lib.hid (take_eq hlt hlt2 HO.out hkk)
          rw [eqv_yes hkk] at HC
          clear hkin hkin' hBw hkk hb hb'
          go_wp2_with fail
          refine HC.out.mono ?_
          rintro r w1 ⟨rfl, hbb⟩
          have HB3 := Lib.hid (HB2.out.trans (hbb.mono HB2.out.size))
          clear hbb HC y0 y1 y2 y3 y4 y0' y1' y2' y3' y4' q0 q1 q2 q3 q4
          go_wp2_with fail
          go_roundw
          case rel => exact ⟨k + 1, by go_num, by omega, HT.out, HB3.out⟩
          case measure => simp [RowKit.intOf]; omega
        · have HE : Hid (eqv l m = false) := eqv_no (fun e => hkk (by simp only [e]))
          rw [eqv_no hkk] at HC
          clear hkin hkin' hBw hkk hb hb'
          go_wp2_with fail
          refine HC.out.mono ?_
          rintro r w1 ⟨rfl, hbb⟩
          have HB3 := Lib.hid (HB2.out.trans (hbb.mono HB2.out.size))
          clear hbb HC y0 y1 y2 y3 y4 y0' y1' y2' y3' y4' q0 q1 q2 q3 q4
          go_wp2_with fail
          go_ret
          exact ⟨by rw [HE.out]; rfl, HB3.out⟩
      · have HE : Hid (eqv l m = true) := eqv_yes (by
          have := HO.out
          rwa [List.take_of_length_le (by omega), List.take_of_length_le (by rw [← HN.out]; omega)] at this)
        go_wp2_with fail
        go_ret
        exact ⟨by rw [HE.out]; rfl, HB.out⟩
  · have f0 : bne (l.length : Int) m.length = true := by simp; omega
    have HE : Hid (eqv l m = false) := eqv_no fun e => hn (by rw [e])
    clear hn
    go_enter Tryz.func44, Tryz.ntmps44
    go_wp2_with fail
    go_ret
    exact ⟨by rw [HE.out]; rfl, HW.out⟩
theorem bx2 {w : World} {b b' : Nat} {v0 v1 v2 v3 v4 u0 u1 u2 u3 u4 : Value} {t : TypeId} {W : World} (h : w.heap[b]? = some (.cells #[v0, v1, v2, v3, v4] t (0, 0))) (h' : w.heap[b']? = some (.cells #[u0, u1, u2, u3, u4] t (0, 0))) (hb : Below w.heap.size w W) :
    W.heap[b]? = some (.cells #[v0, v1, v2, v3, v4] t (0, 0)) ∧ W.heap[b']? = some (.cells #[u0, u1, u2, u3, u4] t (0, 0)) :=
  ⟨(hb.block _ (heap_lt h)).trans h, (hb.block _ (heap_lt h')).trans h'⟩
set_option maxRecDepth 100000 in
set_option maxHeartbeats 4000000 in
/-- Same: whether two elements are the same. -/
theorem same_any (e : El) : sameP e := by
  refine El.ind (P := sameP) (fun sp nm atr tx ks ih => ?_) e
  intro f B w v v' hin hin' hB
  generalize hE : El.mk sp nm atr tx ks = E at hin
  obtain rfl : E.ks = ks := by rw [← hE]; rfl
  clear hE
  obtain ⟨aA, cA, aK, cK, rfl, ⟨hq1, hq2⟩, hkm, hat, hks⟩ := hin.out
  obtain ⟨aA', cA', aK', cK', rfl, _, _, hat', hks'⟩ := hin'.out
  have HW0 : Hid (Below w.heap.size w ((w.alloc (.cells #[.string E.sp, .string E.nm, .slice aA E.atr.length cA, .string E.tx, .slice aK E.ks.length cK] 29)).alloc (.cells #[.string f.sp, .string f.nm, .slice aA' f.atr.length cA', .string f.tx, .slice aK' f.ks.length cK'] 29))) := ((Below.refl _ w).alloc (Nat.le_refl _) _).alloc (by simp) _
  have HX0 : Hid (((w.alloc (.cells #[.string E.sp, .string E.nm, .slice aA E.atr.length cA, .string E.tx, .slice aK E.ks.length cK] 29)).alloc (.cells #[.string f.sp, .string f.nm, .slice aA' f.atr.length cA', .string f.tx, .slice aK' f.ks.length cK'] 29)).heap[w.heap.size]? = some (.cells #[.string E.sp, .string E.nm, .slice aA E.atr.length cA, .string E.tx, .slice aK E.ks.length cK] 29 (0, 0))) :=
    (Below.heap_alloc _ _ _ (by simp)).trans (box_new w _ _)
  have HY0 : Hid (((w.alloc (.cells #[.string E.sp, .string E.nm, .slice aA E.atr.length cA, .string E.tx, .slice aK E.ks.length cK] 29)).alloc (.cells #[.string f.sp, .string f.nm, .slice aA' f.atr.length cA', .string f.tx, .slice aK' f.ks.length cK'] 29)).heap[w.heap.size + 1]? = some (.cells #[.string f.sp, .string f.nm, .slice aA' f.atr.length cA', .string f.tx, .slice aK' f.ks.length cK'] 29 (0, 0))) := by
    have := box_new (w.alloc (.cells #[.string E.sp, .string E.nm, .slice aA E.atr.length cA, .string E.tx, .slice aK E.ks.length cK] 29)) #[.string f.sp, .string f.nm, .slice aA' f.atr.length cA', .string f.tx, .slice aK' f.ks.length cK'] 29
    show _ = _
    simpa using this
  have HEQ : Hid (∀ W, Below w.heap.size w W → Calls Tryz.prog 76 #[.slice aA E.atr.length cA, .slice aA' f.atr.length cA'] W fun r w' => r = .returned (.bool (eqv E.atr f.atr)) ∧ Below W.heap.size W w') :=
    fun W hb => equalA_any E.atr f.atr B aA aA' cA cA' W (by omega) (hat.below (hb.mono hB)) (hat'.below (hb.mono hB)) (Nat.le_trans hB hb.size)
  have HEF : Hid (∀ W, Below w.heap.size w W → Calls Tryz.prog 44 #[.slice aK E.ks.length cK, .slice aK' f.ks.length cK', .func (.func 45) #[] #[]] W fun r w' => r = .returned (.bool (eqv E.ks f.ks)) ∧ Below W.heap.size W w') :=
    fun W hb => equalF_any E.ks f.ks ih B aK aK' cK cK' W hkm (hks.below (hb.mono hB)) (hks'.below (hb.mono hB)) (Nat.le_trans hB hb.size)
  have HYES : Hid (E.sp = f.sp → E.nm = f.nm → E.tx = f.tx → E.atr = f.atr → E.ks = f.ks → eqv E f = true) := fun h1 h2 h3 h4 h5 => eqv_yes (by rw [El.eta E, El.eta f, h1, h2, h3, h4, h5])
  have HNO : Hid ((E.sp ≠ f.sp ∨ E.nm ≠ f.nm ∨ E.tx ≠ f.tx ∨ E.atr ≠ f.atr ∨ E.ks ≠ f.ks) → eqv E f = false) := fun h => eqv_no fun e => by
    subst e
    rcases h with h | h | h | h | h <;> exact h rfl
  clear hin hin' hat hat' hks hks' ih hq1 hq2 hkm hB
  by_cases h1 : ¬ E.sp = f.sp
  · have n1 := text_ne h1
    have n2 := text_neb h1
    have HR := Lib.hid (HNO.out (.inl h1))
    clear HNO HYES h1
    go_enter Tryz.func45, Tryz.ntmps45
    go_wp2_with fail
    go_ret
    exact ⟨by rw [HR.out]; rfl, HW0.out⟩
  have h1 : E.sp = f.sp := Classical.not_not.1 h1
  have m1 : (E.sp.toList == f.sp.toList) = true := by rw [h1]; simp
  by_cases h2 : ¬ E.nm = f.nm
  · have n1 := text_ne h2
    have n2 := text_neb h2
    have HR := Lib.hid (HNO.out (.inr (.inl h2)))
    clear HNO HYES h2 h1
    go_enter Tryz.func45, Tryz.ntmps45
    go_wp2_with fail
    go_ret
    exact ⟨by rw [HR.out]; rfl, HW0.out⟩
  have h2 : E.nm = f.nm := Classical.not_not.1 h2
  have m2 : (E.nm.toList == f.nm.toList) = true := by rw [h2]; simp
  by_cases h3 : ¬ E.tx = f.tx
  · have n1 := text_ne h3
    have n2 := text_neb h3
    have HR := Lib.hid (HNO.out (.inr (.inr (.inl h3))))
    clear HNO HYES h3 h2 h1
    go_enter Tryz.func45, Tryz.ntmps45
    go_wp2_with fail
    go_ret
    exact ⟨by rw [HR.out]; rfl, HW0.out⟩
  have h3 : E.tx = f.tx := Classical.not_not.1 h3
  have m3 : (E.tx.toList == f.tx.toList) = true := by rw [h3]; simp
  by_cases h4 : ¬ E.atr = f.atr
  · have HR := Lib.hid (HNO.out (.inr (.inr (.inr (.inl h4)))))
    rw [eqv_no h4] at HEQ
    clear HNO HYES h4 h3 h2 h1
    go_enter Tryz.func45, Tryz.ntmps45
    go_wp2_with fail
    refine (HEQ.out _ HW0.out).mono ?_
    rintro r w1 ⟨rfl, hb⟩
    have HB := Lib.hid (HW0.out.trans (hb.mono HW0.out.size))
    clear hb
    go_wp2_with fail
    go_ret
    exact ⟨by rw [HR.out]; rfl, HB.out⟩
  have h4 : E.atr = f.atr := Classical.not_not.1 h4
  rw [eqv_yes h4] at HEQ
  by_cases h5 : E.ks = f.ks
  case' pos =>
    have HR := Lib.hid (HYES.out h1 h2 h3 h4 h5)
    rw [eqv_yes h5] at HEF
  case' neg =>
    have HR := Lib.hid (HNO.out (.inr (.inr (.inr (.inr h5)))))
    rw [eqv_no h5] at HEF
  all_goals
    clear HNO HYES h5 h4 h3 h2 h1
    go_enter Tryz.func45, Tryz.ntmps45
    go_wp2_with fail
    refine (HEQ.out _ HW0.out).mono ?_
    rintro r w1 ⟨rfl, hb⟩
    have HB := Lib.hid (HW0.out.trans (hb.mono HW0.out.size))
    have HXY := bx2 HX0.out HY0.out hb
    obtain ⟨x0, x1, x2, x3, x4⟩ := bx5 HXY.1
    obtain ⟨y0, y1, y2, y3, y4⟩ := bx5 HXY.2
    clear hb HXY
    go_wp2_with fail
    refine (HEF.out _ HB.out).mono ?_
    rintro r w2 ⟨rfl, hb⟩
    have HB2 := Lib.hid (HB.out.trans (hb.mono HB.out.size))
    clear hb
    go_wp2_with fail
    go_ret
    exact ⟨by rw [HR.out]; rfl, HB2.out⟩

end Go.Proofs.YtccpdfcmhggleaaGreatDoor
