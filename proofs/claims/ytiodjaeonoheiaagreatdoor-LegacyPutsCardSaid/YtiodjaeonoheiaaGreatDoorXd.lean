/- Contracts: fields of package legacy's note reader, by kind; read. Conditions: those of each theorem's head. -/
import Derived.Test.YtiodjaeonoheiaaGreatDoorXc
set_option maxRecDepth 100000
set_option maxHeartbeats 4000000
namespace Go.Proofs.YtiodjaeonoheiaaGreatDoor.T
open Go.RowKit Go.Lib
theorem rtxR_len (k : Nat) (l : List UInt8) : (rtxR k l).length ≤ l.length := by
  unfold rtxR
  rw [List.length_drop, List.length_drop]; omega
section
variable {N P : Nat} {w w' w1 w2 : World} {l m : List UInt8}
def FrP (P : Nat) (n : Nt) (w : World) (e' : Ending) (w' : World) : Prop :=
  e' = .returned (.tuple #[]) ∧ Bt w.heap.size P w w' ∧ ∃ ai az ci cz m, Rr P 107 (nR n.k n.n n.x n.d n.c n.s n.e n.t n.o (.slice ai n.l.length ci) (.slice az n.z.length cz)) w' m ∧ w'.ownsRow w.heap.size 45 6 (.slice ai n.l.length ci) n.l.length (cellsI n.l) ∧ w'.ownsRow w.heap.size 3 1 (.slice az n.z.length cz) n.z.length (cdsV n.z)
theorem rdItsR_len : ∀ (f : Nat) (l : List UInt8), (rdItsR f l).length ≤ l.length
  | 0, l => Nat.le_refl _
  | f + 1, l => by
    unfold rdItsR
    split
    · exact Nat.le_refl _
    · have h1 := rdItsR_len f (rdItR l)
      have h2 := rdItR_len l
      omega
theorem rnum_short (l : List UInt8) : ∃ F : Nat, rnum 2 l = F ∧ F < 65536 := by
  unfold rnum numV
  split
  · refine ⟨_, rfl, ?_⟩
    have := numL_lt (mk (l.take 2)).data.toList
    rw [mk_list, List.length_take] at this
    rw [mk_list]
    exact Nat.lt_of_lt_of_le this (by have := Nat.pow_le_pow_right (n := 256) (by decide) (show min 2 l.length ≤ 2 by omega); exact this)
  · exact ⟨0, rfl, by decide⟩
theorem own_mono {w : World} {M N n s : Nat} {T : TypeId} {v : Value} {xs : List Value} (h : w.ownsRow M T s v n xs) (hN : N ≤ M) : w.ownsRow N T s v n xs := by
  refine ⟨h.1, ?_⟩
  rcases h.2 with h3 | ⟨g, cap, cur, rfl, q1, q2, q3⟩
  · exact .inl h3
  · exact .inr ⟨g, cap, cur, rfl, Nat.le_trans hN q1, q2, q3⟩
theorem gfld_2 (h : Rr P 107 (nR 2 ⟨#[]⟩ ⟨#[]⟩ ⟨#[]⟩ 0 0 0 0 false (.slice none 0 0) (.slice none 0 0)) w l) (hl : l.length ≤ 1000000) :
    Calls Tryz.prog 66 #[.pointer (some ⟨P, 0, none⟩)] w (FrP P (rdN 2 l 2) w) := by
  have H := Lib.hid h
  have HL := Lib.hid hl
  have HB : Hid (Bt w.heap.size P w w) := Bt.refl _ _ _
  obtain ⟨c1, -⟩ := h.cells
  clear h hl
  go_enter Tryz.func66, Tryz.ntmps66
  go_wp2_with fail
  have C := Lib.hid (gtake_any H.out 4 HL.out (by decide))
  change Hid (Calls _ _ _ _ (RrP _ _ _ _ (.string (mk (List.take 4 l))) (List.drop 4 l))) at C
  have HL1 : Hid ((List.drop 4 l).length ≤ 1000000) := Nat.le_trans (by rw [List.length_drop]; omega) HL.out
  obtain ⟨V1, hV⟩ : ∃ x, x = mk (List.take 4 l) := ⟨_, rfl⟩
  obtain ⟨L1, hL⟩ : ∃ x, x = List.drop 4 l := ⟨_, rfl⟩
  rw [← hV, ← hL] at C
  rw [← hL] at HL1
  have HV1 := Lib.hid hV
  have HQ1 := Lib.hid hL
  clear hV hL HL
  have HL := HL1
  clear HL1
  refine C.out.mono ?_
  rintro e w1 ⟨rfl, hb, hr⟩
  clear C
  have HB' := Lib.hid (HB.out.trans (hb.mono HB.out.size))
  have H' := Lib.hid hr
  clear hb hr H HB
  have H := H'
  have HB := HB'
  clear H' HB'
  go_wp2_with fail
  have C := Lib.hid (gvtext_any H.out 6 HL.out (by decide))
  change Hid (Calls _ _ _ _ (RrP _ _ _ _ (.string (rval 6 L1)) (rvlR 6 L1))) at C
  have HL2 : Hid ((rvlR 6 L1).length ≤ 1000000) := Nat.le_trans (rvlR_len _ _) HL.out
  obtain ⟨V2, hV⟩ : ∃ x, x = rval 6 L1 := ⟨_, rfl⟩
  obtain ⟨L2, hL⟩ : ∃ x, x = rvlR 6 L1 := ⟨_, rfl⟩
  rw [← hV, ← hL] at C
  rw [← hL] at HL2
  have HV2 := Lib.hid hV
  have HQ2 := Lib.hid hL
  clear hV hL HL
  have HL := HL2
  clear HL2
  refine C.out.mono ?_
  rintro e w2 ⟨rfl, hb, hr⟩
  clear C
  have HB' := Lib.hid (HB.out.trans (hb.mono HB.out.size))
  have H' := Lib.hid hr
  clear hb hr H HB
  have H := H'
  have HB := HB'
  clear H' HB'
  obtain ⟨-, -, -, c9, -⟩ := H.out.cells
  have f9 := H.out.free 4
  have H' : Hid (Rr P 107 (nR 2 ⟨#[]⟩ ⟨#[]⟩ V2 0 0 0 0 false (.slice none 0 0) (.slice none 0 0)) (w2.setCell ⟨P, 4, none⟩ (.string V2)) L2) := H.out.set 3 (.string V2)
  have HB' := Lib.hid (HB.out.set 4 (.string V2))
  clear H HB
  go_wp2_with fail
  have H := H'
  have HB := HB'
  clear H' HB'
  refine bodyPost_end (results_none rfl _ _ _) rfl ?_
  obtain rfl := HV2.out
  obtain rfl := HQ2.out
  obtain rfl := HV1.out
  obtain rfl := HQ1.out
  exact ⟨rfl, HB.out, none, none, 0, 0, _, H.out, World.ownsRow_nil _ _ _ _, World.ownsRow_nil _ _ _ _⟩
theorem gfld_3 (h : Rr P 107 (nR 3 ⟨#[]⟩ ⟨#[]⟩ ⟨#[]⟩ 0 0 0 0 false (.slice none 0 0) (.slice none 0 0)) w l) (hl : l.length ≤ 1000000) :
    Calls Tryz.prog 66 #[.pointer (some ⟨P, 0, none⟩)] w (FrP P (rdN 3 l 3) w) := by
  have H := Lib.hid h
  have HL := Lib.hid hl
  have HB : Hid (Bt w.heap.size P w w) := Bt.refl _ _ _
  obtain ⟨c1, -⟩ := h.cells
  clear h hl
  go_enter Tryz.func66, Tryz.ntmps66
  go_wp2_with fail
  have C := Lib.hid (gvnum_any H.out 9 HL.out (by decide))
  change Hid (Calls _ _ _ _ (RrP _ _ _ _ (.int .i64 (numV (rval 9 l))) (rvlR 9 l))) at C
  have HL1 : Hid ((rvlR 9 l).length ≤ 1000000) := Nat.le_trans (rvlR_len _ _) HL.out
  obtain ⟨V1, hV⟩ : ∃ x, x = numV (rval 9 l) := ⟨_, rfl⟩
  obtain ⟨L1, hL⟩ : ∃ x, x = rvlR 9 l := ⟨_, rfl⟩
  rw [← hV, ← hL] at C
  rw [← hL] at HL1
  have HV1 := Lib.hid hV
  have HQ1 := Lib.hid hL
  clear hV hL HL
  have HL := HL1
  clear HL1
  refine C.out.mono ?_
  rintro e w1 ⟨rfl, hb, hr⟩
  clear C
  have HB' := Lib.hid (HB.out.trans (hb.mono HB.out.size))
  have H' := Lib.hid hr
  clear hb hr H HB
  have H := H'
  have HB := HB'
  clear H' HB'
  obtain ⟨-, -, -, -, c9, -⟩ := H.out.cells
  have f9 := H.out.free 5
  have H' : Hid (Rr P 107 (nR 3 ⟨#[]⟩ ⟨#[]⟩ ⟨#[]⟩ V1 0 0 0 false (.slice none 0 0) (.slice none 0 0)) (w1.setCell ⟨P, 5, none⟩ (.int .i64 V1)) L1) := H.out.set 4 (.int .i64 V1)
  have HB' := Lib.hid (HB.out.set 5 (.int .i64 V1))
  clear H HB
  go_wp2_with fail
  have H := H'
  have HB := HB'
  clear H' HB'
  refine bodyPost_end (results_none rfl _ _ _) rfl ?_
  obtain rfl := HV1.out
  obtain rfl := HQ1.out
  exact ⟨rfl, HB.out, none, none, 0, 0, _, H.out, World.ownsRow_nil _ _ _ _, World.ownsRow_nil _ _ _ _⟩
theorem gfld_5 (h : Rr P 107 (nR 5 ⟨#[]⟩ ⟨#[]⟩ ⟨#[]⟩ 0 0 0 0 false (.slice none 0 0) (.slice none 0 0)) w l) (hl : l.length ≤ 1000000) :
    Calls Tryz.prog 66 #[.pointer (some ⟨P, 0, none⟩)] w (FrP P (rdN 5 l 5) w) := by
  have H := Lib.hid h
  have HL := Lib.hid hl
  have HB : Hid (Bt w.heap.size P w w) := Bt.refl _ _ _
  obtain ⟨c1, -⟩ := h.cells
  clear h hl
  go_enter Tryz.func66, Tryz.ntmps66
  go_wp2_with fail
  have C := Lib.hid (gvtext_any H.out 1 HL.out (by decide))
  change Hid (Calls _ _ _ _ (RrP _ _ _ _ (.string (rval 1 l)) (rvlR 1 l))) at C
  have HL1 : Hid ((rvlR 1 l).length ≤ 1000000) := Nat.le_trans (rvlR_len _ _) HL.out
  obtain ⟨V1, hV⟩ : ∃ x, x = rval 1 l := ⟨_, rfl⟩
  obtain ⟨L1, hL⟩ : ∃ x, x = rvlR 1 l := ⟨_, rfl⟩
  rw [← hV, ← hL] at C
  rw [← hL] at HL1
  have HV1 := Lib.hid hV
  have HQ1 := Lib.hid hL
  clear hV hL HL
  have HL := HL1
  clear HL1
  refine C.out.mono ?_
  rintro e w1 ⟨rfl, hb, hr⟩
  clear C
  have HB' := Lib.hid (HB.out.trans (hb.mono HB.out.size))
  have H' := Lib.hid hr
  clear hb hr H HB
  have H := H'
  have HB := HB'
  clear H' HB'
  obtain ⟨-, c9, -⟩ := H.out.cells
  have f9 := H.out.free 2
  have H' : Hid (Rr P 107 (nR 5 V1 ⟨#[]⟩ ⟨#[]⟩ 0 0 0 0 false (.slice none 0 0) (.slice none 0 0)) (w1.setCell ⟨P, 2, none⟩ (.string V1)) L1) := H.out.set 1 (.string V1)
  have HB' := Lib.hid (HB.out.set 2 (.string V1))
  clear H HB
  go_wp2_with fail
  have H := H'
  have HB := HB'
  clear H' HB'
  refine bodyPost_end (results_none rfl _ _ _) rfl ?_
  obtain rfl := HV1.out
  obtain rfl := HQ1.out
  exact ⟨rfl, HB.out, none, none, 0, 0, _, H.out, World.ownsRow_nil _ _ _ _, World.ownsRow_nil _ _ _ _⟩
theorem gfld_6 (h : Rr P 107 (nR 6 ⟨#[]⟩ ⟨#[]⟩ ⟨#[]⟩ 0 0 0 0 false (.slice none 0 0) (.slice none 0 0)) w l) (hl : l.length ≤ 1000000) :
    Calls Tryz.prog 66 #[.pointer (some ⟨P, 0, none⟩)] w (FrP P (rdN 6 l 6) w) := by
  have H := Lib.hid h
  have HL := Lib.hid hl
  have HB : Hid (Bt w.heap.size P w w) := Bt.refl _ _ _
  obtain ⟨c1, -⟩ := h.cells
  clear h hl
  go_enter Tryz.func66, Tryz.ntmps66
  go_wp2_with fail
  have C := Lib.hid (gtext_any H.out 2 HL.out (by decide))
  change Hid (Calls _ _ _ _ (RrP _ _ _ _ (.string (rtxt 2 l)) (rtxR 2 l))) at C
  have HL1 : Hid ((rtxR 2 l).length ≤ 1000000) := Nat.le_trans (rtxR_len _ _) HL.out
  obtain ⟨V1, hV⟩ : ∃ x, x = rtxt 2 l := ⟨_, rfl⟩
  obtain ⟨L1, hL⟩ : ∃ x, x = rtxR 2 l := ⟨_, rfl⟩
  rw [← hV, ← hL] at C
  rw [← hL] at HL1
  have HV1 := Lib.hid hV
  have HQ1 := Lib.hid hL
  clear hV hL HL
  have HL := HL1
  clear HL1
  refine C.out.mono ?_
  rintro e w1 ⟨rfl, hb, hr⟩
  clear C
  have HB' := Lib.hid (HB.out.trans (hb.mono HB.out.size))
  have H' := Lib.hid hr
  clear hb hr H HB
  have H := H'
  have HB := HB'
  clear H' HB'
  obtain ⟨-, -, -, c9, -⟩ := H.out.cells
  have f9 := H.out.free 4
  have H' : Hid (Rr P 107 (nR 6 ⟨#[]⟩ ⟨#[]⟩ V1 0 0 0 0 false (.slice none 0 0) (.slice none 0 0)) (w1.setCell ⟨P, 4, none⟩ (.string V1)) L1) := H.out.set 3 (.string V1)
  have HB' := Lib.hid (HB.out.set 4 (.string V1))
  clear H HB
  go_wp2_with fail
  have H := H'
  have HB := HB'
  clear H' HB'
  refine bodyPost_end (results_none rfl _ _ _) rfl ?_
  obtain rfl := HV1.out
  obtain rfl := HQ1.out
  exact ⟨rfl, HB.out, none, none, 0, 0, _, H.out, World.ownsRow_nil _ _ _ _, World.ownsRow_nil _ _ _ _⟩
theorem gfld_7 (h : Rr P 107 (nR 7 ⟨#[]⟩ ⟨#[]⟩ ⟨#[]⟩ 0 0 0 0 false (.slice none 0 0) (.slice none 0 0)) w l) (hl : l.length ≤ 1000000) :
    Calls Tryz.prog 66 #[.pointer (some ⟨P, 0, none⟩)] w (FrP P (rdN 7 l 7) w) := by
  have H := Lib.hid h
  have HL := Lib.hid hl
  have HB : Hid (Bt w.heap.size P w w) := Bt.refl _ _ _
  obtain ⟨c1, -⟩ := h.cells
  clear h hl
  go_enter Tryz.func66, Tryz.ntmps66
  go_wp2_with fail
  have C := Lib.hid (gvtext_any H.out 1 HL.out (by decide))
  change Hid (Calls _ _ _ _ (RrP _ _ _ _ (.string (rval 1 l)) (rvlR 1 l))) at C
  have HL1 : Hid ((rvlR 1 l).length ≤ 1000000) := Nat.le_trans (rvlR_len _ _) HL.out
  obtain ⟨V1, hV⟩ : ∃ x, x = rval 1 l := ⟨_, rfl⟩
  obtain ⟨L1, hL⟩ : ∃ x, x = rvlR 1 l := ⟨_, rfl⟩
  rw [← hV, ← hL] at C
  rw [← hL] at HL1
  have HV1 := Lib.hid hV
  have HQ1 := Lib.hid hL
  clear hV hL HL
  have HL := HL1
  clear HL1
  refine C.out.mono ?_
  rintro e w1 ⟨rfl, hb, hr⟩
  clear C
  have HB' := Lib.hid (HB.out.trans (hb.mono HB.out.size))
  have H' := Lib.hid hr
  clear hb hr H HB
  have H := H'
  have HB := HB'
  clear H' HB'
  obtain ⟨-, c9, -⟩ := H.out.cells
  have f9 := H.out.free 2
  have H' : Hid (Rr P 107 (nR 7 V1 ⟨#[]⟩ ⟨#[]⟩ 0 0 0 0 false (.slice none 0 0) (.slice none 0 0)) (w1.setCell ⟨P, 2, none⟩ (.string V1)) L1) := H.out.set 1 (.string V1)
  have HB' := Lib.hid (HB.out.set 2 (.string V1))
  clear H HB
  go_wp2_with fail
  clear c9 f9
  generalize w1.setCell ⟨P, 2, none⟩ (.string V1) = W1 at H' HB' ⊢
  have H := H'
  have HB := HB'
  clear H' HB'
  have C := Lib.hid (gvtext_any H.out 37 HL.out (by decide))
  change Hid (Calls _ _ _ _ (RrP _ _ _ _ (.string (rval 37 L1)) (rvlR 37 L1))) at C
  have HL2 : Hid ((rvlR 37 L1).length ≤ 1000000) := Nat.le_trans (rvlR_len _ _) HL.out
  obtain ⟨V2, hV⟩ : ∃ x, x = rval 37 L1 := ⟨_, rfl⟩
  obtain ⟨L2, hL⟩ : ∃ x, x = rvlR 37 L1 := ⟨_, rfl⟩
  rw [← hV, ← hL] at C
  rw [← hL] at HL2
  have HV2 := Lib.hid hV
  have HQ2 := Lib.hid hL
  clear hV hL HL
  have HL := HL2
  clear HL2
  refine C.out.mono ?_
  rintro e w2 ⟨rfl, hb, hr⟩
  clear C
  have HB' := Lib.hid (HB.out.trans (hb.mono HB.out.size))
  have H' := Lib.hid hr
  clear hb hr H HB
  have H := H'
  have HB := HB'
  clear H' HB'
  obtain ⟨-, -, -, c9, -⟩ := H.out.cells
  have f9 := H.out.free 4
  have H' : Hid (Rr P 107 (nR 7 V1 ⟨#[]⟩ V2 0 0 0 0 false (.slice none 0 0) (.slice none 0 0)) (w2.setCell ⟨P, 4, none⟩ (.string V2)) L2) := H.out.set 3 (.string V2)
  have HB' := Lib.hid (HB.out.set 4 (.string V2))
  clear H HB
  go_wp2_with fail
  have H := H'
  have HB := HB'
  clear H' HB'
  refine bodyPost_end (results_none rfl _ _ _) rfl ?_
  obtain rfl := HV2.out
  obtain rfl := HQ2.out
  obtain rfl := HV1.out
  obtain rfl := HQ1.out
  exact ⟨rfl, HB.out, none, none, 0, 0, _, H.out, World.ownsRow_nil _ _ _ _, World.ownsRow_nil _ _ _ _⟩
theorem gfld_8 (h : Rr P 107 (nR 8 ⟨#[]⟩ ⟨#[]⟩ ⟨#[]⟩ 0 0 0 0 false (.slice none 0 0) (.slice none 0 0)) w l) (hl : l.length ≤ 1000000) :
    Calls Tryz.prog 66 #[.pointer (some ⟨P, 0, none⟩)] w (FrP P (rdN 8 l 8) w) := by
  have H := Lib.hid h
  have HL := Lib.hid hl
  have HB : Hid (Bt w.heap.size P w w) := Bt.refl _ _ _
  obtain ⟨c1, -⟩ := h.cells
  clear h hl
  go_enter Tryz.func66, Tryz.ntmps66
  go_wp2_with fail
  have C := Lib.hid (gvtext_any H.out 1 HL.out (by decide))
  change Hid (Calls _ _ _ _ (RrP _ _ _ _ (.string (rval 1 l)) (rvlR 1 l))) at C
  have HL1 : Hid ((rvlR 1 l).length ≤ 1000000) := Nat.le_trans (rvlR_len _ _) HL.out
  obtain ⟨V1, hV⟩ : ∃ x, x = rval 1 l := ⟨_, rfl⟩
  obtain ⟨L1, hL⟩ : ∃ x, x = rvlR 1 l := ⟨_, rfl⟩
  rw [← hV, ← hL] at C
  rw [← hL] at HL1
  have HV1 := Lib.hid hV
  have HQ1 := Lib.hid hL
  clear hV hL HL
  have HL := HL1
  clear HL1
  refine C.out.mono ?_
  rintro e w1 ⟨rfl, hb, hr⟩
  clear C
  have HB' := Lib.hid (HB.out.trans (hb.mono HB.out.size))
  have H' := Lib.hid hr
  clear hb hr H HB
  have H := H'
  have HB := HB'
  clear H' HB'
  obtain ⟨-, c9, -⟩ := H.out.cells
  have f9 := H.out.free 2
  have H' : Hid (Rr P 107 (nR 8 V1 ⟨#[]⟩ ⟨#[]⟩ 0 0 0 0 false (.slice none 0 0) (.slice none 0 0)) (w1.setCell ⟨P, 2, none⟩ (.string V1)) L1) := H.out.set 1 (.string V1)
  have HB' := Lib.hid (HB.out.set 2 (.string V1))
  clear H HB
  go_wp2_with fail
  clear c9 f9
  generalize w1.setCell ⟨P, 2, none⟩ (.string V1) = W1 at H' HB' ⊢
  have H := H'
  have HB := HB'
  clear H' HB'
  have C := Lib.hid (gvtext_any H.out 6 HL.out (by decide))
  change Hid (Calls _ _ _ _ (RrP _ _ _ _ (.string (rval 6 L1)) (rvlR 6 L1))) at C
  have HL2 : Hid ((rvlR 6 L1).length ≤ 1000000) := Nat.le_trans (rvlR_len _ _) HL.out
  obtain ⟨V2, hV⟩ : ∃ x, x = rval 6 L1 := ⟨_, rfl⟩
  obtain ⟨L2, hL⟩ : ∃ x, x = rvlR 6 L1 := ⟨_, rfl⟩
  rw [← hV, ← hL] at C
  rw [← hL] at HL2
  have HV2 := Lib.hid hV
  have HQ2 := Lib.hid hL
  clear hV hL HL
  have HL := HL2
  clear HL2
  refine C.out.mono ?_
  rintro e w2 ⟨rfl, hb, hr⟩
  clear C
  have HB' := Lib.hid (HB.out.trans (hb.mono HB.out.size))
  have H' := Lib.hid hr
  clear hb hr H HB
  have H := H'
  have HB := HB'
  clear H' HB'
  obtain ⟨-, -, -, c9, -⟩ := H.out.cells
  have f9 := H.out.free 4
  have H' : Hid (Rr P 107 (nR 8 V1 ⟨#[]⟩ V2 0 0 0 0 false (.slice none 0 0) (.slice none 0 0)) (w2.setCell ⟨P, 4, none⟩ (.string V2)) L2) := H.out.set 3 (.string V2)
  have HB' := Lib.hid (HB.out.set 4 (.string V2))
  clear H HB
  go_wp2_with fail
  clear c9 f9
  generalize w2.setCell ⟨P, 4, none⟩ (.string V2) = W2 at H' HB' ⊢
  have H := H'
  have HB := HB'
  clear H' HB'
  have C := Lib.hid (gvnum_any H.out 8 HL.out (by decide))
  change Hid (Calls _ _ _ _ (RrP _ _ _ _ (.int .i64 (numV (rval 8 L2))) (rvlR 8 L2))) at C
  have HL3 : Hid ((rvlR 8 L2).length ≤ 1000000) := Nat.le_trans (rvlR_len _ _) HL.out
  obtain ⟨V3, hV⟩ : ∃ x, x = numV (rval 8 L2) := ⟨_, rfl⟩
  obtain ⟨L3, hL⟩ : ∃ x, x = rvlR 8 L2 := ⟨_, rfl⟩
  rw [← hV, ← hL] at C
  rw [← hL] at HL3
  have HV3 := Lib.hid hV
  have HQ3 := Lib.hid hL
  clear hV hL HL
  have HL := HL3
  clear HL3
  refine C.out.mono ?_
  rintro e w3 ⟨rfl, hb, hr⟩
  clear C
  have HB' := Lib.hid (HB.out.trans (hb.mono HB.out.size))
  have H' := Lib.hid hr
  clear hb hr H HB
  have H := H'
  have HB := HB'
  clear H' HB'
  obtain ⟨-, -, -, -, c9, -⟩ := H.out.cells
  have f9 := H.out.free 5
  have H' : Hid (Rr P 107 (nR 8 V1 ⟨#[]⟩ V2 V3 0 0 0 false (.slice none 0 0) (.slice none 0 0)) (w3.setCell ⟨P, 5, none⟩ (.int .i64 V3)) L3) := H.out.set 4 (.int .i64 V3)
  have HB' := Lib.hid (HB.out.set 5 (.int .i64 V3))
  clear H HB
  go_wp2_with fail
  have H := H'
  have HB := HB'
  clear H' HB'
  refine bodyPost_end (results_none rfl _ _ _) rfl ?_
  obtain rfl := HV3.out
  obtain rfl := HQ3.out
  obtain rfl := HV2.out
  obtain rfl := HQ2.out
  obtain rfl := HV1.out
  obtain rfl := HQ1.out
  exact ⟨rfl, HB.out, none, none, 0, 0, _, H.out, World.ownsRow_nil _ _ _ _, World.ownsRow_nil _ _ _ _⟩
theorem gfld_11 (h : Rr P 107 (nR 11 ⟨#[]⟩ ⟨#[]⟩ ⟨#[]⟩ 0 0 0 0 false (.slice none 0 0) (.slice none 0 0)) w l) (hl : l.length ≤ 1000000) :
    Calls Tryz.prog 66 #[.pointer (some ⟨P, 0, none⟩)] w (FrP P (rdN 11 l 11) w) := by
  have H := Lib.hid h
  have HL := Lib.hid hl
  have HB : Hid (Bt w.heap.size P w w) := Bt.refl _ _ _
  obtain ⟨c1, -⟩ := h.cells
  clear h hl
  go_enter Tryz.func66, Tryz.ntmps66
  go_wp2_with fail
  have C := Lib.hid (gvnum_any H.out 6 HL.out (by decide))
  change Hid (Calls _ _ _ _ (RrP _ _ _ _ (.int .i64 (numV (rval 6 l))) (rvlR 6 l))) at C
  have HL1 : Hid ((rvlR 6 l).length ≤ 1000000) := Nat.le_trans (rvlR_len _ _) HL.out
  obtain ⟨V1, hV⟩ : ∃ x, x = numV (rval 6 l) := ⟨_, rfl⟩
  obtain ⟨L1, hL⟩ : ∃ x, x = rvlR 6 l := ⟨_, rfl⟩
  rw [← hV, ← hL] at C
  rw [← hL] at HL1
  have HV1 := Lib.hid hV
  have HQ1 := Lib.hid hL
  clear hV hL HL
  have HL := HL1
  clear HL1
  refine C.out.mono ?_
  rintro e w1 ⟨rfl, hb, hr⟩
  clear C
  have HB' := Lib.hid (HB.out.trans (hb.mono HB.out.size))
  have H' := Lib.hid hr
  clear hb hr H HB
  have H := H'
  have HB := HB'
  clear H' HB'
  obtain ⟨-, -, -, -, -, c9, -⟩ := H.out.cells
  have f9 := H.out.free 6
  have H' : Hid (Rr P 107 (nR 11 ⟨#[]⟩ ⟨#[]⟩ ⟨#[]⟩ 0 V1 0 0 false (.slice none 0 0) (.slice none 0 0)) (w1.setCell ⟨P, 6, none⟩ (.int .i64 V1)) L1) := H.out.set 5 (.int .i64 V1)
  have HB' := Lib.hid (HB.out.set 6 (.int .i64 V1))
  clear H HB
  go_wp2_with fail
  have H := H'
  have HB := HB'
  clear H' HB'
  refine bodyPost_end (results_none rfl _ _ _) rfl ?_
  obtain rfl := HV1.out
  obtain rfl := HQ1.out
  exact ⟨rfl, HB.out, none, none, 0, 0, _, H.out, World.ownsRow_nil _ _ _ _, World.ownsRow_nil _ _ _ _⟩
theorem gfld_12 (h : Rr P 107 (nR 12 ⟨#[]⟩ ⟨#[]⟩ ⟨#[]⟩ 0 0 0 0 false (.slice none 0 0) (.slice none 0 0)) w l) (hl : l.length ≤ 1000000) :
    Calls Tryz.prog 66 #[.pointer (some ⟨P, 0, none⟩)] w (FrP P (rdN 12 l 12) w) := by
  have H := Lib.hid h
  have HL := Lib.hid hl
  have HB : Hid (Bt w.heap.size P w w) := Bt.refl _ _ _
  obtain ⟨c1, -⟩ := h.cells
  clear h hl
  go_enter Tryz.func66, Tryz.ntmps66
  go_wp2_with fail
  have C := Lib.hid (gnumber_any H.out 4 HL.out (by decide))
  change Hid (Calls _ _ _ _ (RrP _ _ _ _ (.int .i64 (rnum 4 l)) (List.drop 4 l))) at C
  have HL1 : Hid ((List.drop 4 l).length ≤ 1000000) := Nat.le_trans (by rw [List.length_drop]; omega) HL.out
  obtain ⟨V1, hV⟩ : ∃ x, x = rnum 4 l := ⟨_, rfl⟩
  obtain ⟨L1, hL⟩ : ∃ x, x = List.drop 4 l := ⟨_, rfl⟩
  rw [← hV, ← hL] at C
  rw [← hL] at HL1
  have HV1 := Lib.hid hV
  have HQ1 := Lib.hid hL
  clear hV hL HL
  have HL := HL1
  clear HL1
  refine C.out.mono ?_
  rintro e w1 ⟨rfl, hb, hr⟩
  clear C
  have HB' := Lib.hid (HB.out.trans (hb.mono HB.out.size))
  have H' := Lib.hid hr
  clear hb hr H HB
  have H := H'
  have HB := HB'
  clear H' HB'
  obtain ⟨-, -, -, -, -, -, c9, -⟩ := H.out.cells
  have f9 := H.out.free 7
  have H' : Hid (Rr P 107 (nR 12 ⟨#[]⟩ ⟨#[]⟩ ⟨#[]⟩ 0 0 V1 0 false (.slice none 0 0) (.slice none 0 0)) (w1.setCell ⟨P, 7, none⟩ (.int .i64 V1)) L1) := H.out.set 6 (.int .i64 V1)
  have HB' := Lib.hid (HB.out.set 7 (.int .i64 V1))
  clear H HB
  go_wp2_with fail
  have H := H'
  have HB := HB'
  clear H' HB'
  refine bodyPost_end (results_none rfl _ _ _) rfl ?_
  obtain rfl := HV1.out
  obtain rfl := HQ1.out
  exact ⟨rfl, HB.out, none, none, 0, 0, _, H.out, World.ownsRow_nil _ _ _ _, World.ownsRow_nil _ _ _ _⟩
theorem gfld_13 (h : Rr P 107 (nR 13 ⟨#[]⟩ ⟨#[]⟩ ⟨#[]⟩ 0 0 0 0 false (.slice none 0 0) (.slice none 0 0)) w l) (hl : l.length ≤ 1000000) :
    Calls Tryz.prog 66 #[.pointer (some ⟨P, 0, none⟩)] w (FrP P (rdN 13 l 13) w) := by
  have H := Lib.hid h
  have HL := Lib.hid hl
  have HB : Hid (Bt w.heap.size P w w) := Bt.refl _ _ _
  obtain ⟨c1, -⟩ := h.cells
  clear h hl
  go_enter Tryz.func66, Tryz.ntmps66
  go_wp2_with fail
  have C := Lib.hid (gtext_any H.out 1 HL.out (by decide))
  change Hid (Calls _ _ _ _ (RrP _ _ _ _ (.string (rtxt 1 l)) (rtxR 1 l))) at C
  have HL1 : Hid ((rtxR 1 l).length ≤ 1000000) := Nat.le_trans (rtxR_len _ _) HL.out
  obtain ⟨V1, hV⟩ : ∃ x, x = rtxt 1 l := ⟨_, rfl⟩
  obtain ⟨L1, hL⟩ : ∃ x, x = rtxR 1 l := ⟨_, rfl⟩
  rw [← hV, ← hL] at C
  rw [← hL] at HL1
  have HV1 := Lib.hid hV
  have HQ1 := Lib.hid hL
  clear hV hL HL
  have HL := HL1
  clear HL1
  refine C.out.mono ?_
  rintro e w1 ⟨rfl, hb, hr⟩
  clear C
  have HB' := Lib.hid (HB.out.trans (hb.mono HB.out.size))
  have H' := Lib.hid hr
  clear hb hr H HB
  have H := H'
  have HB := HB'
  clear H' HB'
  obtain ⟨-, c9, -⟩ := H.out.cells
  have f9 := H.out.free 2
  have H' : Hid (Rr P 107 (nR 13 V1 ⟨#[]⟩ ⟨#[]⟩ 0 0 0 0 false (.slice none 0 0) (.slice none 0 0)) (w1.setCell ⟨P, 2, none⟩ (.string V1)) L1) := H.out.set 1 (.string V1)
  have HB' := Lib.hid (HB.out.set 2 (.string V1))
  clear H HB
  go_wp2_with fail
  clear c9 f9
  generalize w1.setCell ⟨P, 2, none⟩ (.string V1) = W1 at H' HB' ⊢
  have H := H'
  have HB := HB'
  clear H' HB'
  have C := Lib.hid (gvnum_any H.out 6 HL.out (by decide))
  change Hid (Calls _ _ _ _ (RrP _ _ _ _ (.int .i64 (numV (rval 6 L1))) (rvlR 6 L1))) at C
  have HL2 : Hid ((rvlR 6 L1).length ≤ 1000000) := Nat.le_trans (rvlR_len _ _) HL.out
  obtain ⟨V2, hV⟩ : ∃ x, x = numV (rval 6 L1) := ⟨_, rfl⟩
  obtain ⟨L2, hL⟩ : ∃ x, x = rvlR 6 L1 := ⟨_, rfl⟩
  rw [← hV, ← hL] at C
  rw [← hL] at HL2
  have HV2 := Lib.hid hV
  have HQ2 := Lib.hid hL
  clear hV hL HL
  have HL := HL2
  clear HL2
  refine C.out.mono ?_
  rintro e w2 ⟨rfl, hb, hr⟩
  clear C
  have HB' := Lib.hid (HB.out.trans (hb.mono HB.out.size))
  have H' := Lib.hid hr
  clear hb hr H HB
  have H := H'
  have HB := HB'
  clear H' HB'
  obtain ⟨-, -, -, -, -, c9, -⟩ := H.out.cells
  have f9 := H.out.free 6
  have H' : Hid (Rr P 107 (nR 13 V1 ⟨#[]⟩ ⟨#[]⟩ 0 V2 0 0 false (.slice none 0 0) (.slice none 0 0)) (w2.setCell ⟨P, 6, none⟩ (.int .i64 V2)) L2) := H.out.set 5 (.int .i64 V2)
  have HB' := Lib.hid (HB.out.set 6 (.int .i64 V2))
  clear H HB
  go_wp2_with fail
  clear c9 f9
  generalize w2.setCell ⟨P, 6, none⟩ (.int .i64 V2) = W2 at H' HB' ⊢
  have H := H'
  have HB := HB'
  clear H' HB'
  have C := Lib.hid (gvnum_any H.out 4 HL.out (by decide))
  change Hid (Calls _ _ _ _ (RrP _ _ _ _ (.int .i64 (numV (rval 4 L2))) (rvlR 4 L2))) at C
  have HL3 : Hid ((rvlR 4 L2).length ≤ 1000000) := Nat.le_trans (rvlR_len _ _) HL.out
  obtain ⟨V3, hV⟩ : ∃ x, x = numV (rval 4 L2) := ⟨_, rfl⟩
  obtain ⟨L3, hL⟩ : ∃ x, x = rvlR 4 L2 := ⟨_, rfl⟩
  rw [← hV, ← hL] at C
  rw [← hL] at HL3
  have HV3 := Lib.hid hV
  have HQ3 := Lib.hid hL
  clear hV hL HL
  have HL := HL3
  clear HL3
  refine C.out.mono ?_
  rintro e w3 ⟨rfl, hb, hr⟩
  clear C
  have HB' := Lib.hid (HB.out.trans (hb.mono HB.out.size))
  have H' := Lib.hid hr
  clear hb hr H HB
  have H := H'
  have HB := HB'
  clear H' HB'
  obtain ⟨-, -, -, -, -, -, c9, -⟩ := H.out.cells
  have f9 := H.out.free 7
  have H' : Hid (Rr P 107 (nR 13 V1 ⟨#[]⟩ ⟨#[]⟩ 0 V2 V3 0 false (.slice none 0 0) (.slice none 0 0)) (w3.setCell ⟨P, 7, none⟩ (.int .i64 V3)) L3) := H.out.set 6 (.int .i64 V3)
  have HB' := Lib.hid (HB.out.set 7 (.int .i64 V3))
  clear H HB
  go_wp2_with fail
  have H := H'
  have HB := HB'
  clear H' HB'
  refine bodyPost_end (results_none rfl _ _ _) rfl ?_
  obtain rfl := HV3.out
  obtain rfl := HQ3.out
  obtain rfl := HV2.out
  obtain rfl := HQ2.out
  obtain rfl := HV1.out
  obtain rfl := HQ1.out
  exact ⟨rfl, HB.out, none, none, 0, 0, _, H.out, World.ownsRow_nil _ _ _ _, World.ownsRow_nil _ _ _ _⟩
theorem gfld_14 (h : Rr P 107 (nR 14 ⟨#[]⟩ ⟨#[]⟩ ⟨#[]⟩ 0 0 0 0 false (.slice none 0 0) (.slice none 0 0)) w l) (hl : l.length ≤ 1000000) :
    Calls Tryz.prog 66 #[.pointer (some ⟨P, 0, none⟩)] w (FrP P (rdN 14 l 14) w) := by
  have H := Lib.hid h
  have HL := Lib.hid hl
  have HB : Hid (Bt w.heap.size P w w) := Bt.refl _ _ _
  obtain ⟨c1, -⟩ := h.cells
  clear h hl
  go_enter Tryz.func66, Tryz.ntmps66
  go_wp2_with fail
  have C := Lib.hid (gtext_any H.out 1 HL.out (by decide))
  change Hid (Calls _ _ _ _ (RrP _ _ _ _ (.string (rtxt 1 l)) (rtxR 1 l))) at C
  have HL1 : Hid ((rtxR 1 l).length ≤ 1000000) := Nat.le_trans (rtxR_len _ _) HL.out
  obtain ⟨V1, hV⟩ : ∃ x, x = rtxt 1 l := ⟨_, rfl⟩
  obtain ⟨L1, hL⟩ : ∃ x, x = rtxR 1 l := ⟨_, rfl⟩
  rw [← hV, ← hL] at C
  rw [← hL] at HL1
  have HV1 := Lib.hid hV
  have HQ1 := Lib.hid hL
  clear hV hL HL
  have HL := HL1
  clear HL1
  refine C.out.mono ?_
  rintro e w1 ⟨rfl, hb, hr⟩
  clear C
  have HB' := Lib.hid (HB.out.trans (hb.mono HB.out.size))
  have H' := Lib.hid hr
  clear hb hr H HB
  have H := H'
  have HB := HB'
  clear H' HB'
  obtain ⟨-, c9, -⟩ := H.out.cells
  have f9 := H.out.free 2
  have H' : Hid (Rr P 107 (nR 14 V1 ⟨#[]⟩ ⟨#[]⟩ 0 0 0 0 false (.slice none 0 0) (.slice none 0 0)) (w1.setCell ⟨P, 2, none⟩ (.string V1)) L1) := H.out.set 1 (.string V1)
  have HB' := Lib.hid (HB.out.set 2 (.string V1))
  clear H HB
  go_wp2_with fail
  have H := H'
  have HB := HB'
  clear H' HB'
  refine bodyPost_end (results_none rfl _ _ _) rfl ?_
  obtain rfl := HV1.out
  obtain rfl := HQ1.out
  exact ⟨rfl, HB.out, none, none, 0, 0, _, H.out, World.ownsRow_nil _ _ _ _, World.ownsRow_nil _ _ _ _⟩
theorem gfld_15 (h : Rr P 107 (nR 15 ⟨#[]⟩ ⟨#[]⟩ ⟨#[]⟩ 0 0 0 0 false (.slice none 0 0) (.slice none 0 0)) w l) (hl : l.length ≤ 1000000) :
    Calls Tryz.prog 66 #[.pointer (some ⟨P, 0, none⟩)] w (FrP P (rdN 15 l 15) w) := by
  have H := Lib.hid h
  have HL := Lib.hid hl
  have HB : Hid (Bt w.heap.size P w w) := Bt.refl _ _ _
  obtain ⟨c1, -⟩ := h.cells
  clear h hl
  go_enter Tryz.func66, Tryz.ntmps66
  go_wp2_with fail
  have C := Lib.hid (gtake_any H.out 8 HL.out (by decide))
  change Hid (Calls _ _ _ _ (RrP _ _ _ _ (.string (mk (List.take 8 l))) (List.drop 8 l))) at C
  have HL1 : Hid ((List.drop 8 l).length ≤ 1000000) := Nat.le_trans (by rw [List.length_drop]; omega) HL.out
  obtain ⟨V1, hV⟩ : ∃ x, x = mk (List.take 8 l) := ⟨_, rfl⟩
  obtain ⟨L1, hL⟩ : ∃ x, x = List.drop 8 l := ⟨_, rfl⟩
  rw [← hV, ← hL] at C
  rw [← hL] at HL1
  have HV1 := Lib.hid hV
  have HQ1 := Lib.hid hL
  clear hV hL HL
  have HL := HL1
  clear HL1
  refine C.out.mono ?_
  rintro e w1 ⟨rfl, hb, hr⟩
  clear C
  have HB' := Lib.hid (HB.out.trans (hb.mono HB.out.size))
  have H' := Lib.hid hr
  clear hb hr H HB
  have H := H'
  have HB := HB'
  clear H' HB'
  obtain ⟨-, -, -, c9, -⟩ := H.out.cells
  have f9 := H.out.free 4
  have H' : Hid (Rr P 107 (nR 15 ⟨#[]⟩ ⟨#[]⟩ V1 0 0 0 0 false (.slice none 0 0) (.slice none 0 0)) (w1.setCell ⟨P, 4, none⟩ (.string V1)) L1) := H.out.set 3 (.string V1)
  have HB' := Lib.hid (HB.out.set 4 (.string V1))
  clear H HB
  go_wp2_with fail
  clear c9 f9
  generalize w1.setCell ⟨P, 4, none⟩ (.string V1) = W1 at H' HB' ⊢
  have H := H'
  have HB := HB'
  clear H' HB'
  have C := Lib.hid (gtext_any H.out 1 HL.out (by decide))
  change Hid (Calls _ _ _ _ (RrP _ _ _ _ (.string (rtxt 1 L1)) (rtxR 1 L1))) at C
  have HL2 : Hid ((rtxR 1 L1).length ≤ 1000000) := Nat.le_trans (rtxR_len _ _) HL.out
  obtain ⟨V2, hV⟩ : ∃ x, x = rtxt 1 L1 := ⟨_, rfl⟩
  obtain ⟨L2, hL⟩ : ∃ x, x = rtxR 1 L1 := ⟨_, rfl⟩
  rw [← hV, ← hL] at C
  rw [← hL] at HL2
  have HV2 := Lib.hid hV
  have HQ2 := Lib.hid hL
  clear hV hL HL
  have HL := HL2
  clear HL2
  refine C.out.mono ?_
  rintro e w2 ⟨rfl, hb, hr⟩
  clear C
  have HB' := Lib.hid (HB.out.trans (hb.mono HB.out.size))
  have H' := Lib.hid hr
  clear hb hr H HB
  have H := H'
  have HB := HB'
  clear H' HB'
  obtain ⟨-, c9, -⟩ := H.out.cells
  have f9 := H.out.free 2
  have H' : Hid (Rr P 107 (nR 15 V2 ⟨#[]⟩ V1 0 0 0 0 false (.slice none 0 0) (.slice none 0 0)) (w2.setCell ⟨P, 2, none⟩ (.string V2)) L2) := H.out.set 1 (.string V2)
  have HB' := Lib.hid (HB.out.set 2 (.string V2))
  clear H HB
  go_wp2_with fail
  clear c9 f9
  generalize w2.setCell ⟨P, 2, none⟩ (.string V2) = W2 at H' HB' ⊢
  have H := H'
  have HB := HB'
  clear H' HB'
  have C := Lib.hid (gvtext_any H.out 2 HL.out (by decide))
  change Hid (Calls _ _ _ _ (RrP _ _ _ _ (.string (rval 2 L2)) (rvlR 2 L2))) at C
  have HL3 : Hid ((rvlR 2 L2).length ≤ 1000000) := Nat.le_trans (rvlR_len _ _) HL.out
  obtain ⟨V3, hV⟩ : ∃ x, x = rval 2 L2 := ⟨_, rfl⟩
  obtain ⟨L3, hL⟩ : ∃ x, x = rvlR 2 L2 := ⟨_, rfl⟩
  rw [← hV, ← hL] at C
  rw [← hL] at HL3
  have HV3 := Lib.hid hV
  have HQ3 := Lib.hid hL
  clear hV hL HL
  have HL := HL3
  clear HL3
  refine C.out.mono ?_
  rintro e w3 ⟨rfl, hb, hr⟩
  clear C
  have HB' := Lib.hid (HB.out.trans (hb.mono HB.out.size))
  have H' := Lib.hid hr
  clear hb hr H HB
  have H := H'
  have HB := HB'
  clear H' HB'
  obtain ⟨-, -, c9, -⟩ := H.out.cells
  have f9 := H.out.free 3
  have H' : Hid (Rr P 107 (nR 15 V2 V3 V1 0 0 0 0 false (.slice none 0 0) (.slice none 0 0)) (w3.setCell ⟨P, 3, none⟩ (.string V3)) L3) := H.out.set 2 (.string V3)
  have HB' := Lib.hid (HB.out.set 3 (.string V3))
  clear H HB
  go_wp2_with fail
  have H := H'
  have HB := HB'
  clear H' HB'
  refine bodyPost_end (results_none rfl _ _ _) rfl ?_
  obtain rfl := HV3.out
  obtain rfl := HQ3.out
  obtain rfl := HV2.out
  obtain rfl := HQ2.out
  obtain rfl := HV1.out
  obtain rfl := HQ1.out
  exact ⟨rfl, HB.out, none, none, 0, 0, _, H.out, World.ownsRow_nil _ _ _ _, World.ownsRow_nil _ _ _ _⟩
theorem gfld_16 (h : Rr P 107 (nR 16 ⟨#[]⟩ ⟨#[]⟩ ⟨#[]⟩ 0 0 0 0 false (.slice none 0 0) (.slice none 0 0)) w l) (hl : l.length ≤ 1000000) :
    Calls Tryz.prog 66 #[.pointer (some ⟨P, 0, none⟩)] w (FrP P (rdN 16 l 16) w) := by
  have H := Lib.hid h
  have HL := Lib.hid hl
  have HB : Hid (Bt w.heap.size P w w) := Bt.refl _ _ _
  obtain ⟨c1, -⟩ := h.cells
  clear h hl
  go_enter Tryz.func66, Tryz.ntmps66
  go_wp2_with fail
  have C := Lib.hid (gtake_any H.out 8 HL.out (by decide))
  change Hid (Calls _ _ _ _ (RrP _ _ _ _ (.string (mk (List.take 8 l))) (List.drop 8 l))) at C
  have HL1 : Hid ((List.drop 8 l).length ≤ 1000000) := Nat.le_trans (by rw [List.length_drop]; omega) HL.out
  obtain ⟨V1, hV⟩ : ∃ x, x = mk (List.take 8 l) := ⟨_, rfl⟩
  obtain ⟨L1, hL⟩ : ∃ x, x = List.drop 8 l := ⟨_, rfl⟩
  rw [← hV, ← hL] at C
  rw [← hL] at HL1
  have HV1 := Lib.hid hV
  have HQ1 := Lib.hid hL
  clear hV hL HL
  have HL := HL1
  clear HL1
  refine C.out.mono ?_
  rintro e w1 ⟨rfl, hb, hr⟩
  clear C
  have HB' := Lib.hid (HB.out.trans (hb.mono HB.out.size))
  have H' := Lib.hid hr
  clear hb hr H HB
  have H := H'
  have HB := HB'
  clear H' HB'
  obtain ⟨-, -, -, c9, -⟩ := H.out.cells
  have f9 := H.out.free 4
  have H' : Hid (Rr P 107 (nR 16 ⟨#[]⟩ ⟨#[]⟩ V1 0 0 0 0 false (.slice none 0 0) (.slice none 0 0)) (w1.setCell ⟨P, 4, none⟩ (.string V1)) L1) := H.out.set 3 (.string V1)
  have HB' := Lib.hid (HB.out.set 4 (.string V1))
  clear H HB
  go_wp2_with fail
  clear c9 f9
  generalize w1.setCell ⟨P, 4, none⟩ (.string V1) = W1 at H' HB' ⊢
  have H := H'
  have HB := HB'
  clear H' HB'
  have C := Lib.hid (gtext_any H.out 1 HL.out (by decide))
  change Hid (Calls _ _ _ _ (RrP _ _ _ _ (.string (rtxt 1 L1)) (rtxR 1 L1))) at C
  have HL2 : Hid ((rtxR 1 L1).length ≤ 1000000) := Nat.le_trans (rtxR_len _ _) HL.out
  obtain ⟨V2, hV⟩ : ∃ x, x = rtxt 1 L1 := ⟨_, rfl⟩
  obtain ⟨L2, hL⟩ : ∃ x, x = rtxR 1 L1 := ⟨_, rfl⟩
  rw [← hV, ← hL] at C
  rw [← hL] at HL2
  have HV2 := Lib.hid hV
  have HQ2 := Lib.hid hL
  clear hV hL HL
  have HL := HL2
  clear HL2
  refine C.out.mono ?_
  rintro e w2 ⟨rfl, hb, hr⟩
  clear C
  have HB' := Lib.hid (HB.out.trans (hb.mono HB.out.size))
  have H' := Lib.hid hr
  clear hb hr H HB
  have H := H'
  have HB := HB'
  clear H' HB'
  obtain ⟨-, c9, -⟩ := H.out.cells
  have f9 := H.out.free 2
  have H' : Hid (Rr P 107 (nR 16 V2 ⟨#[]⟩ V1 0 0 0 0 false (.slice none 0 0) (.slice none 0 0)) (w2.setCell ⟨P, 2, none⟩ (.string V2)) L2) := H.out.set 1 (.string V2)
  have HB' := Lib.hid (HB.out.set 2 (.string V2))
  clear H HB
  go_wp2_with fail
  clear c9 f9
  generalize w2.setCell ⟨P, 2, none⟩ (.string V2) = W2 at H' HB' ⊢
  have H := H'
  have HB := HB'
  clear H' HB'
  have C := Lib.hid (gvtext_any H.out 2 HL.out (by decide))
  change Hid (Calls _ _ _ _ (RrP _ _ _ _ (.string (rval 2 L2)) (rvlR 2 L2))) at C
  have HL3 : Hid ((rvlR 2 L2).length ≤ 1000000) := Nat.le_trans (rvlR_len _ _) HL.out
  obtain ⟨V3, hV⟩ : ∃ x, x = rval 2 L2 := ⟨_, rfl⟩
  obtain ⟨L3, hL⟩ : ∃ x, x = rvlR 2 L2 := ⟨_, rfl⟩
  rw [← hV, ← hL] at C
  rw [← hL] at HL3
  have HV3 := Lib.hid hV
  have HQ3 := Lib.hid hL
  clear hV hL HL
  have HL := HL3
  clear HL3
  refine C.out.mono ?_
  rintro e w3 ⟨rfl, hb, hr⟩
  clear C
  have HB' := Lib.hid (HB.out.trans (hb.mono HB.out.size))
  have H' := Lib.hid hr
  clear hb hr H HB
  have H := H'
  have HB := HB'
  clear H' HB'
  obtain ⟨-, -, c9, -⟩ := H.out.cells
  have f9 := H.out.free 3
  have H' : Hid (Rr P 107 (nR 16 V2 V3 V1 0 0 0 0 false (.slice none 0 0) (.slice none 0 0)) (w3.setCell ⟨P, 3, none⟩ (.string V3)) L3) := H.out.set 2 (.string V3)
  have HB' := Lib.hid (HB.out.set 3 (.string V3))
  clear H HB
  go_wp2_with fail
  have H := H'
  have HB := HB'
  clear H' HB'
  refine bodyPost_end (results_none rfl _ _ _) rfl ?_
  obtain rfl := HV3.out
  obtain rfl := HQ3.out
  obtain rfl := HV2.out
  obtain rfl := HQ2.out
  obtain rfl := HV1.out
  obtain rfl := HQ1.out
  exact ⟨rfl, HB.out, none, none, 0, 0, _, H.out, World.ownsRow_nil _ _ _ _, World.ownsRow_nil _ _ _ _⟩
theorem gfld_17 (h : Rr P 107 (nR 17 ⟨#[]⟩ ⟨#[]⟩ ⟨#[]⟩ 0 0 0 0 false (.slice none 0 0) (.slice none 0 0)) w l) (hl : l.length ≤ 1000000) :
    Calls Tryz.prog 66 #[.pointer (some ⟨P, 0, none⟩)] w (FrP P (rdN 17 l 17) w) := by
  have H := Lib.hid h
  have HL := Lib.hid hl
  have HB : Hid (Bt w.heap.size P w w) := Bt.refl _ _ _
  obtain ⟨c1, -⟩ := h.cells
  clear h hl
  go_enter Tryz.func66, Tryz.ntmps66
  go_wp2_with fail
  have C := Lib.hid (gnumber_any H.out 4 HL.out (by decide))
  change Hid (Calls _ _ _ _ (RrP _ _ _ _ (.int .i64 (rnum 4 l)) (List.drop 4 l))) at C
  have HL1 : Hid ((List.drop 4 l).length ≤ 1000000) := Nat.le_trans (by rw [List.length_drop]; omega) HL.out
  obtain ⟨V1, hV⟩ : ∃ x, x = rnum 4 l := ⟨_, rfl⟩
  obtain ⟨L1, hL⟩ : ∃ x, x = List.drop 4 l := ⟨_, rfl⟩
  rw [← hV, ← hL] at C
  rw [← hL] at HL1
  have HV1 := Lib.hid hV
  have HQ1 := Lib.hid hL
  clear hV hL HL
  have HL := HL1
  clear HL1
  refine C.out.mono ?_
  rintro e w1 ⟨rfl, hb, hr⟩
  clear C
  have HB' := Lib.hid (HB.out.trans (hb.mono HB.out.size))
  have H' := Lib.hid hr
  clear hb hr H HB
  have H := H'
  have HB := HB'
  clear H' HB'
  obtain ⟨-, -, -, -, -, -, -, c9, -⟩ := H.out.cells
  have f9 := H.out.free 8
  have H' : Hid (Rr P 107 (nR 17 ⟨#[]⟩ ⟨#[]⟩ ⟨#[]⟩ 0 0 0 V1 false (.slice none 0 0) (.slice none 0 0)) (w1.setCell ⟨P, 8, none⟩ (.int .i64 V1)) L1) := H.out.set 7 (.int .i64 V1)
  have HB' := Lib.hid (HB.out.set 8 (.int .i64 V1))
  clear H HB
  go_wp2_with fail
  clear c9 f9
  generalize w1.setCell ⟨P, 8, none⟩ (.int .i64 V1) = W1 at H' HB' ⊢
  have H := H'
  have HB := HB'
  clear H' HB'
  have C := Lib.hid (gshort_any H.out HL.out)
  change Hid (Calls _ _ _ _ (RrP _ _ _ _ (.int .i64 (rnum 2 L1)) (List.drop 2 L1))) at C
  have HL2 : Hid ((List.drop 2 L1).length ≤ 1000000) := Nat.le_trans (by rw [List.length_drop]; omega) HL.out
  obtain ⟨V2, hV⟩ : ∃ x, x = rnum 2 L1 := ⟨_, rfl⟩
  obtain ⟨L2, hL⟩ : ∃ x, x = List.drop 2 L1 := ⟨_, rfl⟩
  rw [← hV, ← hL] at C
  rw [← hL] at HL2
  have HV2 := Lib.hid hV
  have HQ2 := Lib.hid hL
  clear hV hL HL
  have HL := HL2
  clear HL2
  refine C.out.mono ?_
  rintro e w2 ⟨rfl, hb, hr⟩
  clear C
  have HB' := Lib.hid (HB.out.trans (hb.mono HB.out.size))
  have H' := Lib.hid hr
  clear hb hr H HB
  have H := H'
  have HB := HB'
  clear H' HB'
  obtain ⟨-, -, -, -, c9, -⟩ := H.out.cells
  have f9 := H.out.free 5
  have H' : Hid (Rr P 107 (nR 17 ⟨#[]⟩ ⟨#[]⟩ ⟨#[]⟩ V2 0 0 V1 false (.slice none 0 0) (.slice none 0 0)) (w2.setCell ⟨P, 5, none⟩ (.int .i64 V2)) L2) := H.out.set 4 (.int .i64 V2)
  have HB' := Lib.hid (HB.out.set 5 (.int .i64 V2))
  clear H HB
  go_wp2_with fail
  have H := H'
  have HB := HB'
  clear H' HB'
  refine bodyPost_end (results_none rfl _ _ _) rfl ?_
  obtain rfl := HV2.out
  obtain rfl := HQ2.out
  obtain rfl := HV1.out
  obtain rfl := HQ1.out
  exact ⟨rfl, HB.out, none, none, 0, 0, _, H.out, World.ownsRow_nil _ _ _ _, World.ownsRow_nil _ _ _ _⟩
theorem gfld_18 (h : Rr P 107 (nR 18 ⟨#[]⟩ ⟨#[]⟩ ⟨#[]⟩ 0 0 0 0 false (.slice none 0 0) (.slice none 0 0)) w l) (hl : l.length ≤ 1000000) :
    Calls Tryz.prog 66 #[.pointer (some ⟨P, 0, none⟩)] w (FrP P (rdN 18 l 18) w) := by
  obtain ⟨F9, hF, hF2⟩ := rnum_short l
  have hE : rdN 18 l 18 = ({ nK 18 with l := rdIts F9 (l.drop 2), t := rnum 4 (rdItsR F9 (l.drop 2)) } : Nt) := by
    show ({ nK 18 with l := rdIts (rnum 2 l).toNat (l.drop 2), t := rnum 4 (rdItsR (rnum 2 l).toNat (l.drop 2)) } : Nt) = _
    rw [hF, Int.toNat_natCast]
  rw [hE]
  have HF := Lib.hid hF
  clear hF hE
  have H := Lib.hid h
  have HL := Lib.hid hl
  have HB : Hid (Bt w.heap.size P w w) := Bt.refl _ _ _
  obtain ⟨c1, -⟩ := h.cells
  clear h hl
  go_enter Tryz.func66, Tryz.ntmps66
  go_wp2_with fail
  have C := Lib.hid (gshort_any H.out HL.out)
  change Hid (Calls _ _ _ _ (RrP _ _ _ _ (.int .i64 (rnum 2 l)) (List.drop 2 l))) at C
  have HL1 : Hid ((List.drop 2 l).length ≤ 1000000) := Nat.le_trans (by rw [List.length_drop]; omega) HL.out
  obtain ⟨V1, hV⟩ : ∃ x, x = rnum 2 l := ⟨_, rfl⟩
  obtain ⟨L1, hL⟩ : ∃ x, x = List.drop 2 l := ⟨_, rfl⟩
  rw [← hV, ← hL] at C
  rw [← hL] at HL1
  have HV1 := Lib.hid hV
  have HQ1 := Lib.hid hL
  clear hV hL HL
  have HL := HL1
  clear HL1
  refine C.out.mono ?_
  rintro e w1 ⟨rfl, hb, hr⟩
  clear C
  obtain rfl : V1 = (F9 : Int) := by rw [HV1.out]; exact HF.out
  have HB' := Lib.hid (HB.out.trans (hb.mono HB.out.size))
  have H' := Lib.hid hr
  clear hb hr H HB
  have H := H'
  have HB := HB'
  clear H' HB'
  go_wp2_with fail
  have C := Lib.hid (gitems_any H.out HL.out F9 (by omega))
  have HL2 : Hid ((rdItsR F9 L1).length ≤ 1000000) := Nat.le_trans (rdItsR_len _ _) HL.out
  unfold ItP at C
  obtain ⟨I9, hV⟩ : ∃ x, x = rdIts F9 L1 := ⟨_, rfl⟩
  obtain ⟨L2, hL⟩ : ∃ x, x = rdItsR F9 L1 := ⟨_, rfl⟩
  rw [← hV, ← hL] at C
  rw [← hL] at HL2
  have HV2 := Lib.hid hV
  have HQ2 := Lib.hid hL
  clear hV hL HL
  have HL := HL2
  clear HL2
  refine C.out.mono ?_
  rintro e w2 ⟨rfl, hb, ai, ci, hr, ho⟩
  clear C
  have HO : Hid (w2.ownsRow w.heap.size 45 6 (.slice ai I9.length ci) I9.length (cellsI I9)) := own_mono ho HB.out.size
  have HB' := Lib.hid (HB.out.trans (hb.mono HB.out.size))
  have H' := Lib.hid hr
  clear hb hr ho H HB
  have H := H'
  have HB := HB'
  clear H' HB'
  go_wp2_with fail
  have C := Lib.hid (gnumber_any H.out 4 HL.out (by decide))
  change Hid (Calls _ _ _ _ (RrP _ _ _ _ (.int .i64 (rnum 4 L2)) (List.drop 4 L2))) at C
  have HL3 : Hid ((List.drop 4 L2).length ≤ 1000000) := Nat.le_trans (by rw [List.length_drop]; omega) HL.out
  obtain ⟨V3, hV⟩ : ∃ x, x = rnum 4 L2 := ⟨_, rfl⟩
  obtain ⟨L3, hL⟩ : ∃ x, x = List.drop 4 L2 := ⟨_, rfl⟩
  rw [← hV, ← hL] at C
  rw [← hL] at HL3
  have HV3 := Lib.hid hV
  have HQ3 := Lib.hid hL
  clear hV hL HL
  have HL := HL3
  clear HL3
  refine C.out.mono ?_
  rintro e w3 ⟨rfl, hb, hr⟩
  clear C
  replace HO := Lib.hid (own_keep HO.out (fun b hb' => hb.block b (by obtain ⟨_, cur, hc⟩ := own_heap HO.out hb'; exact heap_lt hc) (H.out.apart HO.out (by decide) hb')))
  have HB' := Lib.hid (HB.out.trans (hb.mono HB.out.size))
  have H' := Lib.hid hr
  clear hb hr H HB
  have H := H'
  have HB := HB'
  clear H' HB'
  obtain ⟨-, -, -, -, -, -, -, c9, -⟩ := H.out.cells
  have f9 := H.out.free 8
  have H' : Hid (Rr P 107 (nR 18 ⟨#[]⟩ ⟨#[]⟩ ⟨#[]⟩ 0 0 0 V3 false (.slice ai I9.length ci) (.slice none 0 0)) (w3.setCell ⟨P, 8, none⟩ (.int .i64 V3)) L3) := H.out.set 7 (.int .i64 V3)
  have HB' := Lib.hid (HB.out.set 8 (.int .i64 V3))
  have HO' : Hid ((w3.setCell ⟨P, 8, none⟩ (.int .i64 V3)).ownsRow w.heap.size 45 6 (.slice ai I9.length ci) I9.length (cellsI I9)) := own_keep HO.out fun b hb' => setCell_other (H.out.apart HO.out (by decide) hb')
  clear HO
  have HO := HO'
  clear HO'
  clear H HB
  go_wp2_with fail
  have H := H'
  have HB := HB'
  clear H' HB'
  refine bodyPost_end (results_none rfl _ _ _) rfl ?_
  obtain rfl := HV3.out
  obtain rfl := HQ3.out
  obtain rfl := HV2.out
  obtain rfl := HQ2.out
  skip
  obtain rfl := HQ1.out
  exact ⟨rfl, HB.out, ai, none, ci, 0, _, H.out, HO.out, World.ownsRow_nil _ _ _ _⟩
theorem gfld_19 (h : Rr P 107 (nR 19 ⟨#[]⟩ ⟨#[]⟩ ⟨#[]⟩ 0 0 0 0 false (.slice none 0 0) (.slice none 0 0)) w l) (hl : l.length ≤ 1000000) :
    Calls Tryz.prog 66 #[.pointer (some ⟨P, 0, none⟩)] w (FrP P (rdN 19 l 19) w) := by
  have H := Lib.hid h
  have HL := Lib.hid hl
  have HB : Hid (Bt w.heap.size P w w) := Bt.refl _ _ _
  obtain ⟨c1, -⟩ := h.cells
  clear h hl
  go_enter Tryz.func66, Tryz.ntmps66
  go_wp2_with fail
  have C := Lib.hid (gnumber_any H.out 4 HL.out (by decide))
  change Hid (Calls _ _ _ _ (RrP _ _ _ _ (.int .i64 (rnum 4 l)) (List.drop 4 l))) at C
  have HL1 : Hid ((List.drop 4 l).length ≤ 1000000) := Nat.le_trans (by rw [List.length_drop]; omega) HL.out
  obtain ⟨V1, hV⟩ : ∃ x, x = rnum 4 l := ⟨_, rfl⟩
  obtain ⟨L1, hL⟩ : ∃ x, x = List.drop 4 l := ⟨_, rfl⟩
  rw [← hV, ← hL] at C
  rw [← hL] at HL1
  have HV1 := Lib.hid hV
  have HQ1 := Lib.hid hL
  clear hV hL HL
  have HL := HL1
  clear HL1
  refine C.out.mono ?_
  rintro e w1 ⟨rfl, hb, hr⟩
  clear C
  have HB' := Lib.hid (HB.out.trans (hb.mono HB.out.size))
  have H' := Lib.hid hr
  clear hb hr H HB
  have H := H'
  have HB := HB'
  clear H' HB'
  obtain ⟨-, -, -, -, -, -, -, c9, -⟩ := H.out.cells
  have f9 := H.out.free 8
  have H' : Hid (Rr P 107 (nR 19 ⟨#[]⟩ ⟨#[]⟩ ⟨#[]⟩ 0 0 0 V1 false (.slice none 0 0) (.slice none 0 0)) (w1.setCell ⟨P, 8, none⟩ (.int .i64 V1)) L1) := H.out.set 7 (.int .i64 V1)
  have HB' := Lib.hid (HB.out.set 8 (.int .i64 V1))
  clear H HB
  go_wp2_with fail
  clear c9 f9
  generalize w1.setCell ⟨P, 8, none⟩ (.int .i64 V1) = W1 at H' HB' ⊢
  have H := H'
  have HB := HB'
  clear H' HB'
  have C := Lib.hid (gshort_any H.out HL.out)
  change Hid (Calls _ _ _ _ (RrP _ _ _ _ (.int .i64 (rnum 2 L1)) (List.drop 2 L1))) at C
  have HL2 : Hid ((List.drop 2 L1).length ≤ 1000000) := Nat.le_trans (by rw [List.length_drop]; omega) HL.out
  obtain ⟨V2, hV⟩ : ∃ x, x = rnum 2 L1 := ⟨_, rfl⟩
  obtain ⟨L2, hL⟩ : ∃ x, x = List.drop 2 L1 := ⟨_, rfl⟩
  rw [← hV, ← hL] at C
  rw [← hL] at HL2
  have HV2 := Lib.hid hV
  have HQ2 := Lib.hid hL
  clear hV hL HL
  have HL := HL2
  clear HL2
  refine C.out.mono ?_
  rintro e w2 ⟨rfl, hb, hr⟩
  clear C
  have HB' := Lib.hid (HB.out.trans (hb.mono HB.out.size))
  have H' := Lib.hid hr
  clear hb hr H HB
  have H := H'
  have HB := HB'
  clear H' HB'
  obtain ⟨-, -, -, -, c9, -⟩ := H.out.cells
  have f9 := H.out.free 5
  have H' : Hid (Rr P 107 (nR 19 ⟨#[]⟩ ⟨#[]⟩ ⟨#[]⟩ V2 0 0 V1 false (.slice none 0 0) (.slice none 0 0)) (w2.setCell ⟨P, 5, none⟩ (.int .i64 V2)) L2) := H.out.set 4 (.int .i64 V2)
  have HB' := Lib.hid (HB.out.set 5 (.int .i64 V2))
  clear H HB
  go_wp2_with fail
  have H := H'
  have HB := HB'
  clear H' HB'
  refine bodyPost_end (results_none rfl _ _ _) rfl ?_
  obtain rfl := HV2.out
  obtain rfl := HQ2.out
  obtain rfl := HV1.out
  obtain rfl := HQ1.out
  exact ⟨rfl, HB.out, none, none, 0, 0, _, H.out, World.ownsRow_nil _ _ _ _, World.ownsRow_nil _ _ _ _⟩
theorem gfld_20 (h : Rr P 107 (nR 20 ⟨#[]⟩ ⟨#[]⟩ ⟨#[]⟩ 0 0 0 0 false (.slice none 0 0) (.slice none 0 0)) w l) (hl : l.length ≤ 1000000) :
    Calls Tryz.prog 66 #[.pointer (some ⟨P, 0, none⟩)] w (FrP P (rdN 20 l 20) w) := by
  have H := Lib.hid h
  have HL := Lib.hid hl
  have HB : Hid (Bt w.heap.size P w w) := Bt.refl _ _ _
  obtain ⟨c1, -⟩ := h.cells
  clear h hl
  go_enter Tryz.func66, Tryz.ntmps66
  go_wp2_with fail
  have C := Lib.hid (gitems_any H.out HL.out 100 (by omega))
  change Hid (Calls _ _ #[_, .int .i64 100] _ _) at C
  have HL1 : Hid ((rdItsR 100 l).length ≤ 1000000) := Nat.le_trans (rdItsR_len _ _) HL.out
  unfold ItP at C
  obtain ⟨I9, hV⟩ : ∃ x, x = rdIts 100 l := ⟨_, rfl⟩
  obtain ⟨L1, hL⟩ : ∃ x, x = rdItsR 100 l := ⟨_, rfl⟩
  rw [← hV, ← hL] at C
  rw [← hL] at HL1
  have HV1 := Lib.hid hV
  have HQ1 := Lib.hid hL
  clear hV hL HL
  have HL := HL1
  clear HL1
  refine C.out.mono ?_
  rintro e w1 ⟨rfl, hb, ai, ci, hr, ho⟩
  clear C
  have HO : Hid (w1.ownsRow w.heap.size 45 6 (.slice ai I9.length ci) I9.length (cellsI I9)) := own_mono ho HB.out.size
  have HB' := Lib.hid (HB.out.trans (hb.mono HB.out.size))
  have H' := Lib.hid hr
  clear hb hr ho H HB
  have H := H'
  have HB := HB'
  clear H' HB'
  go_wp2_with fail
  refine bodyPost_end (results_none rfl _ _ _) rfl ?_
  obtain rfl := HV1.out
  obtain rfl := HQ1.out
  exact ⟨rfl, HB.out, ai, none, ci, 0, _, H.out, HO.out, World.ownsRow_nil _ _ _ _⟩
theorem gfld_21 (h : Rr P 107 (nR 21 ⟨#[]⟩ ⟨#[]⟩ ⟨#[]⟩ 0 0 0 0 false (.slice none 0 0) (.slice none 0 0)) w l) (hl : l.length ≤ 1000000) :
    Calls Tryz.prog 66 #[.pointer (some ⟨P, 0, none⟩)] w (FrP P (rdN 21 l 21) w) := by
  have H := Lib.hid h
  have HL := Lib.hid hl
  have HB : Hid (Bt w.heap.size P w w) := Bt.refl _ _ _
  obtain ⟨c1, -⟩ := h.cells
  clear h hl
  go_enter Tryz.func66, Tryz.ntmps66
  go_wp2_with fail
  have C := Lib.hid (gitems_any H.out HL.out 100 (by omega))
  change Hid (Calls _ _ #[_, .int .i64 100] _ _) at C
  have HL1 : Hid ((rdItsR 100 l).length ≤ 1000000) := Nat.le_trans (rdItsR_len _ _) HL.out
  unfold ItP at C
  obtain ⟨I9, hV⟩ : ∃ x, x = rdIts 100 l := ⟨_, rfl⟩
  obtain ⟨L1, hL⟩ : ∃ x, x = rdItsR 100 l := ⟨_, rfl⟩
  rw [← hV, ← hL] at C
  rw [← hL] at HL1
  have HV1 := Lib.hid hV
  have HQ1 := Lib.hid hL
  clear hV hL HL
  have HL := HL1
  clear HL1
  refine C.out.mono ?_
  rintro e w1 ⟨rfl, hb, ai, ci, hr, ho⟩
  clear C
  have HO : Hid (w1.ownsRow w.heap.size 45 6 (.slice ai I9.length ci) I9.length (cellsI I9)) := own_mono ho HB.out.size
  have HB' := Lib.hid (HB.out.trans (hb.mono HB.out.size))
  have H' := Lib.hid hr
  clear hb hr ho H HB
  have H := H'
  have HB := HB'
  clear H' HB'
  go_wp2_with fail
  refine bodyPost_end (results_none rfl _ _ _) rfl ?_
  obtain rfl := HV1.out
  obtain rfl := HQ1.out
  exact ⟨rfl, HB.out, ai, none, ci, 0, _, H.out, HO.out, World.ownsRow_nil _ _ _ _⟩
theorem gfld_22 (h : Rr P 107 (nR 22 ⟨#[]⟩ ⟨#[]⟩ ⟨#[]⟩ 0 0 0 0 false (.slice none 0 0) (.slice none 0 0)) w l) (hl : l.length ≤ 1000000) :
    Calls Tryz.prog 66 #[.pointer (some ⟨P, 0, none⟩)] w (FrP P (rdN 22 l 22) w) := by
  have H := Lib.hid h
  have HL := Lib.hid hl
  have HB : Hid (Bt w.heap.size P w w) := Bt.refl _ _ _
  obtain ⟨c1, -⟩ := h.cells
  clear h hl
  go_enter Tryz.func66, Tryz.ntmps66
  go_wp2_with fail
  have C := Lib.hid (gitems_any H.out HL.out 100 (by omega))
  change Hid (Calls _ _ #[_, .int .i64 100] _ _) at C
  have HL1 : Hid ((rdItsR 100 l).length ≤ 1000000) := Nat.le_trans (rdItsR_len _ _) HL.out
  unfold ItP at C
  obtain ⟨I9, hV⟩ : ∃ x, x = rdIts 100 l := ⟨_, rfl⟩
  obtain ⟨L1, hL⟩ : ∃ x, x = rdItsR 100 l := ⟨_, rfl⟩
  rw [← hV, ← hL] at C
  rw [← hL] at HL1
  have HV1 := Lib.hid hV
  have HQ1 := Lib.hid hL
  clear hV hL HL
  have HL := HL1
  clear HL1
  refine C.out.mono ?_
  rintro e w1 ⟨rfl, hb, ai, ci, hr, ho⟩
  clear C
  have HO : Hid (w1.ownsRow w.heap.size 45 6 (.slice ai I9.length ci) I9.length (cellsI I9)) := own_mono ho HB.out.size
  have HB' := Lib.hid (HB.out.trans (hb.mono HB.out.size))
  have H' := Lib.hid hr
  clear hb hr ho H HB
  have H := H'
  have HB := HB'
  clear H' HB'
  go_wp2_with fail
  refine bodyPost_end (results_none rfl _ _ _) rfl ?_
  obtain rfl := HV1.out
  obtain rfl := HQ1.out
  exact ⟨rfl, HB.out, ai, none, ci, 0, _, H.out, HO.out, World.ownsRow_nil _ _ _ _⟩
theorem gfld_25 (h : Rr P 107 (nR 25 ⟨#[]⟩ ⟨#[]⟩ ⟨#[]⟩ 0 0 0 0 false (.slice none 0 0) (.slice none 0 0)) w l) (hl : l.length ≤ 1000000) :
    Calls Tryz.prog 66 #[.pointer (some ⟨P, 0, none⟩)] w (FrP P (rdN 25 l 25) w) := by
  have H := Lib.hid h
  have HL := Lib.hid hl
  have HB : Hid (Bt w.heap.size P w w) := Bt.refl _ _ _
  obtain ⟨c1, -⟩ := h.cells
  clear h hl
  go_enter Tryz.func66, Tryz.ntmps66
  go_wp2_with fail
  have C := Lib.hid (gcodes_any H.out HL.out)
  unfold CdP at C
  obtain ⟨I9, hV⟩ : ∃ x, x = rdCds l.length l := ⟨_, rfl⟩
  rw [← hV] at C
  have HV1 := Lib.hid hV
  clear hV HL
  refine C.out.mono ?_
  rintro e w1 ⟨rfl, hb, az, cz, hr, ho⟩
  clear C
  have HO := Lib.hid ho
  have HB' := Lib.hid (HB.out.trans (hb.mono HB.out.size))
  have H' := Lib.hid hr
  clear hb hr ho H HB
  have H := H'
  have HB := HB'
  clear H' HB'
  go_wp2_with fail
  refine bodyPost_end (results_none rfl _ _ _) rfl ?_
  obtain rfl := HV1.out
  exact ⟨rfl, HB.out, none, az, 0, cz, _, H.out, World.ownsRow_nil _ _ _ _, HO.out⟩
theorem gfld_26 (h : Rr P 107 (nR 26 ⟨#[]⟩ ⟨#[]⟩ ⟨#[]⟩ 0 0 0 0 false (.slice none 0 0) (.slice none 0 0)) w l) (hl : l.length ≤ 1000000) :
    Calls Tryz.prog 66 #[.pointer (some ⟨P, 0, none⟩)] w (FrP P (rdN 26 l 26) w) := by
  have H := Lib.hid h
  have HL := Lib.hid hl
  have HB : Hid (Bt w.heap.size P w w) := Bt.refl _ _ _
  obtain ⟨c1, -⟩ := h.cells
  clear h hl
  go_enter Tryz.func66, Tryz.ntmps66
  go_wp2_with fail
  have C := Lib.hid (gtext_any H.out 1 HL.out (by decide))
  change Hid (Calls _ _ _ _ (RrP _ _ _ _ (.string (rtxt 1 l)) (rtxR 1 l))) at C
  have HL1 : Hid ((rtxR 1 l).length ≤ 1000000) := Nat.le_trans (rtxR_len _ _) HL.out
  obtain ⟨V1, hV⟩ : ∃ x, x = rtxt 1 l := ⟨_, rfl⟩
  obtain ⟨L1, hL⟩ : ∃ x, x = rtxR 1 l := ⟨_, rfl⟩
  rw [← hV, ← hL] at C
  rw [← hL] at HL1
  have HV1 := Lib.hid hV
  have HQ1 := Lib.hid hL
  clear hV hL HL
  have HL := HL1
  clear HL1
  refine C.out.mono ?_
  rintro e w1 ⟨rfl, hb, hr⟩
  clear C
  have HB' := Lib.hid (HB.out.trans (hb.mono HB.out.size))
  have H' := Lib.hid hr
  clear hb hr H HB
  have H := H'
  have HB := HB'
  clear H' HB'
  obtain ⟨-, c9, -⟩ := H.out.cells
  have f9 := H.out.free 2
  have H' : Hid (Rr P 107 (nR 26 V1 ⟨#[]⟩ ⟨#[]⟩ 0 0 0 0 false (.slice none 0 0) (.slice none 0 0)) (w1.setCell ⟨P, 2, none⟩ (.string V1)) L1) := H.out.set 1 (.string V1)
  have HB' := Lib.hid (HB.out.set 2 (.string V1))
  clear H HB
  go_wp2_with fail
  clear c9 f9
  generalize w1.setCell ⟨P, 2, none⟩ (.string V1) = W1 at H' HB' ⊢
  have H := H'
  have HB := HB'
  clear H' HB'
  have C := Lib.hid (gtext_any H.out 2 HL.out (by decide))
  change Hid (Calls _ _ _ _ (RrP _ _ _ _ (.string (rtxt 2 L1)) (rtxR 2 L1))) at C
  have HL2 : Hid ((rtxR 2 L1).length ≤ 1000000) := Nat.le_trans (rtxR_len _ _) HL.out
  obtain ⟨V2, hV⟩ : ∃ x, x = rtxt 2 L1 := ⟨_, rfl⟩
  obtain ⟨L2, hL⟩ : ∃ x, x = rtxR 2 L1 := ⟨_, rfl⟩
  rw [← hV, ← hL] at C
  rw [← hL] at HL2
  have HV2 := Lib.hid hV
  have HQ2 := Lib.hid hL
  clear hV hL HL
  have HL := HL2
  clear HL2
  refine C.out.mono ?_
  rintro e w2 ⟨rfl, hb, hr⟩
  clear C
  have HB' := Lib.hid (HB.out.trans (hb.mono HB.out.size))
  have H' := Lib.hid hr
  clear hb hr H HB
  have H := H'
  have HB := HB'
  clear H' HB'
  obtain ⟨-, -, c9, -⟩ := H.out.cells
  have f9 := H.out.free 3
  have H' : Hid (Rr P 107 (nR 26 V1 V2 ⟨#[]⟩ 0 0 0 0 false (.slice none 0 0) (.slice none 0 0)) (w2.setCell ⟨P, 3, none⟩ (.string V2)) L2) := H.out.set 2 (.string V2)
  have HB' := Lib.hid (HB.out.set 3 (.string V2))
  clear H HB
  go_wp2_with fail
  have H := H'
  have HB := HB'
  clear H' HB'
  refine bodyPost_end (results_none rfl _ _ _) rfl ?_
  obtain rfl := HV2.out
  obtain rfl := HQ2.out
  obtain rfl := HV1.out
  obtain rfl := HQ1.out
  exact ⟨rfl, HB.out, none, none, 0, 0, _, H.out, World.ownsRow_nil _ _ _ _, World.ownsRow_nil _ _ _ _⟩
theorem gfld_27 (h : Rr P 107 (nR 27 ⟨#[]⟩ ⟨#[]⟩ ⟨#[]⟩ 0 0 0 0 false (.slice none 0 0) (.slice none 0 0)) w l) (hl : l.length ≤ 1000000) :
    Calls Tryz.prog 66 #[.pointer (some ⟨P, 0, none⟩)] w (FrP P (rdN 27 l 27) w) := by
  have H := Lib.hid h
  have HL := Lib.hid hl
  have HB : Hid (Bt w.heap.size P w w) := Bt.refl _ _ _
  obtain ⟨c1, -⟩ := h.cells
  clear h hl
  go_enter Tryz.func66, Tryz.ntmps66
  go_wp2_with fail
  have C := Lib.hid (gtext_any H.out 1 HL.out (by decide))
  change Hid (Calls _ _ _ _ (RrP _ _ _ _ (.string (rtxt 1 l)) (rtxR 1 l))) at C
  have HL1 : Hid ((rtxR 1 l).length ≤ 1000000) := Nat.le_trans (rtxR_len _ _) HL.out
  obtain ⟨V1, hV⟩ : ∃ x, x = rtxt 1 l := ⟨_, rfl⟩
  obtain ⟨L1, hL⟩ : ∃ x, x = rtxR 1 l := ⟨_, rfl⟩
  rw [← hV, ← hL] at C
  rw [← hL] at HL1
  have HV1 := Lib.hid hV
  have HQ1 := Lib.hid hL
  clear hV hL HL
  have HL := HL1
  clear HL1
  refine C.out.mono ?_
  rintro e w1 ⟨rfl, hb, hr⟩
  clear C
  have HB' := Lib.hid (HB.out.trans (hb.mono HB.out.size))
  have H' := Lib.hid hr
  clear hb hr H HB
  have H := H'
  have HB := HB'
  clear H' HB'
  obtain ⟨-, c9, -⟩ := H.out.cells
  have f9 := H.out.free 2
  have H' : Hid (Rr P 107 (nR 27 V1 ⟨#[]⟩ ⟨#[]⟩ 0 0 0 0 false (.slice none 0 0) (.slice none 0 0)) (w1.setCell ⟨P, 2, none⟩ (.string V1)) L1) := H.out.set 1 (.string V1)
  have HB' := Lib.hid (HB.out.set 2 (.string V1))
  clear H HB
  go_wp2_with fail
  clear c9 f9
  generalize w1.setCell ⟨P, 2, none⟩ (.string V1) = W1 at H' HB' ⊢
  have H := H'
  have HB := HB'
  clear H' HB'
  have C := Lib.hid (gtext_any H.out 2 HL.out (by decide))
  change Hid (Calls _ _ _ _ (RrP _ _ _ _ (.string (rtxt 2 L1)) (rtxR 2 L1))) at C
  have HL2 : Hid ((rtxR 2 L1).length ≤ 1000000) := Nat.le_trans (rtxR_len _ _) HL.out
  obtain ⟨V2, hV⟩ : ∃ x, x = rtxt 2 L1 := ⟨_, rfl⟩
  obtain ⟨L2, hL⟩ : ∃ x, x = rtxR 2 L1 := ⟨_, rfl⟩
  rw [← hV, ← hL] at C
  rw [← hL] at HL2
  have HV2 := Lib.hid hV
  have HQ2 := Lib.hid hL
  clear hV hL HL
  have HL := HL2
  clear HL2
  refine C.out.mono ?_
  rintro e w2 ⟨rfl, hb, hr⟩
  clear C
  have HB' := Lib.hid (HB.out.trans (hb.mono HB.out.size))
  have H' := Lib.hid hr
  clear hb hr H HB
  have H := H'
  have HB := HB'
  clear H' HB'
  obtain ⟨-, -, c9, -⟩ := H.out.cells
  have f9 := H.out.free 3
  have H' : Hid (Rr P 107 (nR 27 V1 V2 ⟨#[]⟩ 0 0 0 0 false (.slice none 0 0) (.slice none 0 0)) (w2.setCell ⟨P, 3, none⟩ (.string V2)) L2) := H.out.set 2 (.string V2)
  have HB' := Lib.hid (HB.out.set 3 (.string V2))
  clear H HB
  go_wp2_with fail
  have H := H'
  have HB := HB'
  clear H' HB'
  refine bodyPost_end (results_none rfl _ _ _) rfl ?_
  obtain rfl := HV2.out
  obtain rfl := HQ2.out
  obtain rfl := HV1.out
  obtain rfl := HQ1.out
  exact ⟨rfl, HB.out, none, none, 0, 0, _, H.out, World.ownsRow_nil _ _ _ _, World.ownsRow_nil _ _ _ _⟩
theorem gfld_28_t (h : Rr P 107 (nR 28 ⟨#[]⟩ ⟨#[]⟩ ⟨#[]⟩ 0 0 0 0 false (.slice none 0 0) (.slice none 0 0)) w l) (hl : l.length ≤ 1000000) (hbo : ¬ (rnum 1 (rtxR 1 l) = 0)) :
    Calls Tryz.prog 66 #[.pointer (some ⟨P, 0, none⟩)] w (FrP P (rdN 28 l 28) w) := by
  have hd : decide (rnum 1 (rtxR 1 l) ≠ 0) = true := by simp [hbo]
  have hE : rdN 28 l 28 = ({ nK 28 with n := rtxt 1 l, o := true, x := rtxt 2 ((rtxR 1 l).drop 1) } : Nt) := by
    show ({ nK 28 with n := rtxt 1 l, o := decide (rnum 1 (rtxR 1 l) ≠ 0), x := rtxt 2 ((rtxR 1 l).drop 1) } : Nt) = _
    rw [hd]
  rw [hE]
  clear hd hE
  have H := Lib.hid h
  have HL := Lib.hid hl
  have HB : Hid (Bt w.heap.size P w w) := Bt.refl _ _ _
  obtain ⟨c1, -⟩ := h.cells
  clear h hl
  go_enter Tryz.func66, Tryz.ntmps66
  go_wp2_with fail
  have C := Lib.hid (gtext_any H.out 1 HL.out (by decide))
  change Hid (Calls _ _ _ _ (RrP _ _ _ _ (.string (rtxt 1 l)) (rtxR 1 l))) at C
  have HL1 : Hid ((rtxR 1 l).length ≤ 1000000) := Nat.le_trans (rtxR_len _ _) HL.out
  obtain ⟨V1, hV⟩ : ∃ x, x = rtxt 1 l := ⟨_, rfl⟩
  obtain ⟨L1, hL⟩ : ∃ x, x = rtxR 1 l := ⟨_, rfl⟩
  rw [← hV, ← hL] at C
  rw [← hL] at HL1
  have HV1 := Lib.hid hV
  have HQ1 := Lib.hid hL
  clear hV hL HL
  have HL := HL1
  clear HL1
  refine C.out.mono ?_
  rintro e w1 ⟨rfl, hb, hr⟩
  clear C
  have HB' := Lib.hid (HB.out.trans (hb.mono HB.out.size))
  have H' := Lib.hid hr
  clear hb hr H HB
  have H := H'
  have HB := HB'
  clear H' HB'
  obtain ⟨-, c9, -⟩ := H.out.cells
  have f9 := H.out.free 2
  have H' : Hid (Rr P 107 (nR 28 V1 ⟨#[]⟩ ⟨#[]⟩ 0 0 0 0 false (.slice none 0 0) (.slice none 0 0)) (w1.setCell ⟨P, 2, none⟩ (.string V1)) L1) := H.out.set 1 (.string V1)
  have HB' := Lib.hid (HB.out.set 2 (.string V1))
  clear H HB
  go_wp2_with fail
  clear c9 f9
  generalize w1.setCell ⟨P, 2, none⟩ (.string V1) = W1 at H' HB' ⊢
  have H := H'
  have HB := HB'
  clear H' HB'
  have C := Lib.hid (gnumber_any H.out 1 HL.out (by decide))
  change Hid (Calls _ _ _ _ (RrP _ _ _ _ (.int .i64 (rnum 1 L1)) (List.drop 1 L1))) at C
  have HL2 : Hid ((List.drop 1 L1).length ≤ 1000000) := Nat.le_trans (by rw [List.length_drop]; omega) HL.out
  obtain ⟨V2, hV⟩ : ∃ x, x = rnum 1 L1 := ⟨_, rfl⟩
  obtain ⟨L2, hL⟩ : ∃ x, x = List.drop 1 L1 := ⟨_, rfl⟩
  rw [← hV, ← hL] at C
  rw [← hL] at HL2
  have HV2 := Lib.hid hV
  have HQ2 := Lib.hid hL
  clear hV hL HL
  have HL := HL2
  clear HL2
  refine C.out.mono ?_
  rintro e w2 ⟨rfl, hb, hr⟩
  clear C
  have HB' := Lib.hid (HB.out.trans (hb.mono HB.out.size))
  have H' := Lib.hid hr
  clear hb hr H HB
  have H := H'
  have HB := HB'
  clear H' HB'
  obtain ⟨-, -, -, -, -, -, -, -, c9, -⟩ := H.out.cells
  have f9 := H.out.free 9
  have q9 : ¬ (V2 = 0) := by rw [HV2.out, HQ1.out]; exact hbo
  have q8 : (V2 != 0) = true := by simp [q9]
  have HQ9 := Lib.hid q9
  clear q9 hbo
  have H' : Hid (Rr P 107 (nR 28 V1 ⟨#[]⟩ ⟨#[]⟩ 0 0 0 0 true (.slice none 0 0) (.slice none 0 0)) (w2.setCell ⟨P, 9, none⟩ (.bool true)) L2) := H.out.set 8 (.bool true)
  have HB' := Lib.hid (HB.out.set 9 (.bool true))
  clear H HB
  go_wp2_with fail
  clear c9 f9 q8
  generalize w2.setCell ⟨P, 9, none⟩ (.bool true) = W2 at H' HB' ⊢
  have H := H'
  have HB := HB'
  clear H' HB'
  have C := Lib.hid (gtext_any H.out 2 HL.out (by decide))
  change Hid (Calls _ _ _ _ (RrP _ _ _ _ (.string (rtxt 2 L2)) (rtxR 2 L2))) at C
  have HL3 : Hid ((rtxR 2 L2).length ≤ 1000000) := Nat.le_trans (rtxR_len _ _) HL.out
  obtain ⟨V3, hV⟩ : ∃ x, x = rtxt 2 L2 := ⟨_, rfl⟩
  obtain ⟨L3, hL⟩ : ∃ x, x = rtxR 2 L2 := ⟨_, rfl⟩
  rw [← hV, ← hL] at C
  rw [← hL] at HL3
  have HV3 := Lib.hid hV
  have HQ3 := Lib.hid hL
  clear hV hL HL
  have HL := HL3
  clear HL3
  refine C.out.mono ?_
  rintro e w3 ⟨rfl, hb, hr⟩
  clear C
  have HB' := Lib.hid (HB.out.trans (hb.mono HB.out.size))
  have H' := Lib.hid hr
  clear hb hr H HB
  have H := H'
  have HB := HB'
  clear H' HB'
  obtain ⟨-, -, c9, -⟩ := H.out.cells
  have f9 := H.out.free 3
  have H' : Hid (Rr P 107 (nR 28 V1 V3 ⟨#[]⟩ 0 0 0 0 true (.slice none 0 0) (.slice none 0 0)) (w3.setCell ⟨P, 3, none⟩ (.string V3)) L3) := H.out.set 2 (.string V3)
  have HB' := Lib.hid (HB.out.set 3 (.string V3))
  clear H HB
  go_wp2_with fail
  have H := H'
  have HB := HB'
  clear H' HB'
  refine bodyPost_end (results_none rfl _ _ _) rfl ?_
  obtain rfl := HV3.out
  obtain rfl := HQ3.out
  obtain rfl := HV2.out
  obtain rfl := HQ2.out
  obtain rfl := HV1.out
  obtain rfl := HQ1.out
  exact ⟨rfl, HB.out, none, none, 0, 0, _, H.out, World.ownsRow_nil _ _ _ _, World.ownsRow_nil _ _ _ _⟩
theorem gfld_28_f (h : Rr P 107 (nR 28 ⟨#[]⟩ ⟨#[]⟩ ⟨#[]⟩ 0 0 0 0 false (.slice none 0 0) (.slice none 0 0)) w l) (hl : l.length ≤ 1000000) (hbo : rnum 1 (rtxR 1 l) = 0) :
    Calls Tryz.prog 66 #[.pointer (some ⟨P, 0, none⟩)] w (FrP P (rdN 28 l 28) w) := by
  have hd : decide (rnum 1 (rtxR 1 l) ≠ 0) = false := by simp [hbo]
  have hE : rdN 28 l 28 = ({ nK 28 with n := rtxt 1 l, o := false, x := rtxt 2 ((rtxR 1 l).drop 1) } : Nt) := by
    show ({ nK 28 with n := rtxt 1 l, o := decide (rnum 1 (rtxR 1 l) ≠ 0), x := rtxt 2 ((rtxR 1 l).drop 1) } : Nt) = _
    rw [hd]
  rw [hE]
  clear hd hE
  have H := Lib.hid h
  have HL := Lib.hid hl
  have HB : Hid (Bt w.heap.size P w w) := Bt.refl _ _ _
  obtain ⟨c1, -⟩ := h.cells
  clear h hl
  go_enter Tryz.func66, Tryz.ntmps66
  go_wp2_with fail
  have C := Lib.hid (gtext_any H.out 1 HL.out (by decide))
  change Hid (Calls _ _ _ _ (RrP _ _ _ _ (.string (rtxt 1 l)) (rtxR 1 l))) at C
  have HL1 : Hid ((rtxR 1 l).length ≤ 1000000) := Nat.le_trans (rtxR_len _ _) HL.out
  obtain ⟨V1, hV⟩ : ∃ x, x = rtxt 1 l := ⟨_, rfl⟩
  obtain ⟨L1, hL⟩ : ∃ x, x = rtxR 1 l := ⟨_, rfl⟩
  rw [← hV, ← hL] at C
  rw [← hL] at HL1
  have HV1 := Lib.hid hV
  have HQ1 := Lib.hid hL
  clear hV hL HL
  have HL := HL1
  clear HL1
  refine C.out.mono ?_
  rintro e w1 ⟨rfl, hb, hr⟩
  clear C
  have HB' := Lib.hid (HB.out.trans (hb.mono HB.out.size))
  have H' := Lib.hid hr
  clear hb hr H HB
  have H := H'
  have HB := HB'
  clear H' HB'
  obtain ⟨-, c9, -⟩ := H.out.cells
  have f9 := H.out.free 2
  have H' : Hid (Rr P 107 (nR 28 V1 ⟨#[]⟩ ⟨#[]⟩ 0 0 0 0 false (.slice none 0 0) (.slice none 0 0)) (w1.setCell ⟨P, 2, none⟩ (.string V1)) L1) := H.out.set 1 (.string V1)
  have HB' := Lib.hid (HB.out.set 2 (.string V1))
  clear H HB
  go_wp2_with fail
  clear c9 f9
  generalize w1.setCell ⟨P, 2, none⟩ (.string V1) = W1 at H' HB' ⊢
  have H := H'
  have HB := HB'
  clear H' HB'
  have C := Lib.hid (gnumber_any H.out 1 HL.out (by decide))
  change Hid (Calls _ _ _ _ (RrP _ _ _ _ (.int .i64 (rnum 1 L1)) (List.drop 1 L1))) at C
  have HL2 : Hid ((List.drop 1 L1).length ≤ 1000000) := Nat.le_trans (by rw [List.length_drop]; omega) HL.out
  obtain ⟨V2, hV⟩ : ∃ x, x = rnum 1 L1 := ⟨_, rfl⟩
  obtain ⟨L2, hL⟩ : ∃ x, x = List.drop 1 L1 := ⟨_, rfl⟩
  rw [← hV, ← hL] at C
  rw [← hL] at HL2
  have HV2 := Lib.hid hV
  have HQ2 := Lib.hid hL
  clear hV hL HL
  have HL := HL2
  clear HL2
  refine C.out.mono ?_
  rintro e w2 ⟨rfl, hb, hr⟩
  clear C
  have HB' := Lib.hid (HB.out.trans (hb.mono HB.out.size))
  have H' := Lib.hid hr
  clear hb hr H HB
  have H := H'
  have HB := HB'
  clear H' HB'
  obtain ⟨-, -, -, -, -, -, -, -, c9, -⟩ := H.out.cells
  have f9 := H.out.free 9
  have q9 : V2 = 0 := by rw [HV2.out, HQ1.out]; exact hbo
  have q8 : (V2 != 0) = false := by simp [q9]
  have HQ9 := Lib.hid q9
  clear q9 hbo
  have H' : Hid (Rr P 107 (nR 28 V1 ⟨#[]⟩ ⟨#[]⟩ 0 0 0 0 false (.slice none 0 0) (.slice none 0 0)) (w2.setCell ⟨P, 9, none⟩ (.bool false)) L2) := H.out.set 8 (.bool false)
  have HB' := Lib.hid (HB.out.set 9 (.bool false))
  clear H HB
  go_wp2_with fail
  clear c9 f9 q8
  generalize w2.setCell ⟨P, 9, none⟩ (.bool false) = W2 at H' HB' ⊢
  have H := H'
  have HB := HB'
  clear H' HB'
  have C := Lib.hid (gtext_any H.out 2 HL.out (by decide))
  change Hid (Calls _ _ _ _ (RrP _ _ _ _ (.string (rtxt 2 L2)) (rtxR 2 L2))) at C
  have HL3 : Hid ((rtxR 2 L2).length ≤ 1000000) := Nat.le_trans (rtxR_len _ _) HL.out
  obtain ⟨V3, hV⟩ : ∃ x, x = rtxt 2 L2 := ⟨_, rfl⟩
  obtain ⟨L3, hL⟩ : ∃ x, x = rtxR 2 L2 := ⟨_, rfl⟩
  rw [← hV, ← hL] at C
  rw [← hL] at HL3
  have HV3 := Lib.hid hV
  have HQ3 := Lib.hid hL
  clear hV hL HL
  have HL := HL3
  clear HL3
  refine C.out.mono ?_
  rintro e w3 ⟨rfl, hb, hr⟩
  clear C
  have HB' := Lib.hid (HB.out.trans (hb.mono HB.out.size))
  have H' := Lib.hid hr
  clear hb hr H HB
  have H := H'
  have HB := HB'
  clear H' HB'
  obtain ⟨-, -, c9, -⟩ := H.out.cells
  have f9 := H.out.free 3
  have H' : Hid (Rr P 107 (nR 28 V1 V3 ⟨#[]⟩ 0 0 0 0 false (.slice none 0 0) (.slice none 0 0)) (w3.setCell ⟨P, 3, none⟩ (.string V3)) L3) := H.out.set 2 (.string V3)
  have HB' := Lib.hid (HB.out.set 3 (.string V3))
  clear H HB
  go_wp2_with fail
  have H := H'
  have HB := HB'
  clear H' HB'
  refine bodyPost_end (results_none rfl _ _ _) rfl ?_
  obtain rfl := HV3.out
  obtain rfl := HQ3.out
  obtain rfl := HV2.out
  obtain rfl := HQ2.out
  obtain rfl := HV1.out
  obtain rfl := HQ1.out
  exact ⟨rfl, HB.out, none, none, 0, 0, _, H.out, World.ownsRow_nil _ _ _ _, World.ownsRow_nil _ _ _ _⟩
theorem gfld_29_t (h : Rr P 107 (nR 29 ⟨#[]⟩ ⟨#[]⟩ ⟨#[]⟩ 0 0 0 0 false (.slice none 0 0) (.slice none 0 0)) w l) (hl : l.length ≤ 1000000) (hbo : ¬ (rnum 1 (rtxR 1 l) = 0)) :
    Calls Tryz.prog 66 #[.pointer (some ⟨P, 0, none⟩)] w (FrP P (rdN 29 l 29) w) := by
  have hd : decide (rnum 1 (rtxR 1 l) ≠ 0) = true := by simp [hbo]
  have hE : rdN 29 l 29 = ({ nK 29 with n := rtxt 1 l, o := true, x := rtxt 2 ((rtxR 1 l).drop 1) } : Nt) := by
    show ({ nK 29 with n := rtxt 1 l, o := decide (rnum 1 (rtxR 1 l) ≠ 0), x := rtxt 2 ((rtxR 1 l).drop 1) } : Nt) = _
    rw [hd]
  rw [hE]
  clear hd hE
  have H := Lib.hid h
  have HL := Lib.hid hl
  have HB : Hid (Bt w.heap.size P w w) := Bt.refl _ _ _
  obtain ⟨c1, -⟩ := h.cells
  clear h hl
  go_enter Tryz.func66, Tryz.ntmps66
  go_wp2_with fail
  have C := Lib.hid (gtext_any H.out 1 HL.out (by decide))
  change Hid (Calls _ _ _ _ (RrP _ _ _ _ (.string (rtxt 1 l)) (rtxR 1 l))) at C
  have HL1 : Hid ((rtxR 1 l).length ≤ 1000000) := Nat.le_trans (rtxR_len _ _) HL.out
  obtain ⟨V1, hV⟩ : ∃ x, x = rtxt 1 l := ⟨_, rfl⟩
  obtain ⟨L1, hL⟩ : ∃ x, x = rtxR 1 l := ⟨_, rfl⟩
  rw [← hV, ← hL] at C
  rw [← hL] at HL1
  have HV1 := Lib.hid hV
  have HQ1 := Lib.hid hL
  clear hV hL HL
  have HL := HL1
  clear HL1
  refine C.out.mono ?_
  rintro e w1 ⟨rfl, hb, hr⟩
  clear C
  have HB' := Lib.hid (HB.out.trans (hb.mono HB.out.size))
  have H' := Lib.hid hr
  clear hb hr H HB
  have H := H'
  have HB := HB'
  clear H' HB'
  obtain ⟨-, c9, -⟩ := H.out.cells
  have f9 := H.out.free 2
  have H' : Hid (Rr P 107 (nR 29 V1 ⟨#[]⟩ ⟨#[]⟩ 0 0 0 0 false (.slice none 0 0) (.slice none 0 0)) (w1.setCell ⟨P, 2, none⟩ (.string V1)) L1) := H.out.set 1 (.string V1)
  have HB' := Lib.hid (HB.out.set 2 (.string V1))
  clear H HB
  go_wp2_with fail
  clear c9 f9
  generalize w1.setCell ⟨P, 2, none⟩ (.string V1) = W1 at H' HB' ⊢
  have H := H'
  have HB := HB'
  clear H' HB'
  have C := Lib.hid (gnumber_any H.out 1 HL.out (by decide))
  change Hid (Calls _ _ _ _ (RrP _ _ _ _ (.int .i64 (rnum 1 L1)) (List.drop 1 L1))) at C
  have HL2 : Hid ((List.drop 1 L1).length ≤ 1000000) := Nat.le_trans (by rw [List.length_drop]; omega) HL.out
  obtain ⟨V2, hV⟩ : ∃ x, x = rnum 1 L1 := ⟨_, rfl⟩
  obtain ⟨L2, hL⟩ : ∃ x, x = List.drop 1 L1 := ⟨_, rfl⟩
  rw [← hV, ← hL] at C
  rw [← hL] at HL2
  have HV2 := Lib.hid hV
  have HQ2 := Lib.hid hL
  clear hV hL HL
  have HL := HL2
  clear HL2
  refine C.out.mono ?_
  rintro e w2 ⟨rfl, hb, hr⟩
  clear C
  have HB' := Lib.hid (HB.out.trans (hb.mono HB.out.size))
  have H' := Lib.hid hr
  clear hb hr H HB
  have H := H'
  have HB := HB'
  clear H' HB'
  obtain ⟨-, -, -, -, -, -, -, -, c9, -⟩ := H.out.cells
  have f9 := H.out.free 9
  have q9 : ¬ (V2 = 0) := by rw [HV2.out, HQ1.out]; exact hbo
  have q8 : (V2 != 0) = true := by simp [q9]
  have HQ9 := Lib.hid q9
  clear q9 hbo
  have H' : Hid (Rr P 107 (nR 29 V1 ⟨#[]⟩ ⟨#[]⟩ 0 0 0 0 true (.slice none 0 0) (.slice none 0 0)) (w2.setCell ⟨P, 9, none⟩ (.bool true)) L2) := H.out.set 8 (.bool true)
  have HB' := Lib.hid (HB.out.set 9 (.bool true))
  clear H HB
  go_wp2_with fail
  clear c9 f9 q8
  generalize w2.setCell ⟨P, 9, none⟩ (.bool true) = W2 at H' HB' ⊢
  have H := H'
  have HB := HB'
  clear H' HB'
  have C := Lib.hid (gtext_any H.out 2 HL.out (by decide))
  change Hid (Calls _ _ _ _ (RrP _ _ _ _ (.string (rtxt 2 L2)) (rtxR 2 L2))) at C
  have HL3 : Hid ((rtxR 2 L2).length ≤ 1000000) := Nat.le_trans (rtxR_len _ _) HL.out
  obtain ⟨V3, hV⟩ : ∃ x, x = rtxt 2 L2 := ⟨_, rfl⟩
  obtain ⟨L3, hL⟩ : ∃ x, x = rtxR 2 L2 := ⟨_, rfl⟩
  rw [← hV, ← hL] at C
  rw [← hL] at HL3
  have HV3 := Lib.hid hV
  have HQ3 := Lib.hid hL
  clear hV hL HL
  have HL := HL3
  clear HL3
  refine C.out.mono ?_
  rintro e w3 ⟨rfl, hb, hr⟩
  clear C
  have HB' := Lib.hid (HB.out.trans (hb.mono HB.out.size))
  have H' := Lib.hid hr
  clear hb hr H HB
  have H := H'
  have HB := HB'
  clear H' HB'
  obtain ⟨-, -, c9, -⟩ := H.out.cells
  have f9 := H.out.free 3
  have H' : Hid (Rr P 107 (nR 29 V1 V3 ⟨#[]⟩ 0 0 0 0 true (.slice none 0 0) (.slice none 0 0)) (w3.setCell ⟨P, 3, none⟩ (.string V3)) L3) := H.out.set 2 (.string V3)
  have HB' := Lib.hid (HB.out.set 3 (.string V3))
  clear H HB
  go_wp2_with fail
  have H := H'
  have HB := HB'
  clear H' HB'
  refine bodyPost_end (results_none rfl _ _ _) rfl ?_
  obtain rfl := HV3.out
  obtain rfl := HQ3.out
  obtain rfl := HV2.out
  obtain rfl := HQ2.out
  obtain rfl := HV1.out
  obtain rfl := HQ1.out
  exact ⟨rfl, HB.out, none, none, 0, 0, _, H.out, World.ownsRow_nil _ _ _ _, World.ownsRow_nil _ _ _ _⟩
theorem gfld_29_f (h : Rr P 107 (nR 29 ⟨#[]⟩ ⟨#[]⟩ ⟨#[]⟩ 0 0 0 0 false (.slice none 0 0) (.slice none 0 0)) w l) (hl : l.length ≤ 1000000) (hbo : rnum 1 (rtxR 1 l) = 0) :
    Calls Tryz.prog 66 #[.pointer (some ⟨P, 0, none⟩)] w (FrP P (rdN 29 l 29) w) := by
  have hd : decide (rnum 1 (rtxR 1 l) ≠ 0) = false := by simp [hbo]
  have hE : rdN 29 l 29 = ({ nK 29 with n := rtxt 1 l, o := false, x := rtxt 2 ((rtxR 1 l).drop 1) } : Nt) := by
    show ({ nK 29 with n := rtxt 1 l, o := decide (rnum 1 (rtxR 1 l) ≠ 0), x := rtxt 2 ((rtxR 1 l).drop 1) } : Nt) = _
    rw [hd]
  rw [hE]
  clear hd hE
  have H := Lib.hid h
  have HL := Lib.hid hl
  have HB : Hid (Bt w.heap.size P w w) := Bt.refl _ _ _
  obtain ⟨c1, -⟩ := h.cells
  clear h hl
  go_enter Tryz.func66, Tryz.ntmps66
  go_wp2_with fail
  have C := Lib.hid (gtext_any H.out 1 HL.out (by decide))
  change Hid (Calls _ _ _ _ (RrP _ _ _ _ (.string (rtxt 1 l)) (rtxR 1 l))) at C
  have HL1 : Hid ((rtxR 1 l).length ≤ 1000000) := Nat.le_trans (rtxR_len _ _) HL.out
  obtain ⟨V1, hV⟩ : ∃ x, x = rtxt 1 l := ⟨_, rfl⟩
  obtain ⟨L1, hL⟩ : ∃ x, x = rtxR 1 l := ⟨_, rfl⟩
  rw [← hV, ← hL] at C
  rw [← hL] at HL1
  have HV1 := Lib.hid hV
  have HQ1 := Lib.hid hL
  clear hV hL HL
  have HL := HL1
  clear HL1
  refine C.out.mono ?_
  rintro e w1 ⟨rfl, hb, hr⟩
  clear C
  have HB' := Lib.hid (HB.out.trans (hb.mono HB.out.size))
  have H' := Lib.hid hr
  clear hb hr H HB
  have H := H'
  have HB := HB'
  clear H' HB'
  obtain ⟨-, c9, -⟩ := H.out.cells
  have f9 := H.out.free 2
  have H' : Hid (Rr P 107 (nR 29 V1 ⟨#[]⟩ ⟨#[]⟩ 0 0 0 0 false (.slice none 0 0) (.slice none 0 0)) (w1.setCell ⟨P, 2, none⟩ (.string V1)) L1) := H.out.set 1 (.string V1)
  have HB' := Lib.hid (HB.out.set 2 (.string V1))
  clear H HB
  go_wp2_with fail
  clear c9 f9
  generalize w1.setCell ⟨P, 2, none⟩ (.string V1) = W1 at H' HB' ⊢
  have H := H'
  have HB := HB'
  clear H' HB'
  have C := Lib.hid (gnumber_any H.out 1 HL.out (by decide))
  change Hid (Calls _ _ _ _ (RrP _ _ _ _ (.int .i64 (rnum 1 L1)) (List.drop 1 L1))) at C
  have HL2 : Hid ((List.drop 1 L1).length ≤ 1000000) := Nat.le_trans (by rw [List.length_drop]; omega) HL.out
  obtain ⟨V2, hV⟩ : ∃ x, x = rnum 1 L1 := ⟨_, rfl⟩
  obtain ⟨L2, hL⟩ : ∃ x, x = List.drop 1 L1 := ⟨_, rfl⟩
  rw [← hV, ← hL] at C
  rw [← hL] at HL2
  have HV2 := Lib.hid hV
  have HQ2 := Lib.hid hL
  clear hV hL HL
  have HL := HL2
  clear HL2
  refine C.out.mono ?_
  rintro e w2 ⟨rfl, hb, hr⟩
  clear C
  have HB' := Lib.hid (HB.out.trans (hb.mono HB.out.size))
  have H' := Lib.hid hr
  clear hb hr H HB
  have H := H'
  have HB := HB'
  clear H' HB'
  obtain ⟨-, -, -, -, -, -, -, -, c9, -⟩ := H.out.cells
  have f9 := H.out.free 9
  have q9 : V2 = 0 := by rw [HV2.out, HQ1.out]; exact hbo
  have q8 : (V2 != 0) = false := by simp [q9]
  have HQ9 := Lib.hid q9
  clear q9 hbo
  have H' : Hid (Rr P 107 (nR 29 V1 ⟨#[]⟩ ⟨#[]⟩ 0 0 0 0 false (.slice none 0 0) (.slice none 0 0)) (w2.setCell ⟨P, 9, none⟩ (.bool false)) L2) := H.out.set 8 (.bool false)
  have HB' := Lib.hid (HB.out.set 9 (.bool false))
  clear H HB
  go_wp2_with fail
  clear c9 f9 q8
  generalize w2.setCell ⟨P, 9, none⟩ (.bool false) = W2 at H' HB' ⊢
  have H := H'
  have HB := HB'
  clear H' HB'
  have C := Lib.hid (gtext_any H.out 2 HL.out (by decide))
  change Hid (Calls _ _ _ _ (RrP _ _ _ _ (.string (rtxt 2 L2)) (rtxR 2 L2))) at C
  have HL3 : Hid ((rtxR 2 L2).length ≤ 1000000) := Nat.le_trans (rtxR_len _ _) HL.out
  obtain ⟨V3, hV⟩ : ∃ x, x = rtxt 2 L2 := ⟨_, rfl⟩
  obtain ⟨L3, hL⟩ : ∃ x, x = rtxR 2 L2 := ⟨_, rfl⟩
  rw [← hV, ← hL] at C
  rw [← hL] at HL3
  have HV3 := Lib.hid hV
  have HQ3 := Lib.hid hL
  clear hV hL HL
  have HL := HL3
  clear HL3
  refine C.out.mono ?_
  rintro e w3 ⟨rfl, hb, hr⟩
  clear C
  have HB' := Lib.hid (HB.out.trans (hb.mono HB.out.size))
  have H' := Lib.hid hr
  clear hb hr H HB
  have H := H'
  have HB := HB'
  clear H' HB'
  obtain ⟨-, -, c9, -⟩ := H.out.cells
  have f9 := H.out.free 3
  have H' : Hid (Rr P 107 (nR 29 V1 V3 ⟨#[]⟩ 0 0 0 0 false (.slice none 0 0) (.slice none 0 0)) (w3.setCell ⟨P, 3, none⟩ (.string V3)) L3) := H.out.set 2 (.string V3)
  have HB' := Lib.hid (HB.out.set 3 (.string V3))
  clear H HB
  go_wp2_with fail
  have H := H'
  have HB := HB'
  clear H' HB'
  refine bodyPost_end (results_none rfl _ _ _) rfl ?_
  obtain rfl := HV3.out
  obtain rfl := HQ3.out
  obtain rfl := HV2.out
  obtain rfl := HQ2.out
  obtain rfl := HV1.out
  obtain rfl := HQ1.out
  exact ⟨rfl, HB.out, none, none, 0, 0, _, H.out, World.ownsRow_nil _ _ _ _, World.ownsRow_nil _ _ _ _⟩
theorem gfld_no (k : Int) (h : Rr P 107 (nR k ⟨#[]⟩ ⟨#[]⟩ ⟨#[]⟩ 0 0 0 0 false (.slice none 0 0) (.slice none 0 0)) w l) (q2 : ((k : Int) == 2) = false) (q3 : ((k : Int) == 3) = false) (q5 : ((k : Int) == 5) = false) (q6 : ((k : Int) == 6) = false) (q7 : ((k : Int) == 7) = false) (q8 : ((k : Int) == 8) = false) (q11 : ((k : Int) == 11) = false) (q12 : ((k : Int) == 12) = false) (q13 : ((k : Int) == 13) = false) (q14 : ((k : Int) == 14) = false) (q15 : ((k : Int) == 15) = false) (q16 : ((k : Int) == 16) = false) (q17 : ((k : Int) == 17) = false) (q19 : ((k : Int) == 19) = false) (q18 : ((k : Int) == 18) = false) (q20 : ((k : Int) == 20) = false) (q21 : ((k : Int) == 21) = false) (q22 : ((k : Int) == 22) = false) (q25 : ((k : Int) == 25) = false) (q26 : ((k : Int) == 26) = false) (q27 : ((k : Int) == 27) = false) (q28 : ((k : Int) == 28) = false) (q29 : ((k : Int) == 29) = false) :
    Calls Tryz.prog 66 #[.pointer (some ⟨P, 0, none⟩)] w (FrP P (nK k) w) := by
  have H := Lib.hid h
  obtain ⟨c1, -⟩ := h.cells
  clear h
  go_enter Tryz.func66, Tryz.ntmps66
  go_wp2_with fail
  exact bodyPost_end (results_none rfl _ _ _) rfl ⟨rfl, Bt.refl _ _ _, none, none, 0, 0, _, H.out, World.ownsRow_nil _ _ _ _, World.ownsRow_nil _ _ _ _⟩
end
end Go.Proofs.YtiodjaeonoheiaaGreatDoor.T
