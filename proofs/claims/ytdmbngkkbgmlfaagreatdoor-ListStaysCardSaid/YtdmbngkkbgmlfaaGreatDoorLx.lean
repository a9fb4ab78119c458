/- Contract: live. Conditions: those of each theorem's head. -/
import Derived.Test.YtdmbngkkbgmlfaaGreatDoorLw
namespace Go.Proofs.YtdmbngkkbgmlfaaGreatDoor.T
open Go.RowKit Go.Lib

theorem cell_ne {w : World} {B b0 q : Nat} {x : Option Addr} {n c : Nat} {t : Int} {T : TypeId} {s : ByteArray} (h : w.heap[B]? = some (.cells #[.slice x n c, .int .i64 t] T (0, 0))) (e : w.cell? ⟨b0, q, none⟩ = some (.string s)) : b0 ≠ B := by
  rintro rfl
  rw [Lib.cell_of_heap h] at e
  match q, e with
  | 0, e => simp at e
  | 1, e => simp at e
  | q + 2, e => simp at e
theorem its_oth {w w' : World} {a : Option Addr} {l : List It} {B : Nat} {x : Option Addr} {n c : Nat} {t : Int} {T : TypeId} (h : ItS w a l) (hB : w.heap[B]? = some (.cells #[.slice x n c, .int .i64 t] T (0, 0))) (hk : ∀ k, k ≠ B → w'.heap[k]? = w.heap[k]?) : ItS w' a l := fun i hi => by
  obtain ⟨b0, o0, rfl, e0, e1, e2, e3, e4, e5⟩ := h i hi
  have hb := hk b0 (cell_ne hB e0)
  exact ⟨b0, o0, rfl, (World.cell?_of_block hb).trans e0, (World.cell?_of_block hb).trans e1, (World.cell?_of_block hb).trans e2, (World.cell?_of_block hb).trans e3, (World.cell?_of_block hb).trans e4, (World.cell?_of_block hb).trans e5⟩
set_option maxRecDepth 100000 in
set_option maxHeartbeats 8000000 in
theorem live_any (w : World) : Calls Tryz.prog 9 #[] w (Gives (.bool true) w) := by
  have HB0 : Hid (Below w.heap.size w w) := Below.refl _ _
  go_enter Tryz.func9, Tryz.ntmps9
  go_wp2_with fail
  refine (lbuddy_any 1 1 ⟨#[106, 111, 101]⟩ w).mono ?_
  rintro e w1 ⟨rfl, hb⟩
  have HB1 := Lib.hid (HB0.out.trans (hb.mono HB0.out.size))
  clear HB0 hb
  go_wp2_with fail
  refine (lgroup_any 1 ⟨#[70, 114, 105, 101, 110, 100, 115]⟩ w1).mono ?_
  rintro e w2 ⟨rfl, hb⟩
  have HB2 := Lib.hid (HB1.out.trans (hb.mono HB1.out.size))
  clear HB1 hb
  have HS := Lib.hid (box_new w2 #[.string ⟨#[106, 111, 101]⟩, .int .i64 1, .int .i64 1, .int .i64 0, .string ⟨#[]⟩, .bool false, .string ⟨#[70, 114, 105, 101, 110, 100, 115]⟩, .int .i64 1, .int .i64 0, .int .i64 1, .string ⟨#[]⟩, .bool false] 26)
  have HB3 := Lib.hid (HB2.out.alloc HB2.out.size (.cells #[.string ⟨#[106, 111, 101]⟩, .int .i64 1, .int .i64 1, .int .i64 0, .string ⟨#[]⟩, .bool false, .string ⟨#[70, 114, 105, 101, 110, 100, 115]⟩, .int .i64 1, .int .i64 0, .int .i64 1, .string ⟨#[]⟩, .bool false] 26))
  go_wp2_with fail
  refine (lput2 _ _ HS.out).mono ?_
  rintro e w3 ⟨b, d, rfl, hi, hb⟩
  have HB4 := Lib.hid (HB3.out.trans (hb.mono HB3.out.size))
  have HI := Lib.hid hi
  clear HB2 HS HB3 hi hb
  obtain ⟨z0, z1⟩ := bx2 (box_new w3 #[.slice none 0 0, .int .i64 0] 24)
  have y0 := bxf (box_new w3 #[.slice none 0 0, .int .i64 0] 24) 0
  have y1 := bxf (box_new w3 #[.slice none 0 0, .int .i64 0] 24) 1
  go_upto_region 2 with fail
  clear z0 z1 y0 y1
  have HBA : Below w3.heap.size w3 (w3.alloc (.cells #[.slice b 2 d, .int .i64 7] 24)) := (Below.refl _ w3).alloc (Nat.le_refl _) _
  have HB5 := Lib.hid (HB4.out.trans (HBA.mono HB4.out.size))
  have H1 := Lib.hid (box_new w3 #[.slice b 2 d, .int .i64 7] 24)
  replace HI := Lib.hid (HI.out.below HBA)
  clear HBA HB4
  generalize (w3.alloc (.cells #[.slice b 2 d, .int .i64 7] 24)) = w4 at HB5 H1 HI ⊢
  generalize w3.heap.size = p1 at H1 ⊢
  clear w3
  obtain ⟨m0, m1⟩ := bx2 H1.out
  go_wp2_with fail
  refine (lbud w4 b d HI.out).mono ?_
  rintro e w5 ⟨rfl, hb⟩
  have HB6 := Lib.hid (HB5.out.trans (hb.mono HB5.out.size))
  replace H1 := kpB hb H1
  replace HI := Lib.hid (HI.out.below hb)
  clear hb HB5 m0 m1
  obtain ⟨z0, z1, z2, z3, z4, z5⟩ := bx6 (box_new w5 #[.string ⟨#[]⟩, .int .i64 0, .int .i64 0, .int .i64 0, .string ⟨#[]⟩, .bool false] 26)
  have y0 := bxf (box_new w5 #[.string ⟨#[]⟩, .int .i64 0, .int .i64 0, .int .i64 0, .string ⟨#[]⟩, .bool false] 26) 0
  have y1 := bxf (box_new w5 #[.string ⟨#[]⟩, .int .i64 0, .int .i64 0, .int .i64 0, .string ⟨#[]⟩, .bool false] 26) 1
  have y2 := bxf (box_new w5 #[.string ⟨#[]⟩, .int .i64 0, .int .i64 0, .int .i64 0, .string ⟨#[]⟩, .bool false] 26) 2
  have y3 := bxf (box_new w5 #[.string ⟨#[]⟩, .int .i64 0, .int .i64 0, .int .i64 0, .string ⟨#[]⟩, .bool false] 26) 3
  have y4 := bxf (box_new w5 #[.string ⟨#[]⟩, .int .i64 0, .int .i64 0, .int .i64 0, .string ⟨#[]⟩, .bool false] 26) 4
  have y5 := bxf (box_new w5 #[.string ⟨#[]⟩, .int .i64 0, .int .i64 0, .int .i64 0, .string ⟨#[]⟩, .bool false] 26) 5
  go_upto_region 3 with fail
  clear z0 y0 z1 y1 z2 y2 z3 y3 z4 y4 z5 y5
  have HBA : Below w5.heap.size w5 (w5.alloc (.cells #[.string ⟨#[106, 111, 101]⟩, .int .i64 1, .int .i64 1, .int .i64 0, .string ⟨#[]⟩, .bool false] 26)) := (Below.refl _ w5).alloc (Nat.le_refl _) _
  have HB7 := Lib.hid (HB6.out.trans (HBA.mono HB6.out.size))
  have H3 := Lib.hid (box_new w5 #[.string ⟨#[106, 111, 101]⟩, .int .i64 1, .int .i64 1, .int .i64 0, .string ⟨#[]⟩, .bool false] 26)
  replace H1 := kpB HBA H1
  replace HI := Lib.hid (HI.out.below HBA)
  clear HBA HB6
  generalize (w5.alloc (.cells #[.string ⟨#[106, 111, 101]⟩, .int .i64 1, .int .i64 1, .int .i64 0, .string ⟨#[]⟩, .bool false] 26)) = w6 at HB7 H3 H1 HI ⊢
  generalize w5.heap.size = p3 at H3 ⊢
  clear w5
  refine region_psiP 7 (fun j => [24, 25, 26, 23, 27, 28, 5].getD j 0) (psL [.eq (.agg #[.slice b 2 d, .int .i64 7]), .eq (.agg #[.string ⟨#[]⟩, .int .i64 1, .int .i64 0, .int .i64 1, .string ⟨#[]⟩, .bool false]), apP [iG, iJ] (fun bb dd => .tuple #[.agg #[.slice bb 2 dd, .int .i64 7], .int .i64 10]), apP [iG, iJ] (fun bb dd => .tuple #[.agg #[.slice bb 2 dd, .int .i64 7], .int .i64 10]), apP [iG, iJ] (fun bb dd => .agg #[.slice bb 2 dd, .int .i64 7]), .eq (.int .i64 10), .ex (w6.heap.size) #[.slice none 0 0, .int .i64 0] 24 (fun B => .pointer (some ⟨B, 0, none⟩))]) (by kernel_rfl) (by kernel_rfl) 5 (by decide) (by kernel_rfl) (by kernel_rfl) (by kernel_rfl) (fun d _ _ _ _ h => by cases d <;> exact h) (by decide) (by kernel_rfl) [] (fun _ => true) (by kernel_rfl) (fun _ _ _ _ hk => absurd hk List.not_mem_nil) (fun _ _ _ hr => by cases hr) (psL_mono _) rfl ?_ ?_ ?_
  · intro o ho q W hsz hout hbel hdep
    cases ho
    obtain ⟨bb, dd, e23, hIt⟩ : ∃ (bb : Option Addr) (dd : Nat), q.eval (.tmp 23) = .tuple #[.agg #[.slice bb 2 dd, .int .i64 7], .int .i64 10] ∧ ItS W bb [iG, iJ] := hdep ⟨3, .data⟩ (by simp) rfl (by decide)
    refine ⟨.int .i64 10, rfl, fun w => ?_⟩
    unfold execOp
    dsimp only
    rw [e23]
    go_simp
  · intro i o hi hrun ho q W hsz hout hbel hdep
    obtain ⟨m0, m1⟩ := bx2 ((hbel.block _ (heap_lt H1.out)).trans H1.out)
    have hc : i = 0 ∨ i = 1 ∨ i = 2 ∨ i = 3 ∨ i = 4 ∨ i = 5 ∨ i = 6 := by omega
    rcases hc with rfl | rfl | rfl | rfl | rfl | rfl | rfl
    · -- 0
      cases ho
      have e1 : q.eval (.tmp 1) = .pointer (some ⟨p1, 0, none⟩) := (hout 1 (by decide)).trans rfl
      refine gives_read (v := .agg #[.slice b 2 d, .int .i64 7]) ?_ rfl
      unfold execOp
      dsimp only
      rw [e1]
      go_simp
    · -- 1
      cases ho
      refine gives_call (f := 25) (args := #[.int .i64 1, .string ⟨#[]⟩]) ?_ ((lgroup_any 1 ⟨#[]⟩ W).mono ?_)
      · unfold execOp
        dsimp only
        simp only [resolve, List.map_toArray, List.map_cons, List.map_nil]
        go_simp
      · rintro e W' ⟨rfl, hb⟩
        exact ⟨_, rfl, hb, rfl⟩
    · -- 2
      cases ho
      have e24 : q.eval (.tmp 24) = .agg #[.slice b 2 d, .int .i64 7] := hdep ⟨0, .data⟩ (by simp) rfl (by decide)
      have e25 : q.eval (.tmp 25) = .agg #[.string ⟨#[]⟩, .int .i64 1, .int .i64 0, .int .i64 1, .string ⟨#[]⟩, .bool false] := hdep ⟨1, .data⟩ (by simp) rfl (by decide)
      refine gives_call (f := 10) (args := #[.agg #[.slice b 2 d, .int .i64 7], .int .i64 22, .agg #[.string ⟨#[]⟩, .int .i64 1, .int .i64 0, .int .i64 1, .string ⟨#[]⟩, .bool false]]) ?_ ((lapE W b d (HI.out.below hbel)).mono ?_)
      · unfold execOp
        dsimp only
        simp only [resolve, List.map_toArray, List.map_cons, List.map_nil, e24, e25]
        go_simp
      · rintro e W' ⟨bb, dd, rfl, hIt, hb⟩
        exact ⟨_, rfl, hb, bb, dd, rfl, hIt⟩
    · -- 3
      cases ho
      obtain ⟨bb, dd, e26, hIt⟩ : ∃ (bb : Option Addr) (dd : Nat), q.eval (.tmp 26) = .tuple #[.agg #[.slice bb 2 dd, .int .i64 7], .int .i64 10] ∧ ItS W bb [iG, iJ] := hdep ⟨2, .data⟩ (by simp) rfl (by decide)
      refine gives_read (v := .tuple #[.agg #[.slice bb 2 dd, .int .i64 7], .int .i64 10]) ?_ ⟨bb, dd, rfl, hIt⟩
      unfold execOp
      dsimp only
      rw [e26]
      go_simp
    · -- 4
      cases ho
      obtain ⟨bb, dd, e23, hIt⟩ : ∃ (bb : Option Addr) (dd : Nat), q.eval (.tmp 23) = .tuple #[.agg #[.slice bb 2 dd, .int .i64 7], .int .i64 10] ∧ ItS W bb [iG, iJ] := hdep ⟨3, .data⟩ (by simp) rfl (by decide)
      refine gives_read (v := .agg #[.slice bb 2 dd, .int .i64 7]) ?_ ⟨bb, dd, rfl, hIt⟩
      unfold execOp
      dsimp only
      rw [e23]
      go_simp
    · -- 5
      cases ho
      obtain ⟨bb, dd, e23, hIt⟩ : ∃ (bb : Option Addr) (dd : Nat), q.eval (.tmp 23) = .tuple #[.agg #[.slice bb 2 dd, .int .i64 7], .int .i64 10] ∧ ItS W bb [iG, iJ] := hdep ⟨3, .data⟩ (by simp) rfl (by decide)
      refine gives_read (v := .int .i64 10) ?_ rfl
      unfold execOp
      dsimp only
      rw [e23]
      go_simp
    · -- 6
      cases ho
      refine gives_run (W' := W.alloc (.cells #[.slice none 0 0, .int .i64 0] 24)) (v := .pointer (some ⟨W.heap.size, 0, none⟩)) ?_ ((Below.refl _ W).alloc (Nat.le_refl _) _) ⟨_, rfl, hbel.size, box_new W _ _⟩
      unfold execOp
      dsimp only
      go_simp
  · intro q W hq hbel hv
    have HB8 := Lib.hid (HB7.out.trans (hbel.mono HB7.out.size))
    have H1q := kpB hbel H1
    have H1l := Lib.hid (heap_lt H1.out)
    have H3q := kpB hbel H3
    have H3l := Lib.hid (heap_lt H3.out)
    have HIq := Lib.hid (HI.out.below hbel)
    obtain ⟨bb, dd, e27, hIt27⟩ : ∃ (bb : Option Addr) (dd : Nat), q.eval (.tmp 27) = .agg #[.slice bb 2 dd, .int .i64 7] ∧ ItS W bb [iG, iJ] := hv 4 (by decide)
    have e28 : q.eval (.tmp 28) = .int .i64 10 := hv 5 (by decide)
    obtain ⟨BP, e5, hBP, hBPh⟩ : ∃ B : Nat, q.eval (.tmp 5) = .pointer (some ⟨B, 0, none⟩) ∧ w6.heap.size ≤ B ∧ W.heap[B]? = some (.cells #[.slice none 0 0, .int .i64 0] 24 (0, 0)) := hv 6 (by decide)
    have hq2 : q = canonL q [24, 25, 26, 23, 27, 28, 5] _ := hq
    simp only [canonL] at hq2
    rw [e27, e28, e5] at hq2
    clear hq hv e27 e28 e5
    generalize q.eval (.tmp 24) = u24 at hq2
    generalize q.eval (.tmp 25) = u25 at hq2
    generalize q.eval (.tmp 26) = u26 at hq2
    generalize q.eval (.tmp 23) = u23 at hq2
    subst hq2
    have hBP : w6.heap.size ≤ BP := hBP
    have H50 := Lib.hid hBPh
    have HI50 := Lib.hid hIt27
    have H1n := Lib.hid (show _ ≠ BP from Nat.ne_of_lt (Nat.lt_of_lt_of_le H1l.out hBP))
    have H3n := Lib.hid (show _ ≠ BP from Nat.ne_of_lt (Nat.lt_of_lt_of_le H3l.out hBP))
    have hBM : w.heap.size ≤ BP := by have := HB7.out.size; omega
    clear hBPh hIt27 hbel hBP HB7 H1 H3 H1l H3l HI
    simp only [List.drop_succ_cons, List.drop_zero]
    generalize W = w7 at HB8 H50 HI50 H1q H3q HIq ⊢
    generalize BP = p5 at H50 hBM H1n H3n ⊢
    generalize bb = b5 at HI50 ⊢
    generalize dd = d5
    obtain ⟨z0, z1⟩ := bx2 H50.out
    have y0 := bxf H50.out 0
    have y1 := bxf H50.out 1
    go_upto_region 4 with fail
    clear z0 z1 y0 y1
    have HOT : Hid (∀ k, k ≠ p5 → ((w7.setCell ⟨p5, 0, none⟩ (.slice b5 2 d5)).setCell ⟨p5, 1, none⟩ (.int .i64 7)).heap[k]? = w7.heap[k]?) := Lib.hid fun k hk => (set_o hk).trans (set_o hk)
    have H5 := Lib.hid (st2 H50.out (.slice b5 2 d5) (.int .i64 7))
    have HI5 := Lib.hid (its_oth HI50.out H50.out HOT.out)
    have H1 := Lib.hid ((HOT.out _ H1n.out).trans H1q.out)
    have H3 := Lib.hid ((HOT.out _ H3n.out).trans H3q.out)
    have HI := Lib.hid (its_oth HIq.out H50.out HOT.out)
    replace HB8 : Hid (Below w.heap.size w ((w7.setCell ⟨p5, 0, none⟩ (.slice b5 2 d5)).setCell ⟨p5, 1, none⟩ (.int .i64 7))) := (HB8.out.setCell (p := ⟨p5, 0, none⟩) hBM _).setCell (p := ⟨p5, 1, none⟩) hBM _
    clear HOT hBM H50 HI50 H1q H3q HIq H1n H3n
    generalize (w7.setCell ⟨p5, 0, none⟩ (.slice b5 2 d5)).setCell ⟨p5, 1, none⟩ (.int .i64 7) = w7b at HB8 H5 HI5 H1 H3 HI ⊢
    clear w7
    refine region_psiP 9 (fun j => [30, 31, 32, 33, 34, 29, 35, 36, 7].getD j 0) (psL [.eq (.agg #[.slice b 2 d, .int .i64 7]), .eq (.agg #[.slice b 2 d, .int .i64 7]), .eq (.int .i64 2), .eq (.agg #[.string ⟨#[97, 110, 110]⟩, .int .i64 1, .int .i64 2, .int .i64 0, .string ⟨#[]⟩, .bool false]), apP [iG, iJ, iA] (fun bb dd => .tuple #[.agg #[.slice bb 3 dd, .int .i64 7], .int .i64 0]), apP [iG, iJ, iA] (fun bb dd => .tuple #[.agg #[.slice bb 3 dd, .int .i64 7], .int .i64 0]), apP [iG, iJ, iA] (fun bb dd => .agg #[.slice bb 3 dd, .int .i64 7]), .eq (.int .i64 0), .ex (w7b.heap.size) #[.slice none 0 0, .int .i64 0] 24 (fun B => .pointer (some ⟨B, 0, none⟩))]) (by kernel_rfl) (by kernel_rfl) 7 (by decide) (by kernel_rfl) (by kernel_rfl) (by kernel_rfl) (fun d _ _ _ _ h => by cases d <;> exact h) (by decide) (by kernel_rfl) [] (fun _ => true) (by kernel_rfl) (fun _ _ _ _ hk => absurd hk List.not_mem_nil) (fun _ _ _ hr => by cases hr) (psL_mono _) rfl ?_ ?_ ?_
    · intro o ho q W hsz hout hbel hdep
      cases ho
      obtain ⟨bb, dd, e29, hIt⟩ : ∃ (bb : Option Addr) (dd : Nat), q.eval (.tmp 29) = .tuple #[.agg #[.slice bb 3 dd, .int .i64 7], .int .i64 0] ∧ ItS W bb [iG, iJ, iA] := hdep ⟨5, .data⟩ (by simp) rfl (by decide)
      refine ⟨.int .i64 0, rfl, fun w => ?_⟩
      unfold execOp
      dsimp only
      rw [e29]
      go_simp
    · intro i o hi hrun ho q W hsz hout hbel hdep
      obtain ⟨m0, m1⟩ := bx2 ((hbel.block _ (heap_lt H1.out)).trans H1.out)
      have hc : i = 0 ∨ i = 1 ∨ i = 2 ∨ i = 3 ∨ i = 4 ∨ i = 5 ∨ i = 6 ∨ i = 7 ∨ i = 8 := by omega
      rcases hc with rfl | rfl | rfl | rfl | rfl | rfl | rfl | rfl | rfl
      · -- 0
        cases ho
        have e1 : q.eval (.tmp 1) = .pointer (some ⟨p1, 0, none⟩) := (hout 1 (by decide)).trans rfl
        refine gives_read (v := .agg #[.slice b 2 d, .int .i64 7]) ?_ rfl
        unfold execOp
        dsimp only
        rw [e1]
        go_simp
      · -- 1
        cases ho
        have e1 : q.eval (.tmp 1) = .pointer (some ⟨p1, 0, none⟩) := (hout 1 (by decide)).trans rfl
        refine gives_read (v := .agg #[.slice b 2 d, .int .i64 7]) ?_ rfl
        unfold execOp
        dsimp only
        rw [e1]
        go_simp
      · -- 2
        cases ho
        have e31 : q.eval (.tmp 31) = .agg #[.slice b 2 d, .int .i64 7] := hdep ⟨1, .data⟩ (by simp) rfl (by decide)
        refine gives_call (f := 12) (args := #[.agg #[.slice b 2 d, .int .i64 7], .int .i64 1]) ?_ ((lplc W b d (HI.out.below hbel)).mono ?_)
        · unfold execOp
          dsimp only
          simp only [resolve, List.map_toArray, List.map_cons, List.map_nil, e31]
          go_simp
        · rintro e W' ⟨rfl, hb⟩
          exact ⟨_, rfl, hb, rfl⟩
      · -- 3
        cases ho
        have e32 : q.eval (.tmp 32) = .int .i64 2 := hdep ⟨2, .data⟩ (by simp) rfl (by decide)
        refine gives_call (f := 24) (args := #[.int .i64 1, .int .i64 2, .string ⟨#[97, 110, 110]⟩]) ?_ ((lbuddy_any 1 2 ⟨#[97, 110, 110]⟩ W).mono ?_)
        · unfold execOp
          dsimp only
          simp only [resolve, List.map_toArray, List.map_cons, List.map_nil, e32]
          go_simp
        · rintro e W' ⟨rfl, hb⟩
          exact ⟨_, rfl, hb, rfl⟩
      · -- 4
        cases ho
        have e30 : q.eval (.tmp 30) = .agg #[.slice b 2 d, .int .i64 7] := hdep ⟨0, .data⟩ (by simp) rfl (by decide)
        have e33 : q.eval (.tmp 33) = .agg #[.string ⟨#[97, 110, 110]⟩, .int .i64 1, .int .i64 2, .int .i64 0, .string ⟨#[]⟩, .bool false] := hdep ⟨3, .data⟩ (by simp) rfl (by decide)
        refine gives_call (f := 10) (args := #[.agg #[.slice b 2 d, .int .i64 7], .int .i64 20, .agg #[.string ⟨#[97, 110, 110]⟩, .int .i64 1, .int .i64 2, .int .i64 0, .string ⟨#[]⟩, .bool false]]) ?_ ((lapA W b d (HI.out.below hbel)).mono ?_)
        · unfold execOp
          dsimp only
          simp only [resolve, List.map_toArray, List.map_cons, List.map_nil, e30, e33]
          go_simp
        · rintro e W' ⟨bb, dd, rfl, hIt, hb⟩
          exact ⟨_, rfl, hb, bb, dd, rfl, hIt⟩
      · -- 5
        cases ho
        obtain ⟨bb, dd, e34, hIt⟩ : ∃ (bb : Option Addr) (dd : Nat), q.eval (.tmp 34) = .tuple #[.agg #[.slice bb 3 dd, .int .i64 7], .int .i64 0] ∧ ItS W bb [iG, iJ, iA] := hdep ⟨4, .data⟩ (by simp) rfl (by decide)
        refine gives_read (v := .tuple #[.agg #[.slice bb 3 dd, .int .i64 7], .int .i64 0]) ?_ ⟨bb, dd, rfl, hIt⟩
        unfold execOp
        dsimp only
        rw [e34]
        go_simp
      · -- 6
        cases ho
        obtain ⟨bb, dd, e29, hIt⟩ : ∃ (bb : Option Addr) (dd : Nat), q.eval (.tmp 29) = .tuple #[.agg #[.slice bb 3 dd, .int .i64 7], .int .i64 0] ∧ ItS W bb [iG, iJ, iA] := hdep ⟨5, .data⟩ (by simp) rfl (by decide)
        refine gives_read (v := .agg #[.slice bb 3 dd, .int .i64 7]) ?_ ⟨bb, dd, rfl, hIt⟩
        unfold execOp
        dsimp only
        rw [e29]
        go_simp
      · -- 7
        cases ho
        obtain ⟨bb, dd, e29, hIt⟩ : ∃ (bb : Option Addr) (dd : Nat), q.eval (.tmp 29) = .tuple #[.agg #[.slice bb 3 dd, .int .i64 7], .int .i64 0] ∧ ItS W bb [iG, iJ, iA] := hdep ⟨5, .data⟩ (by simp) rfl (by decide)
        refine gives_read (v := .int .i64 0) ?_ rfl
        unfold execOp
        dsimp only
        rw [e29]
        go_simp
      · -- 8
        cases ho
        refine gives_run (W' := W.alloc (.cells #[.slice none 0 0, .int .i64 0] 24)) (v := .pointer (some ⟨W.heap.size, 0, none⟩)) ?_ ((Below.refl _ W).alloc (Nat.le_refl _) _) ⟨_, rfl, hbel.size, box_new W _ _⟩
        unfold execOp
        dsimp only
        go_simp
    · intro q W hq hbel hv
      have HB9 := Lib.hid (HB8.out.trans (hbel.mono HB8.out.size))
      have H1q := kpB hbel H1
      have H1l := Lib.hid (heap_lt H1.out)
      have H3q := kpB hbel H3
      have H3l := Lib.hid (heap_lt H3.out)
      have H5q := kpB hbel H5
      have H5l := Lib.hid (heap_lt H5.out)
      have HIq := Lib.hid (HI.out.below hbel)
      have HI5q := Lib.hid (HI5.out.below hbel)
      obtain ⟨bb, dd, e35, hIt35⟩ : ∃ (bb : Option Addr) (dd : Nat), q.eval (.tmp 35) = .agg #[.slice bb 3 dd, .int .i64 7] ∧ ItS W bb [iG, iJ, iA] := hv 6 (by decide)
      have e36 : q.eval (.tmp 36) = .int .i64 0 := hv 7 (by decide)
      obtain ⟨BP, e7, hBP, hBPh⟩ : ∃ B : Nat, q.eval (.tmp 7) = .pointer (some ⟨B, 0, none⟩) ∧ w7b.heap.size ≤ B ∧ W.heap[B]? = some (.cells #[.slice none 0 0, .int .i64 0] 24 (0, 0)) := hv 8 (by decide)
      have hq2 : q = canonL q [30, 31, 32, 33, 34, 29, 35, 36, 7] _ := hq
      simp only [canonL] at hq2
      rw [e35, e36, e7] at hq2
      clear hq hv e35 e36 e7
      generalize q.eval (.tmp 30) = u30 at hq2
      generalize q.eval (.tmp 31) = u31 at hq2
      generalize q.eval (.tmp 32) = u32 at hq2
      generalize q.eval (.tmp 33) = u33 at hq2
      generalize q.eval (.tmp 34) = u34 at hq2
      generalize q.eval (.tmp 29) = u29 at hq2
      subst hq2
      have hBP : w7b.heap.size ≤ BP := hBP
      have H70 := Lib.hid hBPh
      have HI70 := Lib.hid hIt35
      have H1n := Lib.hid (show _ ≠ BP from Nat.ne_of_lt (Nat.lt_of_lt_of_le H1l.out hBP))
      have H3n := Lib.hid (show _ ≠ BP from Nat.ne_of_lt (Nat.lt_of_lt_of_le H3l.out hBP))
      have H5n := Lib.hid (show _ ≠ BP from Nat.ne_of_lt (Nat.lt_of_lt_of_le H5l.out hBP))
      have hBM : w.heap.size ≤ BP := by have := HB8.out.size; omega
      clear hBPh hIt35 hbel hBP HB8 H1 H3 H5 H1l H3l H5l HI HI5
      simp only [List.drop_succ_cons, List.drop_zero]
      generalize W = w8 at HB9 H70 HI70 H1q H3q H5q HIq HI5q ⊢
      generalize BP = p7 at H70 hBM H1n H3n H5n ⊢
      generalize bb = b7 at HI70 ⊢
      generalize dd = d7
      obtain ⟨z0, z1⟩ := bx2 H70.out
      have y0 := bxf H70.out 0
      have y1 := bxf H70.out 1
      go_upto_region 5 with fail
      clear z0 z1 y0 y1
      have HOT : Hid (∀ k, k ≠ p7 → ((w8.setCell ⟨p7, 0, none⟩ (.slice b7 3 d7)).setCell ⟨p7, 1, none⟩ (.int .i64 7)).heap[k]? = w8.heap[k]?) := Lib.hid fun k hk => (set_o hk).trans (set_o hk)
      have H7 := Lib.hid (st2 H70.out (.slice b7 3 d7) (.int .i64 7))
      have HI7 := Lib.hid (its_oth HI70.out H70.out HOT.out)
      have H1 := Lib.hid ((HOT.out _ H1n.out).trans H1q.out)
      have H3 := Lib.hid ((HOT.out _ H3n.out).trans H3q.out)
      have H5 := Lib.hid ((HOT.out _ H5n.out).trans H5q.out)
      have HI := Lib.hid (its_oth HIq.out H70.out HOT.out)
      have HI5 := Lib.hid (its_oth HI5q.out H70.out HOT.out)
      replace HB9 : Hid (Below w.heap.size w ((w8.setCell ⟨p7, 0, none⟩ (.slice b7 3 d7)).setCell ⟨p7, 1, none⟩ (.int .i64 7))) := (HB9.out.setCell (p := ⟨p7, 0, none⟩) hBM _).setCell (p := ⟨p7, 1, none⟩) hBM _
      clear HOT hBM H70 HI70 H1q H3q H5q HIq HI5q H1n H3n H5n
      generalize (w8.setCell ⟨p7, 0, none⟩ (.slice b7 3 d7)).setCell ⟨p7, 1, none⟩ (.int .i64 7) = w8b at HB9 H7 HI7 H1 H3 H5 HI HI5 ⊢
      clear w8
      clear HI7
      go_wp2_with fail
      refine (lbuddy_any 1 1 ⟨#[106, 111, 101]⟩ w8b).mono ?_
      rintro e w9 ⟨rfl, hb⟩
      have HB10 := Lib.hid (HB9.out.trans (hb.mono HB9.out.size))
      replace H1 := kpB hb H1
      replace H3 := kpB hb H3
      replace H5 := kpB hb H5
      replace H7 := kpB hb H7
      replace HI := Lib.hid (HI.out.below hb)
      replace HI5 := Lib.hid (HI5.out.below hb)
      clear hb HB9 
      have HS := Lib.hid (box_new w9 #[.string ⟨#[106, 111, 101]⟩, .int .i64 1, .int .i64 1, .int .i64 0, .string ⟨#[]⟩, .bool false] 26)
      have HBA : Below w9.heap.size w9 (w9.alloc (.cells #[.string ⟨#[106, 111, 101]⟩, .int .i64 1, .int .i64 1, .int .i64 0, .string ⟨#[]⟩, .bool false] 26)) := (Below.refl _ w9).alloc (Nat.le_refl _) _
      have HB11 := Lib.hid (HB10.out.trans (HBA.mono HB10.out.size))
      replace H1 := kpB HBA H1
      replace H3 := kpB HBA H3
      replace H5 := kpB HBA H5
      replace H7 := kpB HBA H7
      replace HI := Lib.hid (HI.out.below HBA)
      replace HI5 := Lib.hid (HI5.out.below HBA)
      clear HBA HB10
      go_wp2_with fail
      refine (lput1 _ _ HS.out).mono ?_
      rintro e w10 ⟨rfl, hb⟩
      have HB12 := Lib.hid (HB11.out.trans (hb.mono HB11.out.size))
      replace H1 := kpB hb H1
      replace H3 := kpB hb H3
      replace H5 := kpB hb H5
      replace H7 := kpB hb H7
      replace HI := Lib.hid (HI.out.below hb)
      replace HI5 := Lib.hid (HI5.out.below hb)
      clear hb HB11 HS
      obtain ⟨z0, z1⟩ := bx2 (box_new w10 #[.slice none 0 0, .int .i64 0] 24)
      have y0 := bxf (box_new w10 #[.slice none 0 0, .int .i64 0] 24) 0
      have y1 := bxf (box_new w10 #[.slice none 0 0, .int .i64 0] 24) 1
      go_upto_region 6 with fail
      clear z0 z1 y0 y1
      have HBA : Below w10.heap.size w10 (w10.alloc (.cells #[.slice none 0 0, .int .i64 0] 24)) := (Below.refl _ w10).alloc (Nat.le_refl _) _
      have HB13 := Lib.hid (HB12.out.trans (HBA.mono HB12.out.size))
      have H9 := Lib.hid (box_new w10 #[.slice none 0 0, .int .i64 0] 24)
      replace H1 := kpB HBA H1
      replace H3 := kpB HBA H3
      replace H5 := kpB HBA H5
      replace H7 := kpB HBA H7
      replace HI := Lib.hid (HI.out.below HBA)
      replace HI5 := Lib.hid (HI5.out.below HBA)
      clear HBA HB12
      generalize (w10.alloc (.cells #[.slice none 0 0, .int .i64 0] 24)) = w11 at HB13 H9 H1 H3 H5 H7 HI HI5 ⊢
      generalize w10.heap.size = p9 at H9 ⊢
      clear w10
      clear H9
      obtain ⟨m0, m1⟩ := bx2 H1.out
      obtain ⟨x0, x1, x2, x3, x4, x5⟩ := bx6 H3.out
      obtain ⟨n0, n1⟩ := bx2 H5.out
      obtain ⟨k0, k1⟩ := bx2 H7.out
      go_wp2_with fail
      refine (lnum_any 0 w11).mono ?_
      rintro e wz ⟨rfl, hw⟩
      have hw := hw.symm
      subst hw
      go_wp2_with fail
      refine (lrs w11 b b5 d d5 HI.out HI5.out).mono ?_
      rintro e w12 ⟨rfl, hb⟩
      have HB14 := Lib.hid (HB13.out.trans (hb.mono HB13.out.size))
      replace H1 := kpB hb H1
      replace H3 := kpB hb H3
      replace H5 := kpB hb H5
      replace H7 := kpB hb H7
      replace HI := Lib.hid (HI.out.below hb)
      replace HI5 := Lib.hid (HI5.out.below hb)
      clear hb HB13 m0 m1 x0 x1 x2 x3 x4 x5 n0 n1 k0 k1
      obtain ⟨m0, m1⟩ := bx2 H1.out
      obtain ⟨x0, x1, x2, x3, x4, x5⟩ := bx6 H3.out
      obtain ⟨n0, n1⟩ := bx2 H5.out
      obtain ⟨k0, k1⟩ := bx2 H7.out
      go_wp2_with fail
      refine (lroom w12 b d HI.out).mono ?_
      rintro e w13 ⟨rfl, hb⟩
      have HB15 := Lib.hid (HB14.out.trans (hb.mono HB14.out.size))
      replace H1 := kpB hb H1
      replace H3 := kpB hb H3
      replace H5 := kpB hb H5
      replace H7 := kpB hb H7
      replace HI := Lib.hid (HI.out.below hb)
      replace HI5 := Lib.hid (HI5.out.below hb)
      clear hb HB14 m0 m1 x0 x1 x2 x3 x4 x5 n0 n1 k0 k1
      obtain ⟨m0, m1⟩ := bx2 H1.out
      obtain ⟨x0, x1, x2, x3, x4, x5⟩ := bx6 H3.out
      obtain ⟨n0, n1⟩ := bx2 H5.out
      obtain ⟨k0, k1⟩ := bx2 H7.out
      go_wp2_with fail
      refine (ltit w13 b d HI.out).mono ?_
      rintro e w14 ⟨rfl, hb⟩
      have HB16 := Lib.hid (HB15.out.trans (hb.mono HB15.out.size))
      replace H1 := kpB hb H1
      replace H3 := kpB hb H3
      replace H5 := kpB hb H5
      replace H7 := kpB hb H7
      replace HI := Lib.hid (HI.out.below hb)
      replace HI5 := Lib.hid (HI5.out.below hb)
      clear hb HB15 m0 m1 x0 x1 x2 x3 x4 x5 n0 n1 k0 k1
      obtain ⟨m0, m1⟩ := bx2 H1.out
      obtain ⟨x0, x1, x2, x3, x4, x5⟩ := bx6 H3.out
      obtain ⟨n0, n1⟩ := bx2 H5.out
      obtain ⟨k0, k1⟩ := bx2 H7.out
      go_wp2_with fail
      refine (lnum_any 170 w14).mono ?_
      rintro e wz ⟨rfl, hw⟩
      have hw := hw.symm
      subst hw
      go_wp2_with fail
      refine (lsm w14 b d HI.out).mono ?_
      rintro e w15 ⟨rfl, hb⟩
      have HB17 := Lib.hid (HB16.out.trans (hb.mono HB16.out.size))
      replace H1 := kpB hb H1
      replace H3 := kpB hb H3
      replace H5 := kpB hb H5
      replace H7 := kpB hb H7
      replace HI := Lib.hid (HI.out.below hb)
      replace HI5 := Lib.hid (HI5.out.below hb)
      clear hb HB16 m0 m1 x0 x1 x2 x3 x4 x5 n0 n1 k0 k1
      go_wp2_with fail
      go_ret
      exact ⟨rfl, HB17.out⟩
end Go.Proofs.YtdmbngkkbgmlfaaGreatDoor.T
