/- Contracts: a sort of one item, of two; Put of such. Conditions: those of each theorem's head. -/
import Derived.Test.YtdmbngkkbgmlfaaGreatDoorLs
namespace Go.Proofs.YtdmbngkkbgmlfaaGreatDoor.T
open Go.RowKit Go.Lib

set_option maxRecDepth 100000 in
set_option maxHeartbeats 8000000 in
theorem stable1 (a : Option Addr) (c B : Nat) (w : World) : Calls Tryz.prog 63 #[.slice a 1 c, .int .i64 1, cmV B] w fun e w' => e = .returned (.tuple #[]) ∧ w' = w := by
  unfold cmV at *
  go_enter Tryz.func63, Tryz.ntmps63
  go_wp2_with fail
  refine wp_loop_rounds 1 ?_
  rw [rounds_succ]
  go_wp2_with fail
  refine (ins1 _ _ _).mono ?_
  rintro e w' ⟨rfl, rfl⟩
  go_wp2_with fail
  refine wp_loop_rounds 1 ?_
  rw [rounds_succ]
  go_wp2_with fail
  go_end0
  exact ⟨rfl, rfl⟩
set_option maxRecDepth 100000 in
set_option maxHeartbeats 8000000 in
theorem sort1 (a : Option Addr) (c B : Nat) (w : World) : Calls Tryz.prog 47 #[.slice a 1 c, cmV B] w fun e w' => e = .returned (.tuple #[]) ∧ w' = w := by
  unfold cmV at *
  go_enter Tryz.func47, Tryz.ntmps47
  go_wp2_with fail
  refine (stable1 a c B _).mono ?_
  rintro e w' ⟨rfl, rfl⟩
  go_wp2_with fail
  go_end0
  exact ⟨rfl, rfl⟩
set_option maxRecDepth 100000 in
set_option maxHeartbeats 8000000 in
theorem stable2 (x y : It) (g c B N : Nat) (cur : Array Value) (w : World) (hN : N ≤ g) (hg : w.heap[g]? = some (.cells cur 26 (0, 0))) (h2 : 2 ≤ c) (hc : c ≤ maxLen) (hs : cur.size = c * 6) (ht : cur.toList.take 12 = cellsI [x, y]) (hC : CmB w B) (hlt : cI y x < 0) : Calls Tryz.prog 63 #[.slice (some ⟨g, 0, none⟩) 2 c, .int .i64 2, cmV B] w fun e w' => e = .returned (.tuple #[]) ∧ OwI w' N (.slice (some ⟨g, 0, none⟩) 2 c) [y, x] ∧ w.grownBy w' (some g) := by
  have HC := Lib.hid (ins2 x y g c B N cur w hN hg h2 hc hs ht hC hlt)
  clear hg h2 hc hs ht hC hlt hN
  unfold cmV at *
  go_enter Tryz.func63, Tryz.ntmps63
  go_wp2_with fail
  refine wp_loop_rounds 1 ?_
  rw [rounds_succ]
  go_wp2_with fail
  refine HC.out.mono ?_
  rintro e w' ⟨rfl, ho, hv⟩
  go_wp2_with fail
  refine wp_loop_rounds 1 ?_
  rw [rounds_succ]
  go_wp2_with fail
  go_end0
  exact ⟨rfl, ho, hv⟩
set_option maxRecDepth 100000 in
set_option maxHeartbeats 8000000 in
theorem sort2 (x y : It) (g c B N : Nat) (cur : Array Value) (w : World) (hN : N ≤ g) (hg : w.heap[g]? = some (.cells cur 26 (0, 0))) (h2 : 2 ≤ c) (hc : c ≤ maxLen) (hs : cur.size = c * 6) (ht : cur.toList.take 12 = cellsI [x, y]) (hC : CmB w B) (hlt : cI y x < 0) : Calls Tryz.prog 47 #[.slice (some ⟨g, 0, none⟩) 2 c, cmV B] w fun e w' => e = .returned (.tuple #[]) ∧ OwI w' N (.slice (some ⟨g, 0, none⟩) 2 c) [y, x] ∧ w.grownBy w' (some g) := by
  have HC := Lib.hid (stable2 x y g c B N cur w hN hg h2 hc hs ht hC hlt)
  clear hg h2 hc hs ht hC hlt hN
  unfold cmV at *
  go_enter Tryz.func47, Tryz.ntmps47
  go_wp2_with fail
  refine HC.out.mono ?_
  rintro e w' ⟨rfl, ho, hv⟩
  go_wp2_with fail
  go_end0
  exact ⟨rfl, ho, hv⟩
set_option maxRecDepth 100000 in
set_option maxHeartbeats 8000000 in
theorem put1 (x : It) (t : Int) (a : Option Addr) (c : Nat) (w : World) (hL : ItS w a [x]) (hz : ∀ z ∈ [x], z.n.size ≤ 1000000 ∧ z.a.size ≤ 1000000) (hk : okB [x] t = false) : Calls Tryz.prog 23 #[.int .i64 t, .slice a 1 c] w fun e w' => e = .returned (.tuple #[.agg #[.slice none 0 0, .int .i64 0], .int .i64 170]) ∧ Below w.heap.size w w' := by
  have HL := Lib.hid fun W (hb : Below w.heap.size w W) => hL.below hb
  have HZ := Lib.hid hz
  clear hL hz
  have HX4 := Lib.hid (box_new w #[.slice none 0 0, .int .i64 0] 24)
  have HB0 : Hid (Below w.heap.size w (w.alloc (.cells #[.slice none 0 0, .int .i64 0] 24))) := (Below.refl _ w).alloc (Nat.le_refl _) _
  go_enter Tryz.func23, Tryz.ntmps23
  go_wp2_with fail
  have CC : Hid (Calls Tryz.prog 46 #[.slice a 1 c] (w.alloc (.cells #[.slice none 0 0, .int .i64 0] 24)) fun e w' => ∃ v, e = .returned v ∧ Below (w.alloc (.cells #[.slice none 0 0, .int .i64 0] 24)).heap.size (w.alloc (.cells #[.slice none 0 0, .int .i64 0] 24)) w' ∧ OwI w' (w.alloc (.cells #[.slice none 0 0, .int .i64 0] 24)).heap.size v [x]) := cloneI_any [x] a c _ (HL.out _ HB0.out) (by simp)
  have HS0 : Hid ((w.alloc (.cells #[.slice none 0 0, .int .i64 0] 24)).heap.size = w.heap.size + 1) := Lib.hid (by simp)
  generalize (w.alloc (.cells #[.slice none 0 0, .int .i64 0] 24)) = V at HX4 HB0 CC HS0 ⊢
  refine CC.out.mono ?_
  rintro e w1 ⟨v, rfl, hb, ho⟩
  obtain ⟨b, d, rfl, hd⟩ : ∃ b d, v = .slice b 1 d ∧ 1 ≤ d := ho.slice
  have HX4a := kpB hb HX4
  have HB1 := Lib.hid (HB0.out.trans (hb.mono HB0.out.size))
  have HS1 : Hid (w.heap.size + 1 ≤ w1.heap.size) := Lib.hid (by have := HS0.out; have := hb.size; omega)
  obtain ⟨m0, m1⟩ := bx2 (box_new w1 #[.slice none 0 0, .int .i64 0] 24)
  have f0 := bxf (box_new w1 #[.slice none 0 0, .int .i64 0] 24) 0
  have f1 := bxf (box_new w1 #[.slice none 0 0, .int .i64 0] 24) 1
  go_upto_region 4 with fail
  have HBA : Below w1.heap.size w1 (w1.alloc (.cells #[.slice b 1 d, .int .i64 t] 24)) := (Below.refl _ w1).alloc (Nat.le_refl _) _
  have HX6 := Lib.hid (box_new w1 #[.slice b 1 d, .int .i64 t] 24)
  have HX4 := kpB HBA HX4a
  have HO := Lib.hid (ho.below HBA)
  have HB : Hid (Below w.heap.size w (w1.alloc (.cells #[.slice b 1 d, .int .i64 t] 24))) := HB1.out.trans (HBA.mono HB1.out.size)
  clear m0 m1 f0 f1 HX4a HB1 hb ho CC HB0 HBA
  generalize (w1.alloc (.cells #[.slice b 1 d, .int .i64 t] 24)) = w2 at HX6 HX4 HO HB ⊢
  generalize w1.heap.size = s at HX6 HX4 HO HB HS1 ⊢
  clear w1
  refine region_psiH 3 (fun j => [15, 16, 17].getD j 0) (psL [.eq (.pointer (some ⟨s, 0, none⟩)), .eq (.slice b 1 d), cmP]) (by kernel_rfl) (by kernel_rfl) (by kernel_rfl) (by kernel_rfl) (by decide) (by kernel_rfl) [] (fun j => [true, true, true].getD j true) (by kernel_rfl) ?_ ?_ (psL_mono _) ?_ ?_
  · intro k g v W hk
    exact absurd hk List.not_mem_nil
  · intro i W hi hr
    have hc : i = 0 ∨ i = 1 ∨ i = 2 := by omega
    rcases hc with rfl | rfl | rfl
    · cases hr
    · cases hr
    · cases hr
  · intro i o hi hrun ho q W hsz hout hbel hdep
    obtain ⟨m0, m1⟩ := bx2 ((hbel.block _ (heap_lt HX6.out)).trans HX6.out)
    have hc : i = 0 ∨ i = 1 ∨ i = 2 := by omega
    rcases hc with rfl | rfl | rfl
    · -- 0
      cases ho
      have e6 : q.eval (.tmp 6) = .pointer (some ⟨s, 0, none⟩) := (hout 6 (by decide)).trans rfl
      refine gives_read (v := .pointer (some ⟨s, 0, none⟩)) ?_ rfl
      unfold execOp
      dsimp only
      rw [e6]
      go_simp
    · -- 1
      cases ho
      have e15 : q.eval (.tmp 15) = .pointer (some ⟨s, 0, none⟩) := hdep ⟨0, .data⟩ (by simp) rfl (by decide)
      refine gives_read (v := .slice b 1 d) ?_ rfl
      unfold execOp
      dsimp only
      rw [e15]
      go_simp
    · -- 2
      cases ho
      refine gives_call (f := 19) (args := #[.func (.func 20) #[] #[]]) ?_ ((by_any W).mono ?_)
      · unfold execOp
        dsimp only
        simp only [resolve, List.map_toArray, List.map_cons, List.map_nil]
        go_simp
      · rintro e W' ⟨rfl, h1, h2⟩
        exact ⟨_, rfl, h2, ⟨_, rfl, h1⟩⟩
  · intro q W hq hbel hv
    have HBz := Lib.hid (HB.out.trans (hbel.mono HB.out.size))
    have HOz := Lib.hid (HO.out.below hbel)
    have HX6z := kpB hbel HX6
    have HX4z := kpB hbel HX4
    have e16 : q.eval (.tmp 16) = .slice b 1 d := hv 1 (by decide)
    obtain ⟨BB, e17, hBB⟩ : ∃ B : Nat, q.eval (.tmp 17) = cmV B ∧ CmB W B := hv 2 (by decide)
    have hq2 : q = canonL q [15, 16, 17] _ := hq
    simp only [canonL] at hq2
    rw [e16, e17] at hq2
    clear hq hv e16 e17
    generalize q.eval (.tmp 15) = u15 at hq2
    subst hq2
    have HCB := Lib.hid hBB
    clear HX6 HX4 HO HB hbel hBB
    simp only [List.drop_succ_cons, List.drop_zero]
    generalize W = w5 at HBz HOz HX6z HX4z HCB ⊢
    go_wp2_with fail
    refine (sort1 b d BB w5).mono ?_
    rintro e w6 ⟨rfl, hw⟩
    have hw := hw.symm
    subst hw
    obtain ⟨m0, m1⟩ := bx2 HX6z.out
    have CK : Calls Tryz.prog 8 #[.agg #[.slice b 1 d, .int .i64 t]] w5 (Gives (.int .i64 170) w5) := by
      have h := check_any [x] b d t w5 HOz.out.its (by simp) HZ.out
      rw [hk] at h
      exact h
    have CKH := Lib.hid CK
    clear CK
    go_wp2_with fail
    refine CKH.out.mono ?_
    rintro e w7 ⟨rfl, hb⟩
    have HB := Lib.hid (HBz.out.trans (hb.mono HBz.out.size))
    have HX4 := kpB hb HX4z
    obtain ⟨z0, z1⟩ := bx2 HX4.out
    have y0 := bxf HX4.out 0
    have y1 := bxf HX4.out 1
    clear hb HBz HX4z HX6z HOz m0 m1
    go_wp2_with fail
    exact bodyPost_ret (res_cell_tmp Tryz.results23 _ _ w.heap.size _ rfl (load_l (st2 HX4.out _ _))) rfl ⟨rfl, (HB.out.setCell (p := ⟨w.heap.size, 0, none⟩) (Nat.le_refl _) _).setCell (p := ⟨w.heap.size, 1, none⟩) (Nat.le_refl _) _⟩
set_option maxRecDepth 100000 in
set_option maxHeartbeats 8000000 in
theorem put2 (x y : It) (t : Int) (a : Option Addr) (c : Nat) (w : World) (hL : ItS w a [x, y]) (hz : ∀ z ∈ [y, x], z.n.size ≤ 1000000 ∧ z.a.size ≤ 1000000) (hlt : cI y x < 0) (hk : okB [y, x] t = true) : Calls Tryz.prog 23 #[.int .i64 t, .slice a 2 c] w fun e w' => ∃ b d, e = .returned (.tuple #[.agg #[.slice b 2 d, .int .i64 t], .int .i64 0]) ∧ ItS w' b [y, x] ∧ Below w.heap.size w w' := by
  have HL := Lib.hid fun W (hb : Below w.heap.size w W) => hL.below hb
  have HZ := Lib.hid hz
  clear hL hz
  have HX4 := Lib.hid (box_new w #[.slice none 0 0, .int .i64 0] 24)
  have HB0 : Hid (Below w.heap.size w (w.alloc (.cells #[.slice none 0 0, .int .i64 0] 24))) := (Below.refl _ w).alloc (Nat.le_refl _) _
  go_enter Tryz.func23, Tryz.ntmps23
  go_wp2_with fail
  have CC : Hid (Calls Tryz.prog 46 #[.slice a 2 c] (w.alloc (.cells #[.slice none 0 0, .int .i64 0] 24)) fun e w' => ∃ v, e = .returned v ∧ Below (w.alloc (.cells #[.slice none 0 0, .int .i64 0] 24)).heap.size (w.alloc (.cells #[.slice none 0 0, .int .i64 0] 24)) w' ∧ OwI w' (w.alloc (.cells #[.slice none 0 0, .int .i64 0] 24)).heap.size v [x, y]) := cloneI_any [x, y] a c _ (HL.out _ HB0.out) (by simp)
  have HS0 : Hid ((w.alloc (.cells #[.slice none 0 0, .int .i64 0] 24)).heap.size = w.heap.size + 1) := Lib.hid (by simp)
  generalize (w.alloc (.cells #[.slice none 0 0, .int .i64 0] 24)) = V at HX4 HB0 CC HS0 ⊢
  refine CC.out.mono ?_
  rintro e w1 ⟨v, rfl, hb, ho⟩
  obtain ⟨b, d, rfl, hd⟩ : ∃ b d, v = .slice b 2 d ∧ 2 ≤ d := ho.slice
  have HX4a := kpB hb HX4
  have HB1 := Lib.hid (HB0.out.trans (hb.mono HB0.out.size))
  have HS1 : Hid (w.heap.size + 1 ≤ w1.heap.size) := Lib.hid (by have := HS0.out; have := hb.size; omega)
  obtain ⟨m0, m1⟩ := bx2 (box_new w1 #[.slice none 0 0, .int .i64 0] 24)
  have f0 := bxf (box_new w1 #[.slice none 0 0, .int .i64 0] 24) 0
  have f1 := bxf (box_new w1 #[.slice none 0 0, .int .i64 0] 24) 1
  go_upto_region 4 with fail
  have HBA : Below w1.heap.size w1 (w1.alloc (.cells #[.slice b 2 d, .int .i64 t] 24)) := (Below.refl _ w1).alloc (Nat.le_refl _) _
  have HX6 := Lib.hid (box_new w1 #[.slice b 2 d, .int .i64 t] 24)
  have HX4 := kpB HBA HX4a
  have HO := Lib.hid (ho.below HBA)
  have HB : Hid (Below w.heap.size w (w1.alloc (.cells #[.slice b 2 d, .int .i64 t] 24))) := HB1.out.trans (HBA.mono HB1.out.size)
  have HGS : Hid (∀ k, (Value.slice b 2 d).ownBlock = some k → k < w1.heap.size) := Lib.hid fun k e => by
    obtain ⟨_, cur, hc⟩ := own_heap ho e
    exact heap_lt hc
  clear m0 m1 f0 f1 HX4a HB1 hb ho CC HB0 HBA
  generalize (w1.alloc (.cells #[.slice b 2 d, .int .i64 t] 24)) = w2 at HX6 HX4 HO HB ⊢
  generalize w1.heap.size = s at HX6 HX4 HO HB HS1 HGS ⊢
  clear w1
  refine region_psiH 3 (fun j => [15, 16, 17].getD j 0) (psL [.eq (.pointer (some ⟨s, 0, none⟩)), .eq (.slice b 2 d), cmP]) (by kernel_rfl) (by kernel_rfl) (by kernel_rfl) (by kernel_rfl) (by decide) (by kernel_rfl) [] (fun j => [true, true, true].getD j true) (by kernel_rfl) ?_ ?_ (psL_mono _) ?_ ?_
  · intro k g v W hk
    exact absurd hk List.not_mem_nil
  · intro i W hi hr
    have hc : i = 0 ∨ i = 1 ∨ i = 2 := by omega
    rcases hc with rfl | rfl | rfl
    · cases hr
    · cases hr
    · cases hr
  · intro i o hi hrun ho q W hsz hout hbel hdep
    obtain ⟨m0, m1⟩ := bx2 ((hbel.block _ (heap_lt HX6.out)).trans HX6.out)
    have hc : i = 0 ∨ i = 1 ∨ i = 2 := by omega
    rcases hc with rfl | rfl | rfl
    · -- 0
      cases ho
      have e6 : q.eval (.tmp 6) = .pointer (some ⟨s, 0, none⟩) := (hout 6 (by decide)).trans rfl
      refine gives_read (v := .pointer (some ⟨s, 0, none⟩)) ?_ rfl
      unfold execOp
      dsimp only
      rw [e6]
      go_simp
    · -- 1
      cases ho
      have e15 : q.eval (.tmp 15) = .pointer (some ⟨s, 0, none⟩) := hdep ⟨0, .data⟩ (by simp) rfl (by decide)
      refine gives_read (v := .slice b 2 d) ?_ rfl
      unfold execOp
      dsimp only
      rw [e15]
      go_simp
    · -- 2
      cases ho
      refine gives_call (f := 19) (args := #[.func (.func 20) #[] #[]]) ?_ ((by_any W).mono ?_)
      · unfold execOp
        dsimp only
        simp only [resolve, List.map_toArray, List.map_cons, List.map_nil]
        go_simp
      · rintro e W' ⟨rfl, h1, h2⟩
        exact ⟨_, rfl, h2, ⟨_, rfl, h1⟩⟩
  · intro q W hq hbel hv
    have HBz := Lib.hid (HB.out.trans (hbel.mono HB.out.size))
    have HOz := Lib.hid (HO.out.below hbel)
    have HX6z := kpB hbel HX6
    have HX4z := kpB hbel HX4
    have e16 : q.eval (.tmp 16) = .slice b 2 d := hv 1 (by decide)
    obtain ⟨BB, e17, hBB⟩ : ∃ B : Nat, q.eval (.tmp 17) = cmV B ∧ CmB W B := hv 2 (by decide)
    have hq2 : q = canonL q [15, 16, 17] _ := hq
    simp only [canonL] at hq2
    rw [e16, e17] at hq2
    clear hq hv e16 e17
    generalize q.eval (.tmp 15) = u15 at hq2
    subst hq2
    have HCB := Lib.hid hBB
    clear HX6 HX4 HO HB hbel hBB
    simp only [List.drop_succ_cons, List.drop_zero]
    generalize W = w5 at HBz HOz HX6z HX4z HCB ⊢
    go_wp2_with fail
    obtain ⟨_, r0⟩ := HOz.out
    rcases r0 with ⟨_, r0⟩ | ⟨g, cap, cur, r1, r2, r3, r4, r5, r6, r7⟩
    · cases r0
    simp only [Value.slice.injEq] at r1
    obtain ⟨rfl, _, rfl⟩ := r1
    refine (sort2 x y g d BB V.heap.size cur w5 r2 r3 hd r5 r6 r7 HCB.out hlt).mono ?_
    rintro e w6 ⟨rfl, ho, hg⟩
    have hgs : g < s := HGS.out g rfl
    have HX6a := Lib.hid ((hg.block s (heap_lt HX6z.out) (fun e => by simp only [Option.some.injEq] at e; omega)).trans HX6z.out)
    have HX4a := kpG HOz.out hg (show w.heap.size < V.heap.size by have := HS0.out; omega) HX4z
    have HBa := Lib.hid (belG HBz.out HOz.out (show w.heap.size ≤ V.heap.size by have := HS0.out; omega) HBz.out.size hg)
    have HOa := Lib.hid ho
    clear ho hg r2 r3 r4 r5 r6 r7 HOz HX6z HX4z HBz
    obtain ⟨m0, m1⟩ := bx2 HX6a.out
    have CK : Calls Tryz.prog 8 #[.agg #[.slice (some ⟨g, 0, none⟩) 2 d, .int .i64 t]] w6 (Gives (.int .i64 0) w6) := by
      have h := check_any [y, x] (some ⟨g, 0, none⟩) d t w6 HOa.out.its (by simp) HZ.out
      rw [hk] at h
      exact h
    have CKH := Lib.hid CK
    clear CK
    go_wp2_with fail
    refine CKH.out.mono ?_
    rintro e w7 ⟨rfl, hb⟩
    have HB := Lib.hid (HBa.out.trans (hb.mono HBa.out.size))
    have HX4 := kpB hb HX4a
    have HX6 := kpB hb HX6a
    have HO := Lib.hid (HOa.out.below hb)
    have CT : Hid (Calls Tryz.prog 27 #[.slice (some ⟨g, 0, none⟩) 2 d] w7 fun e w' => ∃ b d, e = .returned (.slice b 2 d) ∧ 2 ≤ d ∧ OwI w' w7.heap.size (.slice b 2 d) [y, x] ∧ Below w7.heap.size w7 w') := twins_any [y, x] (some ⟨g, 0, none⟩) d w7 HO.out.its (by simp) HZ.out
    clear hb HBa HX4a HX6a HOa m0 m1
    obtain ⟨m0, m1⟩ := bx2 HX6.out
    go_wp2_with fail
    refine CT.out.mono ?_
    rintro e w8 ⟨b2, d2, rfl, hd2, ho, hb⟩
    have HBp := Lib.hid (HB.out.trans (hb.mono HB.out.size))
    have HX4p := kpB hb HX4
    have HX6p := kpB hb HX6
    have HOp := Lib.hid ho
    have HS7 := Lib.hid (heap_lt HX6.out)
    clear hb ho HB HX4 HX6 HO CT m0 m1
    obtain ⟨m0, m1⟩ := bx2 HX6p.out
    have f0 := bxf HX6p.out 0
    go_upto_region 8 with fail
    have HX6 := Lib.hid (st1of2 HX6p.out (.slice b2 2 d2))
    have HX4 := kpS (i := 0) (v := .slice b2 2 d2) (show w.heap.size ≠ s by have := HS1.out; omega) HX4p
    have HO := Lib.hid (own_set (i := 0) (u := .slice b2 2 d2) HOp.out HS7.out)
    have HB : Hid (Below w.heap.size w (w8.setCell ⟨s, 0, none⟩ (.slice b2 2 d2))) := HBp.out.setCell (p := ⟨s, 0, none⟩) (show w.heap.size ≤ s by have := HS1.out; omega) _
    clear m0 m1 f0 HX6p HX4p HOp HBp
    generalize w8.setCell ⟨s, 0, none⟩ (.slice b2 2 d2) = w9 at HX6 HX4 HO HB ⊢
    obtain ⟨m0, m1⟩ := bx2 HX6.out
    obtain ⟨z0, z1⟩ := bx2 HX4.out
    have y0 := bxf HX4.out 0
    have y1 := bxf HX4.out 1
    have HM7 : Hid (w.heap.size < w7.heap.size) := Lib.hid (by have := HS1.out; have := HS7.out; omega)
    go_wp2_with fail
    exact bodyPost_ret (res_cell_tmp Tryz.results23 _ _ w.heap.size _ rfl (load_l (st2 HX4.out _ _))) rfl ⟨b2, d2, rfl, (own_set (i := 1) (own_set (i := 0) HO.out HM7.out) HM7.out).its, (HB.out.setCell (p := ⟨w.heap.size, 0, none⟩) (Nat.le_refl _) _).setCell (p := ⟨w.heap.size, 1, none⟩) (Nat.le_refl _) _⟩
end Go.Proofs.YtdmbngkkbgmlfaaGreatDoor.T
