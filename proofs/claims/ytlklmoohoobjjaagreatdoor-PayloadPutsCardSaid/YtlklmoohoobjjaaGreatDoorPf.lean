/- The contract of payload.fill: a query with the kids that tell an ask. Condition: texts of at most 1048576 bytes. -/
import Derived.Test.YtlklmoohoobjjaaGreatDoorPq
namespace Go.Proofs.YtlklmoohoobjjaaGreatDoor
open Go.RowKit Go.Lib Go.Shelf Tg

theorem bx4 {w : World} {b : Nat} {v0 v1 v2 v3 : Value} {t : TypeId} {fz : Nat × Nat} (h : w.heap[b]? = some (.cells #[v0, v1, v2, v3] t fz)) :
    w.cell? ⟨b, 0, none⟩ = some v0 ∧ w.cell? ⟨b, 1, none⟩ = some v1 ∧ w.cell? ⟨b, 2, none⟩ = some v2 ∧ w.cell? ⟨b, 3, none⟩ = some v3 := by
  refine ⟨?_, ?_, ?_, ?_⟩ <;> (rw [Lib.cell_of_heap h]; rfl)
theorem box3 (w : World) (c0 c1 c2 : Array Value) (t0 t1 t2 : TypeId) : (((w.alloc (.cells c0 t0)).alloc (.cells c1 t1)).alloc (.cells c2 t2)).heap[w.heap.size]? = some (.cells c0 t0 (0, 0)) ∧ (((w.alloc (.cells c0 t0)).alloc (.cells c1 t1)).alloc (.cells c2 t2)).heap[w.heap.size + 1]? = some (.cells c1 t1 (0, 0)) ∧
    (((w.alloc (.cells c0 t0)).alloc (.cells c1 t1)).alloc (.cells c2 t2)).heap[w.heap.size + 2]? = some (.cells c2 t2 (0, 0)) ∧ Below w.heap.size w (((w.alloc (.cells c0 t0)).alloc (.cells c1 t1)).alloc (.cells c2 t2)) ∧ (((w.alloc (.cells c0 t0)).alloc (.cells c1 t1)).alloc (.cells c2 t2)).heap.size = w.heap.size + 3 := by
  have e1 : (w.alloc (.cells c0 t0)).heap.size = w.heap.size + 1 := by simp
  have e2 : ((w.alloc (.cells c0 t0)).alloc (.cells c1 t1)).heap.size = w.heap.size + 2 := by simp
  refine ⟨?_, ?_, ?_, (((Below.refl _ w).alloc (Nat.le_refl _) _).alloc (by simp) _).alloc (by simp; omega) _, by simp⟩
  · exact (Below.heap_alloc _ _ _ (by simp; omega)).trans ((Below.heap_alloc _ _ _ (by simp)).trans (box_new w _ _))
  · refine (Below.heap_alloc _ _ _ (by simp)).trans ?_
    rw [← e1]; exact box_new _ _ _
  · rw [← e2]; exact box_new _ _ _
set_option maxRecDepth 100000 in
set_option maxHeartbeats 8000000 in
theorem fill_3 (sp nm us pw tx : ByteArray) (aA : Option Addr) (cA : Nat) (kd : Int) (w : World) (hO : ∀ M S W, Oe M S W sp nm [] [] aA cA none 0) (hs : us.size ≤ 1048576 ∧ pw.size ≤ 1048576 ∧ tx.size ≤ 1048576) (hk : kd = 3) :
    Calls Tryz.prog 30 #[.agg #[.string sp, .string nm, .slice aA 0 cA, .string ⟨#[]⟩, .slice none 0 0], .agg #[.int .i64 kd, .string us, .string pw, .string tx]] w (ElP (.mk sp nm [] ⟨#[]⟩ ([lf ⟨#[114, 101, 109, 111, 118, 101]⟩ ⟨#[]⟩].map (reS sp))) w) := by
  have _hs := hs
  subst hk
  have HB0 : Hid (Below w.heap.size w (((w.alloc (.cells #[.string sp, .string nm, .slice aA 0 cA, .string ⟨#[]⟩, .slice none 0 0] 30)).alloc (.cells #[.int .i64 3, .string us, .string pw, .string tx] 23)).alloc (.cells #[.string ⟨#[]⟩, .string ⟨#[]⟩, .slice none 0 0, .string ⟨#[]⟩, .slice none 0 0] 30))) := (box3 w _ _ _ _ _ _).2.2.2.1
  have HE0 : Hid ((((w.alloc (.cells #[.string sp, .string nm, .slice aA 0 cA, .string ⟨#[]⟩, .slice none 0 0] 30)).alloc (.cells #[.int .i64 3, .string us, .string pw, .string tx] 23)).alloc (.cells #[.string ⟨#[]⟩, .string ⟨#[]⟩, .slice none 0 0, .string ⟨#[]⟩, .slice none 0 0] 30)).heap[w.heap.size]? = some (.cells #[.string sp, .string nm, .slice aA 0 cA, .string ⟨#[]⟩, .slice none 0 0] 30 (0, 0))) := (box3 w _ _ _ _ _ _).1
  have HA0 : Hid ((((w.alloc (.cells #[.string sp, .string nm, .slice aA 0 cA, .string ⟨#[]⟩, .slice none 0 0] 30)).alloc (.cells #[.int .i64 3, .string us, .string pw, .string tx] 23)).alloc (.cells #[.string ⟨#[]⟩, .string ⟨#[]⟩, .slice none 0 0, .string ⟨#[]⟩, .slice none 0 0] 30)).heap[w.heap.size + 1]? = some (.cells #[.int .i64 3, .string us, .string pw, .string tx] 23 (0, 0))) := (box3 w _ _ _ _ _ _).2.1
  have HR0 : Hid ((((w.alloc (.cells #[.string sp, .string nm, .slice aA 0 cA, .string ⟨#[]⟩, .slice none 0 0] 30)).alloc (.cells #[.int .i64 3, .string us, .string pw, .string tx] 23)).alloc (.cells #[.string ⟨#[]⟩, .string ⟨#[]⟩, .slice none 0 0, .string ⟨#[]⟩, .slice none 0 0] 30)).heap[w.heap.size + 2]? = some (.cells #[.string ⟨#[]⟩, .string ⟨#[]⟩, .slice none 0 0, .string ⟨#[]⟩, .slice none 0 0] 30 (0, 0))) := (box3 w _ _ _ _ _ _).2.2.1
  have HL0 : Hid ((((w.alloc (.cells #[.string sp, .string nm, .slice aA 0 cA, .string ⟨#[]⟩, .slice none 0 0] 30)).alloc (.cells #[.int .i64 3, .string us, .string pw, .string tx] 23)).alloc (.cells #[.string ⟨#[]⟩, .string ⟨#[]⟩, .slice none 0 0, .string ⟨#[]⟩, .slice none 0 0] 30)).heap.size = w.heap.size + 3) := (box3 w _ _ _ _ _ _).2.2.2.2
  go_enter Tryz.func30, Tryz.ntmps30
  go_upto_region 3 with fail
  generalize ((w.alloc (.cells #[.string sp, .string nm, .slice aA 0 cA, .string ⟨#[]⟩, .slice none 0 0] 30)).alloc (.cells #[.int .i64 3, .string us, .string pw, .string tx] 23)).alloc (.cells #[.string ⟨#[]⟩, .string ⟨#[]⟩, .slice none 0 0, .string ⟨#[]⟩, .slice none 0 0] 30) = W0 at HB0 HE0 HA0 HR0 HL0 ⊢
  refine region_psi 3 (fun j => [9, 10, 11].getD j 0) (psL [Pr.eq (.agg #[.string sp, .string nm, .slice aA 0 cA, .string ⟨#[]⟩, .slice none 0 0]), Pr.eq (.agg #[.string ⟨#[]⟩, .string ⟨#[114, 101, 109, 111, 118, 101]⟩, .slice none 0 0, .string ⟨#[]⟩, .slice none 0 0]), Pr.blk (w.heap.size + 3) 1 #[.string ⟨#[]⟩, .string ⟨#[114, 101, 109, 111, 118, 101]⟩, .slice none 0 0, .string ⟨#[]⟩, .slice none 0 0] 30]) (by kernel_rfl) (by kernel_rfl) (by kernel_rfl) (by kernel_rfl) (by decide) (by kernel_rfl) (by kernel_rfl) (psL_mono _) ?_ ?_
  · intro i o hi ho q W hsz hout hbel hdep
    have hEW := (hbel.block _ (heap_lt HE0.out)).trans HE0.out
    have hAW := (hbel.block _ (heap_lt HA0.out)).trans HA0.out
    obtain ⟨x0, x1, x2, x3, x4⟩ := bx5 hEW
    obtain ⟨y0, y1, y2, y3⟩ := bx4 hAW
    have hc : i = 0 ∨ i = 1 ∨ i = 2 := by omega
    rcases hc with rfl | rfl | rfl
    · -- 0
      cases ho
      have e2 : q.eval (.tmp 2) = .pointer (some ⟨w.heap.size, 0, none⟩) := (hout 2 (by decide)).trans rfl
      refine gives_read (v := .agg #[.string sp, .string nm, .slice aA 0 cA, .string ⟨#[]⟩, .slice none 0 0]) ?_ rfl
      unfold execOp
      dsimp only
      rw [e2]
      go_simp
    · -- 1
      cases ho
      refine gives_call (f := 34) (args := #[.string ⟨#[114, 101, 109, 111, 118, 101]⟩, .string ⟨#[]⟩]) ?_ ((leaf_any ⟨#[114, 101, 109, 111, 118, 101]⟩ ⟨#[]⟩ W (by decide)).mono ?_)
      · unfold execOp
        dsimp only
        simp only [resolve, List.map_toArray, List.map_cons, List.map_nil]
        go_simp
      · rintro e W' ⟨rfl, hb⟩
        exact ⟨_, rfl, hb, rfl⟩
    · -- 2
      cases ho
      have e10 : q.eval (.tmp 10) = .agg #[.string ⟨#[]⟩, .string ⟨#[114, 101, 109, 111, 118, 101]⟩, .slice none 0 0, .string ⟨#[]⟩, .slice none 0 0] := hdep ⟨1, .data⟩ (by simp) rfl (by decide)
      refine gives_run (W' := W.alloc (.cells #[.string ⟨#[]⟩, .string ⟨#[114, 101, 109, 111, 118, 101]⟩, .slice none 0 0, .string ⟨#[]⟩, .slice none 0 0] 30)) (v := .slice (some ⟨W.heap.size, 0, none⟩) 1 1) ?_ ((Below.refl _ W).alloc (Nat.le_refl _) _) (blk_new (by have := hbel.size; have := HL0.out; omega))
      unfold execOp
      dsimp only
      simp only [List.map_toArray, List.map_cons, List.map_nil, e10]
      go_simp
  · intro q W hq hbel hv
    have e9 : q.eval (.tmp 9) = .agg #[.string sp, .string nm, .slice aA 0 cA, .string ⟨#[]⟩, .slice none 0 0] := hv 0 (by decide)
    obtain ⟨B, e11, hB, hBB⟩ : ∃ B, q.eval (.tmp 11) = .slice (some ⟨B, 0, none⟩) 1 1 ∧ w.heap.size + 3 ≤ B ∧ W.heap[B]? = some (.cells #[.string ⟨#[]⟩, .string ⟨#[114, 101, 109, 111, 118, 101]⟩, .slice none 0 0, .string ⟨#[]⟩, .slice none 0 0] 30 (0, 0)) := hv 2 (by decide)
    have HBE := Lib.hid (HB0.out.trans (hbel.mono HB0.out.size))
    have HRE := Lib.hid ((hbel.block _ (heap_lt HR0.out)).trans HR0.out)
    have hwl : w.heap.size + 3 ≤ W.heap.size := by have := hbel.size; have := HL0.out; omega
    have CW := Lib.hid (with_any (w.heap.size + 3) (fun b => w.heap.size + 3 ≤ b) sp nm [] [] [lf ⟨#[114, 101, 109, 111, 118, 101]⟩ ⟨#[]⟩] aA none (some ⟨B, 0, none⟩) cA 0 1 W hwl (hO (w.heap.size + 3) _ W) (ks_1 hBB ⟨hB, fun e => by cases e⟩ (by decide) (by decide)) (by simp))
    have hq2 : q = canonL q [9, 10, 11] _ := hq
    simp only [canonL] at hq2
    rw [e9, e11] at hq2
    clear hq hv e9 e11
    generalize q.eval (.tmp 10) = u10 at hq2
    subst hq2
    clear hB hBB HE0 HA0 HB0 HR0 hbel
    skip
    go_wp2_with fail
    refine CW.out.mono ?_
    rintro r w2 ⟨a9, c9, rfl, ho9, hg9, _⟩
    have HB2 := Lib.hid (bel_gr hg9 (Nat.le_trans (Nat.le_add_right _ 3) hwl) (fun b e => by cases e))
    have HR2 := Lib.hid ((hg9.block _ (heap_lt HRE.out) (fun e => by cases e)).trans HRE.out)
    have HO2 := Lib.hid ho9
    clear hg9 CW ho9 HRE
    obtain ⟨q0, q1, q2, q3, q4⟩ := bx5 HR2.out
    have p0 := Lib.frozen_of_heap HR2.out 0
    have p1 := Lib.frozen_of_heap HR2.out 1
    have p2 := Lib.frozen_of_heap HR2.out 2
    have p3 := Lib.frozen_of_heap HR2.out 3
    have p4 := Lib.frozen_of_heap HR2.out 4
    go_wp2_with fail
    have HSC : Below w.heap.size w w2 := HBE.out.trans HB2.out
    refine bodyPost_ret (v := .agg #[.string sp, .string nm, .slice aA 0 cA, .string ⟨#[]⟩, .slice a9 1 c9]) (by simp [results, Tryz.results30, go_sem, q0, q1, q2, q3, q4]) rfl ?_
    have hfin := (HO2.out.keep (w' := (((((w2.setCell ⟨w.heap.size + 2, 0, none⟩ (.string sp)).setCell ⟨w.heap.size + 2, 1, none⟩ (.string nm)).setCell ⟨w.heap.size + 2, 2, none⟩ (.slice aA 0 cA)).setCell ⟨w.heap.size + 2, 3, none⟩ (.string ⟨#[]⟩)).setCell ⟨w.heap.size + 2, 4, none⟩ (.slice a9 1 c9))) (fun b hb => by
      have hb3 : w.heap.size + 3 ≤ b := hb.elim id fun e => (HO2.out.lt b e).1
      rw [setCell_other (by omega), setCell_other (by omega), setCell_other (by omega), setCell_other (by omega), setCell_other (by omega)])).ins
    exact ⟨_, rfl, hfin.weak fun _ _ h => Nat.le_trans (Nat.le_add_right _ 3) (h.elim id id), ((((HSC.setCell (Nat.le_succ_of_le (Nat.le_succ _)) _).setCell (Nat.le_succ_of_le (Nat.le_succ _)) _).setCell (Nat.le_succ_of_le (Nat.le_succ _)) _).setCell (Nat.le_succ_of_le (Nat.le_succ _)) _).setCell (Nat.le_succ_of_le (Nat.le_succ _)) _⟩
set_option maxRecDepth 100000 in
set_option maxHeartbeats 8000000 in
theorem fill_2 (sp nm us pw tx : ByteArray) (aA : Option Addr) (cA : Nat) (kd : Int) (w : World) (hO : ∀ M S W, Oe M S W sp nm [] [] aA cA none 0) (hs : us.size ≤ 1048576 ∧ pw.size ≤ 1048576 ∧ tx.size ≤ 1048576) (hk : kd = 2) :
    Calls Tryz.prog 30 #[.agg #[.string sp, .string nm, .slice aA 0 cA, .string ⟨#[]⟩, .slice none 0 0], .agg #[.int .i64 kd, .string us, .string pw, .string tx]] w (ElP (.mk sp nm [] ⟨#[]⟩ ([lf ⟨#[117, 115, 101, 114, 110, 97, 109, 101]⟩ us, lf ⟨#[112, 97, 115, 115, 119, 111, 114, 100]⟩ pw].map (reS sp))) w) := by
  have _hs := hs
  subst hk
  have HB0 : Hid (Below w.heap.size w (((w.alloc (.cells #[.string sp, .string nm, .slice aA 0 cA, .string ⟨#[]⟩, .slice none 0 0] 30)).alloc (.cells #[.int .i64 2, .string us, .string pw, .string tx] 23)).alloc (.cells #[.string ⟨#[]⟩, .string ⟨#[]⟩, .slice none 0 0, .string ⟨#[]⟩, .slice none 0 0] 30))) := (box3 w _ _ _ _ _ _).2.2.2.1
  have HE0 : Hid ((((w.alloc (.cells #[.string sp, .string nm, .slice aA 0 cA, .string ⟨#[]⟩, .slice none 0 0] 30)).alloc (.cells #[.int .i64 2, .string us, .string pw, .string tx] 23)).alloc (.cells #[.string ⟨#[]⟩, .string ⟨#[]⟩, .slice none 0 0, .string ⟨#[]⟩, .slice none 0 0] 30)).heap[w.heap.size]? = some (.cells #[.string sp, .string nm, .slice aA 0 cA, .string ⟨#[]⟩, .slice none 0 0] 30 (0, 0))) := (box3 w _ _ _ _ _ _).1
  have HA0 : Hid ((((w.alloc (.cells #[.string sp, .string nm, .slice aA 0 cA, .string ⟨#[]⟩, .slice none 0 0] 30)).alloc (.cells #[.int .i64 2, .string us, .string pw, .string tx] 23)).alloc (.cells #[.string ⟨#[]⟩, .string ⟨#[]⟩, .slice none 0 0, .string ⟨#[]⟩, .slice none 0 0] 30)).heap[w.heap.size + 1]? = some (.cells #[.int .i64 2, .string us, .string pw, .string tx] 23 (0, 0))) := (box3 w _ _ _ _ _ _).2.1
  have HR0 : Hid ((((w.alloc (.cells #[.string sp, .string nm, .slice aA 0 cA, .string ⟨#[]⟩, .slice none 0 0] 30)).alloc (.cells #[.int .i64 2, .string us, .string pw, .string tx] 23)).alloc (.cells #[.string ⟨#[]⟩, .string ⟨#[]⟩, .slice none 0 0, .string ⟨#[]⟩, .slice none 0 0] 30)).heap[w.heap.size + 2]? = some (.cells #[.string ⟨#[]⟩, .string ⟨#[]⟩, .slice none 0 0, .string ⟨#[]⟩, .slice none 0 0] 30 (0, 0))) := (box3 w _ _ _ _ _ _).2.2.1
  have HL0 : Hid ((((w.alloc (.cells #[.string sp, .string nm, .slice aA 0 cA, .string ⟨#[]⟩, .slice none 0 0] 30)).alloc (.cells #[.int .i64 2, .string us, .string pw, .string tx] 23)).alloc (.cells #[.string ⟨#[]⟩, .string ⟨#[]⟩, .slice none 0 0, .string ⟨#[]⟩, .slice none 0 0] 30)).heap.size = w.heap.size + 3) := (box3 w _ _ _ _ _ _).2.2.2.2
  go_enter Tryz.func30, Tryz.ntmps30
  go_upto_region 5 with fail
  generalize ((w.alloc (.cells #[.string sp, .string nm, .slice aA 0 cA, .string ⟨#[]⟩, .slice none 0 0] 30)).alloc (.cells #[.int .i64 2, .string us, .string pw, .string tx] 23)).alloc (.cells #[.string ⟨#[]⟩, .string ⟨#[]⟩, .slice none 0 0, .string ⟨#[]⟩, .slice none 0 0] 30) = W0 at HB0 HE0 HA0 HR0 HL0 ⊢
  refine region_psi 8 (fun j => [15, 16, 17, 18, 19, 20, 21, 22].getD j 0) (psL [Pr.eq (.agg #[.string sp, .string nm, .slice aA 0 cA, .string ⟨#[]⟩, .slice none 0 0]), Pr.eq (.pointer (some ⟨w.heap.size + 1, 1, none⟩)), Pr.eq (.string us), Pr.eq (.agg #[.string ⟨#[]⟩, .string ⟨#[117, 115, 101, 114, 110, 97, 109, 101]⟩, .slice none 0 0, .string us, .slice none 0 0]), Pr.eq (.pointer (some ⟨w.heap.size + 1, 2, none⟩)), Pr.eq (.string pw), Pr.eq (.agg #[.string ⟨#[]⟩, .string ⟨#[112, 97, 115, 115, 119, 111, 114, 100]⟩, .slice none 0 0, .string pw, .slice none 0 0]), Pr.blk (w.heap.size + 3) 2 #[.string ⟨#[]⟩, .string ⟨#[117, 115, 101, 114, 110, 97, 109, 101]⟩, .slice none 0 0, .string us, .slice none 0 0, .string ⟨#[]⟩, .string ⟨#[112, 97, 115, 115, 119, 111, 114, 100]⟩, .slice none 0 0, .string pw, .slice none 0 0] 30]) (by kernel_rfl) (by kernel_rfl) (by kernel_rfl) (by kernel_rfl) (by decide) (by kernel_rfl) (by kernel_rfl) (psL_mono _) ?_ ?_
  · intro i o hi ho q W hsz hout hbel hdep
    have hEW := (hbel.block _ (heap_lt HE0.out)).trans HE0.out
    have hAW := (hbel.block _ (heap_lt HA0.out)).trans HA0.out
    obtain ⟨x0, x1, x2, x3, x4⟩ := bx5 hEW
    obtain ⟨y0, y1, y2, y3⟩ := bx4 hAW
    have hc : i = 0 ∨ i = 1 ∨ i = 2 ∨ i = 3 ∨ i = 4 ∨ i = 5 ∨ i = 6 ∨ i = 7 := by omega
    rcases hc with rfl | rfl | rfl | rfl | rfl | rfl | rfl | rfl
    · -- 0
      cases ho
      have e2 : q.eval (.tmp 2) = .pointer (some ⟨w.heap.size, 0, none⟩) := (hout 2 (by decide)).trans rfl
      refine gives_read (v := .agg #[.string sp, .string nm, .slice aA 0 cA, .string ⟨#[]⟩, .slice none 0 0]) ?_ rfl
      unfold execOp
      dsimp only
      rw [e2]
      go_simp
    · -- 1
      cases ho
      have e3 : q.eval (.tmp 3) = .pointer (some ⟨w.heap.size + 1, 0, none⟩) := (hout 3 (by decide)).trans rfl
      refine gives_read (v := .pointer (some ⟨w.heap.size + 1, 1, none⟩)) ?_ rfl
      unfold execOp
      dsimp only
      rw [e3]
      go_simp
    · -- 2
      cases ho
      have e16 : q.eval (.tmp 16) = .pointer (some ⟨w.heap.size + 1, 1, none⟩) := hdep ⟨1, .data⟩ (by simp) rfl (by decide)
      refine gives_read (v := .string us) ?_ rfl
      unfold execOp
      dsimp only
      rw [e16]
      go_simp
    · -- 3
      cases ho
      have e17 : q.eval (.tmp 17) = .string us := hdep ⟨2, .data⟩ (by simp) rfl (by decide)
      refine gives_call (f := 34) (args := #[.string ⟨#[117, 115, 101, 114, 110, 97, 109, 101]⟩, .string us]) ?_ ((leaf_any ⟨#[117, 115, 101, 114, 110, 97, 109, 101]⟩ us W hs.1).mono ?_)
      · unfold execOp
        dsimp only
        simp only [resolve, List.map_toArray, List.map_cons, List.map_nil, e17]
        go_simp
      · rintro e W' ⟨rfl, hb⟩
        exact ⟨_, rfl, hb, rfl⟩
    · -- 4
      cases ho
      have e3 : q.eval (.tmp 3) = .pointer (some ⟨w.heap.size + 1, 0, none⟩) := (hout 3 (by decide)).trans rfl
      refine gives_read (v := .pointer (some ⟨w.heap.size + 1, 2, none⟩)) ?_ rfl
      unfold execOp
      dsimp only
      rw [e3]
      go_simp
    · -- 5
      cases ho
      have e19 : q.eval (.tmp 19) = .pointer (some ⟨w.heap.size + 1, 2, none⟩) := hdep ⟨4, .data⟩ (by simp) rfl (by decide)
      refine gives_read (v := .string pw) ?_ rfl
      unfold execOp
      dsimp only
      rw [e19]
      go_simp
    · -- 6
      cases ho
      have e20 : q.eval (.tmp 20) = .string pw := hdep ⟨5, .data⟩ (by simp) rfl (by decide)
      refine gives_call (f := 34) (args := #[.string ⟨#[112, 97, 115, 115, 119, 111, 114, 100]⟩, .string pw]) ?_ ((leaf_any ⟨#[112, 97, 115, 115, 119, 111, 114, 100]⟩ pw W hs.2.1).mono ?_)
      · unfold execOp
        dsimp only
        simp only [resolve, List.map_toArray, List.map_cons, List.map_nil, e20]
        go_simp
      · rintro e W' ⟨rfl, hb⟩
        exact ⟨_, rfl, hb, rfl⟩
    · -- 7
      cases ho
      have e18 : q.eval (.tmp 18) = .agg #[.string ⟨#[]⟩, .string ⟨#[117, 115, 101, 114, 110, 97, 109, 101]⟩, .slice none 0 0, .string us, .slice none 0 0] := hdep ⟨3, .data⟩ (by simp) rfl (by decide)
      have e21 : q.eval (.tmp 21) = .agg #[.string ⟨#[]⟩, .string ⟨#[112, 97, 115, 115, 119, 111, 114, 100]⟩, .slice none 0 0, .string pw, .slice none 0 0] := hdep ⟨6, .data⟩ (by simp) rfl (by decide)
      refine gives_run (W' := W.alloc (.cells #[.string ⟨#[]⟩, .string ⟨#[117, 115, 101, 114, 110, 97, 109, 101]⟩, .slice none 0 0, .string us, .slice none 0 0, .string ⟨#[]⟩, .string ⟨#[112, 97, 115, 115, 119, 111, 114, 100]⟩, .slice none 0 0, .string pw, .slice none 0 0] 30)) (v := .slice (some ⟨W.heap.size, 0, none⟩) 2 2) ?_ ((Below.refl _ W).alloc (Nat.le_refl _) _) (blk_new (by have := hbel.size; have := HL0.out; omega))
      unfold execOp
      dsimp only
      simp only [List.map_toArray, List.map_cons, List.map_nil, e18, e21]
      go_simp
  · intro q W hq hbel hv
    have e15 : q.eval (.tmp 15) = .agg #[.string sp, .string nm, .slice aA 0 cA, .string ⟨#[]⟩, .slice none 0 0] := hv 0 (by decide)
    obtain ⟨B, e22, hB, hBB⟩ : ∃ B, q.eval (.tmp 22) = .slice (some ⟨B, 0, none⟩) 2 2 ∧ w.heap.size + 3 ≤ B ∧ W.heap[B]? = some (.cells #[.string ⟨#[]⟩, .string ⟨#[117, 115, 101, 114, 110, 97, 109, 101]⟩, .slice none 0 0, .string us, .slice none 0 0, .string ⟨#[]⟩, .string ⟨#[112, 97, 115, 115, 119, 111, 114, 100]⟩, .slice none 0 0, .string pw, .slice none 0 0] 30 (0, 0)) := hv 7 (by decide)
    have HBE := Lib.hid (HB0.out.trans (hbel.mono HB0.out.size))
    have HRE := Lib.hid ((hbel.block _ (heap_lt HR0.out)).trans HR0.out)
    have hwl : w.heap.size + 3 ≤ W.heap.size := by have := hbel.size; have := HL0.out; omega
    have CW := Lib.hid (with_any (w.heap.size + 3) (fun b => w.heap.size + 3 ≤ b) sp nm [] [] [lf ⟨#[117, 115, 101, 114, 110, 97, 109, 101]⟩ us, lf ⟨#[112, 97, 115, 115, 119, 111, 114, 100]⟩ pw] aA none (some ⟨B, 0, none⟩) cA 0 2 W hwl (hO (w.heap.size + 3) _ W) (ks_2 hBB ⟨hB, fun e => by cases e⟩ (by decide) hs.1 (by decide) hs.2.1) (by simp))
    have hq2 : q = canonL q [15, 16, 17, 18, 19, 20, 21, 22] _ := hq
    simp only [canonL] at hq2
    rw [e15, e22] at hq2
    clear hq hv e15 e22
    generalize q.eval (.tmp 16) = u16 at hq2
    generalize q.eval (.tmp 17) = u17 at hq2
    generalize q.eval (.tmp 18) = u18 at hq2
    generalize q.eval (.tmp 19) = u19 at hq2
    generalize q.eval (.tmp 20) = u20 at hq2
    generalize q.eval (.tmp 21) = u21 at hq2
    subst hq2
    clear hB hBB HE0 HA0 HB0 HR0 hbel
    skip
    go_wp2_with fail
    refine CW.out.mono ?_
    rintro r w2 ⟨a9, c9, rfl, ho9, hg9, _⟩
    have HB2 := Lib.hid (bel_gr hg9 (Nat.le_trans (Nat.le_add_right _ 3) hwl) (fun b e => by cases e))
    have HR2 := Lib.hid ((hg9.block _ (heap_lt HRE.out) (fun e => by cases e)).trans HRE.out)
    have HO2 := Lib.hid ho9
    clear hg9 CW ho9 HRE
    obtain ⟨q0, q1, q2, q3, q4⟩ := bx5 HR2.out
    have p0 := Lib.frozen_of_heap HR2.out 0
    have p1 := Lib.frozen_of_heap HR2.out 1
    have p2 := Lib.frozen_of_heap HR2.out 2
    have p3 := Lib.frozen_of_heap HR2.out 3
    have p4 := Lib.frozen_of_heap HR2.out 4
    go_wp2_with fail
    have HSC : Below w.heap.size w w2 := HBE.out.trans HB2.out
    refine bodyPost_ret (v := .agg #[.string sp, .string nm, .slice aA 0 cA, .string ⟨#[]⟩, .slice a9 2 c9]) (by simp [results, Tryz.results30, go_sem, q0, q1, q2, q3, q4]) rfl ?_
    have hfin := (HO2.out.keep (w' := (((((w2.setCell ⟨w.heap.size + 2, 0, none⟩ (.string sp)).setCell ⟨w.heap.size + 2, 1, none⟩ (.string nm)).setCell ⟨w.heap.size + 2, 2, none⟩ (.slice aA 0 cA)).setCell ⟨w.heap.size + 2, 3, none⟩ (.string ⟨#[]⟩)).setCell ⟨w.heap.size + 2, 4, none⟩ (.slice a9 2 c9))) (fun b hb => by
      have hb3 : w.heap.size + 3 ≤ b := hb.elim id fun e => (HO2.out.lt b e).1
      rw [setCell_other (by omega), setCell_other (by omega), setCell_other (by omega), setCell_other (by omega), setCell_other (by omega)])).ins
    exact ⟨_, rfl, hfin.weak fun _ _ h => Nat.le_trans (Nat.le_add_right _ 3) (h.elim id id), ((((HSC.setCell (Nat.le_succ_of_le (Nat.le_succ _)) _).setCell (Nat.le_succ_of_le (Nat.le_succ _)) _).setCell (Nat.le_succ_of_le (Nat.le_succ _)) _).setCell (Nat.le_succ_of_le (Nat.le_succ _)) _).setCell (Nat.le_succ_of_le (Nat.le_succ _)) _⟩
set_option maxRecDepth 100000 in
set_option maxHeartbeats 8000000 in
theorem fill_5 (sp nm us pw tx : ByteArray) (aA : Option Addr) (cA : Nat) (kd : Int) (w : World) (hO : ∀ M S W, Oe M S W sp nm [] [] aA cA none 0) (hs : us.size ≤ 1048576 ∧ pw.size ≤ 1048576 ∧ tx.size ≤ 1048576) (hk : kd = 5) :
    Calls Tryz.prog 30 #[.agg #[.string sp, .string nm, .slice aA 0 cA, .string ⟨#[]⟩, .slice none 0 0], .agg #[.int .i64 kd, .string us, .string pw, .string tx]] w (ElP (.mk sp nm [] ⟨#[]⟩ ([lf ⟨#[112, 114, 111, 109, 112, 116]⟩ tx].map (reS sp))) w) := by
  have _hs := hs
  subst hk
  have HB0 : Hid (Below w.heap.size w (((w.alloc (.cells #[.string sp, .string nm, .slice aA 0 cA, .string ⟨#[]⟩, .slice none 0 0] 30)).alloc (.cells #[.int .i64 5, .string us, .string pw, .string tx] 23)).alloc (.cells #[.string ⟨#[]⟩, .string ⟨#[]⟩, .slice none 0 0, .string ⟨#[]⟩, .slice none 0 0] 30))) := (box3 w _ _ _ _ _ _).2.2.2.1
  have HE0 : Hid ((((w.alloc (.cells #[.string sp, .string nm, .slice aA 0 cA, .string ⟨#[]⟩, .slice none 0 0] 30)).alloc (.cells #[.int .i64 5, .string us, .string pw, .string tx] 23)).alloc (.cells #[.string ⟨#[]⟩, .string ⟨#[]⟩, .slice none 0 0, .string ⟨#[]⟩, .slice none 0 0] 30)).heap[w.heap.size]? = some (.cells #[.string sp, .string nm, .slice aA 0 cA, .string ⟨#[]⟩, .slice none 0 0] 30 (0, 0))) := (box3 w _ _ _ _ _ _).1
  have HA0 : Hid ((((w.alloc (.cells #[.string sp, .string nm, .slice aA 0 cA, .string ⟨#[]⟩, .slice none 0 0] 30)).alloc (.cells #[.int .i64 5, .string us, .string pw, .string tx] 23)).alloc (.cells #[.string ⟨#[]⟩, .string ⟨#[]⟩, .slice none 0 0, .string ⟨#[]⟩, .slice none 0 0] 30)).heap[w.heap.size + 1]? = some (.cells #[.int .i64 5, .string us, .string pw, .string tx] 23 (0, 0))) := (box3 w _ _ _ _ _ _).2.1
  have HR0 : Hid ((((w.alloc (.cells #[.string sp, .string nm, .slice aA 0 cA, .string ⟨#[]⟩, .slice none 0 0] 30)).alloc (.cells #[.int .i64 5, .string us, .string pw, .string tx] 23)).alloc (.cells #[.string ⟨#[]⟩, .string ⟨#[]⟩, .slice none 0 0, .string ⟨#[]⟩, .slice none 0 0] 30)).heap[w.heap.size + 2]? = some (.cells #[.string ⟨#[]⟩, .string ⟨#[]⟩, .slice none 0 0, .string ⟨#[]⟩, .slice none 0 0] 30 (0, 0))) := (box3 w _ _ _ _ _ _).2.2.1
  have HL0 : Hid ((((w.alloc (.cells #[.string sp, .string nm, .slice aA 0 cA, .string ⟨#[]⟩, .slice none 0 0] 30)).alloc (.cells #[.int .i64 5, .string us, .string pw, .string tx] 23)).alloc (.cells #[.string ⟨#[]⟩, .string ⟨#[]⟩, .slice none 0 0, .string ⟨#[]⟩, .slice none 0 0] 30)).heap.size = w.heap.size + 3) := (box3 w _ _ _ _ _ _).2.2.2.2
  go_enter Tryz.func30, Tryz.ntmps30
  go_upto_region 7 with fail
  generalize ((w.alloc (.cells #[.string sp, .string nm, .slice aA 0 cA, .string ⟨#[]⟩, .slice none 0 0] 30)).alloc (.cells #[.int .i64 5, .string us, .string pw, .string tx] 23)).alloc (.cells #[.string ⟨#[]⟩, .string ⟨#[]⟩, .slice none 0 0, .string ⟨#[]⟩, .slice none 0 0] 30) = W0 at HB0 HE0 HA0 HR0 HL0 ⊢
  refine region_psi 5 (fun j => [26, 27, 28, 29, 30].getD j 0) (psL [Pr.eq (.agg #[.string sp, .string nm, .slice aA 0 cA, .string ⟨#[]⟩, .slice none 0 0]), Pr.eq (.pointer (some ⟨w.heap.size + 1, 3, none⟩)), Pr.eq (.string tx), Pr.eq (.agg #[.string ⟨#[]⟩, .string ⟨#[112, 114, 111, 109, 112, 116]⟩, .slice none 0 0, .string tx, .slice none 0 0]), Pr.blk (w.heap.size + 3) 1 #[.string ⟨#[]⟩, .string ⟨#[112, 114, 111, 109, 112, 116]⟩, .slice none 0 0, .string tx, .slice none 0 0] 30]) (by kernel_rfl) (by kernel_rfl) (by kernel_rfl) (by kernel_rfl) (by decide) (by kernel_rfl) (by kernel_rfl) (psL_mono _) ?_ ?_
  · intro i o hi ho q W hsz hout hbel hdep
    have hEW := (hbel.block _ (heap_lt HE0.out)).trans HE0.out
    have hAW := (hbel.block _ (heap_lt HA0.out)).trans HA0.out
    obtain ⟨x0, x1, x2, x3, x4⟩ := bx5 hEW
    obtain ⟨y0, y1, y2, y3⟩ := bx4 hAW
    have hc : i = 0 ∨ i = 1 ∨ i = 2 ∨ i = 3 ∨ i = 4 := by omega
    rcases hc with rfl | rfl | rfl | rfl | rfl
    · -- 0
      cases ho
      have e2 : q.eval (.tmp 2) = .pointer (some ⟨w.heap.size, 0, none⟩) := (hout 2 (by decide)).trans rfl
      refine gives_read (v := .agg #[.string sp, .string nm, .slice aA 0 cA, .string ⟨#[]⟩, .slice none 0 0]) ?_ rfl
      unfold execOp
      dsimp only
      rw [e2]
      go_simp
    · -- 1
      cases ho
      have e3 : q.eval (.tmp 3) = .pointer (some ⟨w.heap.size + 1, 0, none⟩) := (hout 3 (by decide)).trans rfl
      refine gives_read (v := .pointer (some ⟨w.heap.size + 1, 3, none⟩)) ?_ rfl
      unfold execOp
      dsimp only
      rw [e3]
      go_simp
    · -- 2
      cases ho
      have e27 : q.eval (.tmp 27) = .pointer (some ⟨w.heap.size + 1, 3, none⟩) := hdep ⟨1, .data⟩ (by simp) rfl (by decide)
      refine gives_read (v := .string tx) ?_ rfl
      unfold execOp
      dsimp only
      rw [e27]
      go_simp
    · -- 3
      cases ho
      have e28 : q.eval (.tmp 28) = .string tx := hdep ⟨2, .data⟩ (by simp) rfl (by decide)
      refine gives_call (f := 34) (args := #[.string ⟨#[112, 114, 111, 109, 112, 116]⟩, .string tx]) ?_ ((leaf_any ⟨#[112, 114, 111, 109, 112, 116]⟩ tx W hs.2.2).mono ?_)
      · unfold execOp
        dsimp only
        simp only [resolve, List.map_toArray, List.map_cons, List.map_nil, e28]
        go_simp
      · rintro e W' ⟨rfl, hb⟩
        exact ⟨_, rfl, hb, rfl⟩
    · -- 4
      cases ho
      have e29 : q.eval (.tmp 29) = .agg #[.string ⟨#[]⟩, .string ⟨#[112, 114, 111, 109, 112, 116]⟩, .slice none 0 0, .string tx, .slice none 0 0] := hdep ⟨3, .data⟩ (by simp) rfl (by decide)
      refine gives_run (W' := W.alloc (.cells #[.string ⟨#[]⟩, .string ⟨#[112, 114, 111, 109, 112, 116]⟩, .slice none 0 0, .string tx, .slice none 0 0] 30)) (v := .slice (some ⟨W.heap.size, 0, none⟩) 1 1) ?_ ((Below.refl _ W).alloc (Nat.le_refl _) _) (blk_new (by have := hbel.size; have := HL0.out; omega))
      unfold execOp
      dsimp only
      simp only [List.map_toArray, List.map_cons, List.map_nil, e29]
      go_simp
  · intro q W hq hbel hv
    have e26 : q.eval (.tmp 26) = .agg #[.string sp, .string nm, .slice aA 0 cA, .string ⟨#[]⟩, .slice none 0 0] := hv 0 (by decide)
    obtain ⟨B, e30, hB, hBB⟩ : ∃ B, q.eval (.tmp 30) = .slice (some ⟨B, 0, none⟩) 1 1 ∧ w.heap.size + 3 ≤ B ∧ W.heap[B]? = some (.cells #[.string ⟨#[]⟩, .string ⟨#[112, 114, 111, 109, 112, 116]⟩, .slice none 0 0, .string tx, .slice none 0 0] 30 (0, 0)) := hv 4 (by decide)
    have HBE := Lib.hid (HB0.out.trans (hbel.mono HB0.out.size))
    have HRE := Lib.hid ((hbel.block _ (heap_lt HR0.out)).trans HR0.out)
    have hwl : w.heap.size + 3 ≤ W.heap.size := by have := hbel.size; have := HL0.out; omega
    have CW := Lib.hid (with_any (w.heap.size + 3) (fun b => w.heap.size + 3 ≤ b) sp nm [] [] [lf ⟨#[112, 114, 111, 109, 112, 116]⟩ tx] aA none (some ⟨B, 0, none⟩) cA 0 1 W hwl (hO (w.heap.size + 3) _ W) (ks_1 hBB ⟨hB, fun e => by cases e⟩ (by decide) hs.2.2) (by simp))
    have hq2 : q = canonL q [26, 27, 28, 29, 30] _ := hq
    simp only [canonL] at hq2
    rw [e26, e30] at hq2
    clear hq hv e26 e30
    generalize q.eval (.tmp 27) = u27 at hq2
    generalize q.eval (.tmp 28) = u28 at hq2
    generalize q.eval (.tmp 29) = u29 at hq2
    subst hq2
    clear hB hBB HE0 HA0 HB0 HR0 hbel
    skip
    go_wp2_with fail
    refine CW.out.mono ?_
    rintro r w2 ⟨a9, c9, rfl, ho9, hg9, _⟩
    have HB2 := Lib.hid (bel_gr hg9 (Nat.le_trans (Nat.le_add_right _ 3) hwl) (fun b e => by cases e))
    have HR2 := Lib.hid ((hg9.block _ (heap_lt HRE.out) (fun e => by cases e)).trans HRE.out)
    have HO2 := Lib.hid ho9
    clear hg9 CW ho9 HRE
    obtain ⟨q0, q1, q2, q3, q4⟩ := bx5 HR2.out
    have p0 := Lib.frozen_of_heap HR2.out 0
    have p1 := Lib.frozen_of_heap HR2.out 1
    have p2 := Lib.frozen_of_heap HR2.out 2
    have p3 := Lib.frozen_of_heap HR2.out 3
    have p4 := Lib.frozen_of_heap HR2.out 4
    go_wp2_with fail
    have HSC : Below w.heap.size w w2 := HBE.out.trans HB2.out
    refine bodyPost_ret (v := .agg #[.string sp, .string nm, .slice aA 0 cA, .string ⟨#[]⟩, .slice a9 1 c9]) (by simp [results, Tryz.results30, go_sem, q0, q1, q2, q3, q4]) rfl ?_
    have hfin := (HO2.out.keep (w' := (((((w2.setCell ⟨w.heap.size + 2, 0, none⟩ (.string sp)).setCell ⟨w.heap.size + 2, 1, none⟩ (.string nm)).setCell ⟨w.heap.size + 2, 2, none⟩ (.slice aA 0 cA)).setCell ⟨w.heap.size + 2, 3, none⟩ (.string ⟨#[]⟩)).setCell ⟨w.heap.size + 2, 4, none⟩ (.slice a9 1 c9))) (fun b hb => by
      have hb3 : w.heap.size + 3 ≤ b := hb.elim id fun e => (HO2.out.lt b e).1
      rw [setCell_other (by omega), setCell_other (by omega), setCell_other (by omega), setCell_other (by omega), setCell_other (by omega)])).ins
    exact ⟨_, rfl, hfin.weak fun _ _ h => Nat.le_trans (Nat.le_add_right _ 3) (h.elim id id), ((((HSC.setCell (Nat.le_succ_of_le (Nat.le_succ _)) _).setCell (Nat.le_succ_of_le (Nat.le_succ _)) _).setCell (Nat.le_succ_of_le (Nat.le_succ _)) _).setCell (Nat.le_succ_of_le (Nat.le_succ _)) _).setCell (Nat.le_succ_of_le (Nat.le_succ _)) _⟩
set_option maxRecDepth 100000 in
set_option maxHeartbeats 8000000 in
theorem fill_0 (sp nm us pw tx : ByteArray) (aA : Option Addr) (cA : Nat) (kd : Int) (w : World) (hO : ∀ M S W, Oe M S W sp nm [] [] aA cA none 0) (hs : us.size ≤ 1048576 ∧ pw.size ≤ 1048576 ∧ tx.size ≤ 1048576) (hk : kd ≠ 3 ∧ kd ≠ 2 ∧ kd ≠ 5) :
    Calls Tryz.prog 30 #[.agg #[.string sp, .string nm, .slice aA 0 cA, .string ⟨#[]⟩, .slice none 0 0], .agg #[.int .i64 kd, .string us, .string pw, .string tx]] w (ElP (.mk sp nm [] ⟨#[]⟩ ([])) w) := by
  have _hs := hs
  have n3 : ((kd : Int) == 3) = false := by rw [beq_eq_false_iff_ne]; exact hk.1
  have n2 : ((kd : Int) == 2) = false := by rw [beq_eq_false_iff_ne]; exact hk.2.1
  have n5 : ((kd : Int) == 5) = false := by rw [beq_eq_false_iff_ne]; exact hk.2.2
  have HB0 : Hid (Below w.heap.size w (((w.alloc (.cells #[.string sp, .string nm, .slice aA 0 cA, .string ⟨#[]⟩, .slice none 0 0] 30)).alloc (.cells #[.int .i64 kd, .string us, .string pw, .string tx] 23)).alloc (.cells #[.string ⟨#[]⟩, .string ⟨#[]⟩, .slice none 0 0, .string ⟨#[]⟩, .slice none 0 0] 30))) := (box3 w _ _ _ _ _ _).2.2.2.1
  have HE0 : Hid ((((w.alloc (.cells #[.string sp, .string nm, .slice aA 0 cA, .string ⟨#[]⟩, .slice none 0 0] 30)).alloc (.cells #[.int .i64 kd, .string us, .string pw, .string tx] 23)).alloc (.cells #[.string ⟨#[]⟩, .string ⟨#[]⟩, .slice none 0 0, .string ⟨#[]⟩, .slice none 0 0] 30)).heap[w.heap.size]? = some (.cells #[.string sp, .string nm, .slice aA 0 cA, .string ⟨#[]⟩, .slice none 0 0] 30 (0, 0))) := (box3 w _ _ _ _ _ _).1
  have HA0 : Hid ((((w.alloc (.cells #[.string sp, .string nm, .slice aA 0 cA, .string ⟨#[]⟩, .slice none 0 0] 30)).alloc (.cells #[.int .i64 kd, .string us, .string pw, .string tx] 23)).alloc (.cells #[.string ⟨#[]⟩, .string ⟨#[]⟩, .slice none 0 0, .string ⟨#[]⟩, .slice none 0 0] 30)).heap[w.heap.size + 1]? = some (.cells #[.int .i64 kd, .string us, .string pw, .string tx] 23 (0, 0))) := (box3 w _ _ _ _ _ _).2.1
  have HR0 : Hid ((((w.alloc (.cells #[.string sp, .string nm, .slice aA 0 cA, .string ⟨#[]⟩, .slice none 0 0] 30)).alloc (.cells #[.int .i64 kd, .string us, .string pw, .string tx] 23)).alloc (.cells #[.string ⟨#[]⟩, .string ⟨#[]⟩, .slice none 0 0, .string ⟨#[]⟩, .slice none 0 0] 30)).heap[w.heap.size + 2]? = some (.cells #[.string ⟨#[]⟩, .string ⟨#[]⟩, .slice none 0 0, .string ⟨#[]⟩, .slice none 0 0] 30 (0, 0))) := (box3 w _ _ _ _ _ _).2.2.1
  have HL0 : Hid ((((w.alloc (.cells #[.string sp, .string nm, .slice aA 0 cA, .string ⟨#[]⟩, .slice none 0 0] 30)).alloc (.cells #[.int .i64 kd, .string us, .string pw, .string tx] 23)).alloc (.cells #[.string ⟨#[]⟩, .string ⟨#[]⟩, .slice none 0 0, .string ⟨#[]⟩, .slice none 0 0] 30)).heap.size = w.heap.size + 3) := (box3 w _ _ _ _ _ _).2.2.2.2
  have HO := Lib.hid hO
  clear hO hk
  go_enter Tryz.func30, Tryz.ntmps30
  go_upto_region 8 with fail
  generalize ((w.alloc (.cells #[.string sp, .string nm, .slice aA 0 cA, .string ⟨#[]⟩, .slice none 0 0] 30)).alloc (.cells #[.int .i64 kd, .string us, .string pw, .string tx] 23)).alloc (.cells #[.string ⟨#[]⟩, .string ⟨#[]⟩, .slice none 0 0, .string ⟨#[]⟩, .slice none 0 0] 30) = W0 at HB0 HE0 HA0 HR0 HL0 ⊢
  obtain ⟨x0, x1, x2, x3, x4⟩ := bx5 HE0.out
  obtain ⟨q0, q1, q2, q3, q4⟩ := bx5 HR0.out
  have p0 := Lib.frozen_of_heap HR0.out 0
  have p1 := Lib.frozen_of_heap HR0.out 1
  have p2 := Lib.frozen_of_heap HR0.out 2
  have p3 := Lib.frozen_of_heap HR0.out 3
  have p4 := Lib.frozen_of_heap HR0.out 4
  go_wp2_with fail
  have HSC : Below w.heap.size w W0 := HB0.out
  refine bodyPost_ret (v := .agg #[.string sp, .string nm, .slice aA 0 cA, .string ⟨#[]⟩, .slice none 0 0]) (by simp [results, Tryz.results30, go_sem, q0, q1, q2, q3, q4]) rfl ?_
  exact ⟨_, rfl, ((HO.out w.heap.size (fun b => w.heap.size ≤ b) _).ins.weak fun _ _ h => h.elim id id), ((((HSC.setCell (Nat.le_succ_of_le (Nat.le_succ _)) _).setCell (Nat.le_succ_of_le (Nat.le_succ _)) _).setCell (Nat.le_succ_of_le (Nat.le_succ _)) _).setCell (Nat.le_succ_of_le (Nat.le_succ _)) _).setCell (Nat.le_succ_of_le (Nat.le_succ _)) _⟩
set_option maxRecDepth 100000 in
set_option maxHeartbeats 8000000 in
theorem fill_any (sp nm us pw tx : ByteArray) (aA : Option Addr) (cA : Nat) (kd : Int) (w : World) (hO : ∀ M S W, Oe M S W sp nm [] [] aA cA none 0) (hs : us.size ≤ 1048576 ∧ pw.size ≤ 1048576 ∧ tx.size ≤ 1048576) :
    Calls Tryz.prog 30 #[.agg #[.string sp, .string nm, .slice aA 0 cA, .string ⟨#[]⟩, .slice none 0 0], .agg #[.int .i64 kd, .string us, .string pw, .string tx]] w (ElP (.mk sp nm [] ⟨#[]⟩ ((askQ kd us pw tx).map (reS sp))) w) := by
  unfold askQ
  by_cases k3 : kd = 3
  · rw [if_pos k3]; exact fill_3 sp nm us pw tx aA cA kd w hO hs k3
  · rw [if_neg k3]
    by_cases k2 : kd = 2
    · rw [if_pos k2]; exact fill_2 sp nm us pw tx aA cA kd w hO hs k2
    · rw [if_neg k2]
      by_cases k5 : kd = 5
      · rw [if_pos k5]; exact fill_5 sp nm us pw tx aA cA kd w hO hs k5
      · rw [if_neg k5]; exact fill_0 sp nm us pw tx aA cA kd w hO hs ⟨k3, k2, k5⟩
end Go.Proofs.YtlklmoohoobjjaaGreatDoor
