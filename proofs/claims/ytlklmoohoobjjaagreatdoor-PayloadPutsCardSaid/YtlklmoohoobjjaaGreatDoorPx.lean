/- The contracts of payload.Items, Hint, Name. Condition: texts of at most 1048576 bytes. -/
import Derived.Test.YtlklmoohoobjjaaGreatDoorPk
namespace Go.Proofs.YtlklmoohoobjjaaGreatDoor
open Go.RowKit Go.Lib Go.Shelf Tg

set_option maxRecDepth 100000 in
set_option maxHeartbeats 8000000 in
theorem items_any (w : World) : Calls Tryz.prog 17 #[] w (ElP itemsE w) := by
  have HB0 : Hid (Below w.heap.size w (w.alloc (.cells #[.string ⟨#[]⟩, .string ⟨#[]⟩, .slice none 0 0, .string ⟨#[]⟩, .slice none 0 0] 30))) := (Below.refl _ w).alloc (Nat.le_refl _) _
  have HR0 : Hid ((w.alloc (.cells #[.string ⟨#[]⟩, .string ⟨#[]⟩, .slice none 0 0, .string ⟨#[]⟩, .slice none 0 0] 30)).heap[w.heap.size]? = some (.cells #[.string ⟨#[]⟩, .string ⟨#[]⟩, .slice none 0 0, .string ⟨#[]⟩, .slice none 0 0] 30 (0, 0))) := box_new w _ _
  go_enter Tryz.func17, Tryz.ntmps17
  go_wp2_with fail
  refine (new0_any ⟨#[104, 116, 116, 112, 58, 47, 47, 106, 97, 98, 98, 101, 114, 46, 111, 114, 103, 47, 112, 114, 111, 116, 111, 99, 111, 108, 47, 100, 105, 115, 99, 111, 35, 105, 116, 101, 109, 115]⟩ ⟨#[113, 117, 101, 114, 121]⟩ _ (by decide) (by decide)).mono ?_
  rintro r w1 ⟨aA, cA, rfl, hin, hb⟩
  have HB1 := Lib.hid (more HB0.out (Nat.le_refl _) hb)
  have HR1 := Lib.hid ((hb.block _ (heap_lt HR0.out)).trans HR0.out)
  have HO := Lib.hid (fun W => Oe.bare hin (w.heap.size + 1) (fun b => w.heap.size < b) W)
  clear hb hin HB0 HR0
  simp only [newA, List.length_nil]
  have ho := HO.out w1
  have hb9 := HB1.out
  have hr9 := HR1.out
  clear HO HB1 HR1
  have HFI := Lib.hid (fun u0 u1 u2 u3 u4 => ho.fin hb9 hr9 (Nat.le_refl _) (fun b h => h) (u0 := u0) (u1 := u1) (u2 := u2) (u3 := u3) (u4 := u4))
  obtain ⟨q0, q1, q2, q3, q4⟩ := bx5 hr9
  have p0 := Lib.frozen_of_heap hr9 0
  have p1 := Lib.frozen_of_heap hr9 1
  have p2 := Lib.frozen_of_heap hr9 2
  have p3 := Lib.frozen_of_heap hr9 3
  have p4 := Lib.frozen_of_heap hr9 4
  clear ho hb9 hr9
  go_wp2_with fail
  refine bodyPost_ret (v := .agg #[.string ⟨#[104, 116, 116, 112, 58, 47, 47, 106, 97, 98, 98, 101, 114, 46, 111, 114, 103, 47, 112, 114, 111, 116, 111, 99, 111, 108, 47, 100, 105, 115, 99, 111, 35, 105, 116, 101, 109, 115]⟩, .string ⟨#[113, 117, 101, 114, 121]⟩, .slice aA 0 cA, .string ⟨#[]⟩, .slice none 0 0]) (by simp [results, Tryz.results17, go_sem, q0, q1, q2, q3, q4]) rfl ?_
  have hf := HFI.out (.string ⟨#[104, 116, 116, 112, 58, 47, 47, 106, 97, 98, 98, 101, 114, 46, 111, 114, 103, 47, 112, 114, 111, 116, 111, 99, 111, 108, 47, 100, 105, 115, 99, 111, 35, 105, 116, 101, 109, 115]⟩) (.string ⟨#[113, 117, 101, 114, 121]⟩) (.slice aA 0 cA) (.string ⟨#[]⟩) (.slice none 0 0)
  exact ⟨_, rfl, hf.1, hf.2⟩
set_option maxRecDepth 100000 in
set_option maxHeartbeats 8000000 in
theorem hint_any (w : World) : Calls Tryz.prog 11 #[] w (ElP hintE w) := by
  have HB0 : Hid (Below w.heap.size w (w.alloc (.cells #[.string ⟨#[]⟩, .string ⟨#[]⟩, .slice none 0 0, .string ⟨#[]⟩, .slice none 0 0] 30))) := (Below.refl _ w).alloc (Nat.le_refl _) _
  have HR0 : Hid ((w.alloc (.cells #[.string ⟨#[]⟩, .string ⟨#[]⟩, .slice none 0 0, .string ⟨#[]⟩, .slice none 0 0] 30)).heap[w.heap.size]? = some (.cells #[.string ⟨#[]⟩, .string ⟨#[]⟩, .slice none 0 0, .string ⟨#[]⟩, .slice none 0 0] 30 (0, 0))) := box_new w _ _
  go_enter Tryz.func11, Tryz.ntmps11
  go_wp2_with fail
  refine (new0_any ⟨#[106, 97, 98, 98, 101, 114, 58, 105, 113, 58, 103, 97, 116, 101, 119, 97, 121]⟩ ⟨#[113, 117, 101, 114, 121]⟩ _ (by decide) (by decide)).mono ?_
  rintro r w1 ⟨aA, cA, rfl, hin, hb⟩
  have HB1 := Lib.hid (more HB0.out (Nat.le_refl _) hb)
  have HR1 := Lib.hid ((hb.block _ (heap_lt HR0.out)).trans HR0.out)
  have HO := Lib.hid (fun W => Oe.bare hin (w.heap.size + 1) (fun b => w.heap.size < b) W)
  clear hb hin HB0 HR0
  simp only [newA, List.length_nil]
  go_wp2_with fail
  refine (leaf_any ⟨#[100, 101, 115, 99]⟩ ⟨#[69, 110, 116, 101, 114, 32, 116, 104, 101, 32, 115, 99, 114, 101, 101, 110, 32, 110, 97, 109, 101, 32, 111, 102, 32, 116, 104, 101, 32, 112, 101, 114, 115, 111, 110, 32, 121, 111, 117, 32, 119, 97, 110, 116, 32, 116, 111, 32, 97, 100, 100, 46]⟩ _ (by decide)).mono ?_
  rintro r w2 ⟨rfl, hb⟩
  have HB2 := Lib.hid (more HB1.out (Nat.le_refl _) hb)
  have HR2 := Lib.hid ((hb.block _ (heap_lt HR1.out)).trans HR1.out)
  clear hb HB1 HR1
  go_wp2_with fail
  refine (leaf_any ⟨#[112, 114, 111, 109, 112, 116]⟩ ⟨#[]⟩ _ (by decide)).mono ?_
  rintro r w3 ⟨rfl, hb⟩
  have HB3 := Lib.hid (more HB2.out (Nat.le_refl _) hb)
  have HR3 := Lib.hid ((hb.block _ (heap_lt HR2.out)).trans HR2.out)
  clear hb HB2 HR2
  have HB4 := Lib.hid (HB3.out.alloc HB3.out.size (.cells #[.string ⟨#[]⟩, .string ⟨#[100, 101, 115, 99]⟩, .slice none 0 0, .string ⟨#[69, 110, 116, 101, 114, 32, 116, 104, 101, 32, 115, 99, 114, 101, 101, 110, 32, 110, 97, 109, 101, 32, 111, 102, 32, 116, 104, 101, 32, 112, 101, 114, 115, 111, 110, 32, 121, 111, 117, 32, 119, 97, 110, 116, 32, 116, 111, 32, 97, 100, 100, 46]⟩, .slice none 0 0, .string ⟨#[]⟩, .string ⟨#[112, 114, 111, 109, 112, 116]⟩, .slice none 0 0, .string ⟨#[]⟩, .slice none 0 0] 30))
  have HR4 := Lib.hid ((Below.heap_alloc w3 (.cells #[.string ⟨#[]⟩, .string ⟨#[100, 101, 115, 99]⟩, .slice none 0 0, .string ⟨#[69, 110, 116, 101, 114, 32, 116, 104, 101, 32, 115, 99, 114, 101, 101, 110, 32, 110, 97, 109, 101, 32, 111, 102, 32, 116, 104, 101, 32, 112, 101, 114, 115, 111, 110, 32, 121, 111, 117, 32, 119, 97, 110, 116, 32, 116, 111, 32, 97, 100, 100, 46]⟩, .slice none 0 0, .string ⟨#[]⟩, .string ⟨#[112, 114, 111, 109, 112, 116]⟩, .slice none 0 0, .string ⟨#[]⟩, .slice none 0 0] 30) _ (heap_lt HR3.out)).trans HR3.out)
  have hQ := box_new w3 #[.string ⟨#[]⟩, .string ⟨#[100, 101, 115, 99]⟩, .slice none 0 0, .string ⟨#[69, 110, 116, 101, 114, 32, 116, 104, 101, 32, 115, 99, 114, 101, 101, 110, 32, 110, 97, 109, 101, 32, 111, 102, 32, 116, 104, 101, 32, 112, 101, 114, 115, 111, 110, 32, 121, 111, 117, 32, 119, 97, 110, 116, 32, 116, 111, 32, 97, 100, 100, 46]⟩, .slice none 0 0, .string ⟨#[]⟩, .string ⟨#[112, 114, 111, 109, 112, 116]⟩, .slice none 0 0, .string ⟨#[]⟩, .slice none 0 0] 30
  have HKS := Lib.hid (ks_2 (S := fun b => w.heap.size < b ∧ ob none 0 0 ≠ some b) hQ ⟨heap_lt HR3.out, fun e => by cases e⟩ (by decide) (by decide) (by decide) (by decide))
  have HQl : Hid (w.heap.size + 1 ≤ (w3.alloc (.cells #[.string ⟨#[]⟩, .string ⟨#[100, 101, 115, 99]⟩, .slice none 0 0, .string ⟨#[69, 110, 116, 101, 114, 32, 116, 104, 101, 32, 115, 99, 114, 101, 101, 110, 32, 110, 97, 109, 101, 32, 111, 102, 32, 116, 104, 101, 32, 112, 101, 114, 115, 111, 110, 32, 121, 111, 117, 32, 119, 97, 110, 116, 32, 116, 111, 32, 97, 100, 100, 46]⟩, .slice none 0 0, .string ⟨#[]⟩, .string ⟨#[112, 114, 111, 109, 112, 116]⟩, .slice none 0 0, .string ⟨#[]⟩, .slice none 0 0] 30)).heap.size) := by have := heap_lt HR3.out; show _ ≤ _; simp; omega
  clear hQ HB3 HR3
  go_wp2_with fail
  refine (with_any (w.heap.size + 1) (fun b => w.heap.size < b) ⟨#[106, 97, 98, 98, 101, 114, 58, 105, 113, 58, 103, 97, 116, 101, 119, 97, 121]⟩ ⟨#[113, 117, 101, 114, 121]⟩ [] [] [lf ⟨#[100, 101, 115, 99]⟩ ⟨#[69, 110, 116, 101, 114, 32, 116, 104, 101, 32, 115, 99, 114, 101, 101, 110, 32, 110, 97, 109, 101, 32, 111, 102, 32, 116, 104, 101, 32, 112, 101, 114, 115, 111, 110, 32, 121, 111, 117, 32, 119, 97, 110, 116, 32, 116, 111, 32, 97, 100, 100, 46]⟩, lf ⟨#[112, 114, 111, 109, 112, 116]⟩ ⟨#[]⟩] aA none _ cA 0 2 _ HQl.out (HO.out _) HKS.out (by simp)).mono ?_
  rintro r w5 ⟨a2, c2, rfl, ho, hg, _⟩
  have hb9 := HB4.out.grown hg HB4.out.size (fun b e => by cases e)
  have hr9 := (hg.block _ (heap_lt HR4.out) (fun e => by cases e)).trans HR4.out
  clear HO hg HB4 HR4 HKS HQl
  have HFI := Lib.hid (fun u0 u1 u2 u3 u4 => ho.fin hb9 hr9 (Nat.le_refl _) (fun b h => h) (u0 := u0) (u1 := u1) (u2 := u2) (u3 := u3) (u4 := u4))
  obtain ⟨q0, q1, q2, q3, q4⟩ := bx5 hr9
  have p0 := Lib.frozen_of_heap hr9 0
  have p1 := Lib.frozen_of_heap hr9 1
  have p2 := Lib.frozen_of_heap hr9 2
  have p3 := Lib.frozen_of_heap hr9 3
  have p4 := Lib.frozen_of_heap hr9 4
  clear ho hb9 hr9
  generalize hk9 : [] ++ [lf ⟨#[100, 101, 115, 99]⟩ ⟨#[69, 110, 116, 101, 114, 32, 116, 104, 101, 32, 115, 99, 114, 101, 101, 110, 32, 110, 97, 109, 101, 32, 111, 102, 32, 116, 104, 101, 32, 112, 101, 114, 115, 111, 110, 32, 121, 111, 117, 32, 119, 97, 110, 116, 32, 116, 111, 32, 97, 100, 100, 46]⟩, lf ⟨#[112, 114, 111, 109, 112, 116]⟩ ⟨#[]⟩].map (reS ⟨#[106, 97, 98, 98, 101, 114, 58, 105, 113, 58, 103, 97, 116, 101, 119, 97, 121]⟩) = k9 at HFI ⊢
  go_wp2_with fail
  refine bodyPost_ret (v := .agg #[.string ⟨#[106, 97, 98, 98, 101, 114, 58, 105, 113, 58, 103, 97, 116, 101, 119, 97, 121]⟩, .string ⟨#[113, 117, 101, 114, 121]⟩, .slice aA 0 cA, .string ⟨#[]⟩, .slice a2 k9.length c2]) (by simp [results, Tryz.results11, go_sem, q0, q1, q2, q3, q4]) rfl ?_
  have hf := HFI.out (.string ⟨#[106, 97, 98, 98, 101, 114, 58, 105, 113, 58, 103, 97, 116, 101, 119, 97, 121]⟩) (.string ⟨#[113, 117, 101, 114, 121]⟩) (.slice aA 0 cA) (.string ⟨#[]⟩) (.slice a2 k9.length c2)
  have hE : hintE = .mk ⟨#[106, 97, 98, 98, 101, 114, 58, 105, 113, 58, 103, 97, 116, 101, 119, 97, 121]⟩ ⟨#[113, 117, 101, 114, 121]⟩ [] ⟨#[]⟩ k9 := by rw [← hk9]; rfl
  rw [hE]
  exact ⟨_, rfl, hf.1, hf.2⟩
set_option maxRecDepth 100000 in
set_option maxHeartbeats 8000000 in
theorem name_any (n d r : ByteArray) (w : World) (h1 : n.size ≤ 1048576) (h2 : d.size ≤ 1048576) (h3 : r.size ≤ 1048576) (hp : (Jn.putB n d r).size ≤ 1048576) :
    Calls Tryz.prog 13 #[.agg #[.string n, .string d, .string r]] w (ElP (nameE (Jn.putB n d r)) w) := by
  have HB0 : Hid (Below w.heap.size w ((w.alloc (.cells #[.string n, .string d, .string r] 25)).alloc (.cells #[.string ⟨#[]⟩, .string ⟨#[]⟩, .slice none 0 0, .string ⟨#[]⟩, .slice none 0 0] 30))) := ((Below.refl _ w).alloc (Nat.le_refl _) _).alloc (by simp) _
  have HJ0 : Hid (((w.alloc (.cells #[.string n, .string d, .string r] 25)).alloc (.cells #[.string ⟨#[]⟩, .string ⟨#[]⟩, .slice none 0 0, .string ⟨#[]⟩, .slice none 0 0] 30)).heap[w.heap.size]? = some (.cells #[.string n, .string d, .string r] 25 (0, 0))) := (Below.heap_alloc _ _ _ (by simp)).trans (box_new w _ _)
  have HR0 : Hid (((w.alloc (.cells #[.string n, .string d, .string r] 25)).alloc (.cells #[.string ⟨#[]⟩, .string ⟨#[]⟩, .slice none 0 0, .string ⟨#[]⟩, .slice none 0 0] 30)).heap[w.heap.size + 1]? = some (.cells #[.string ⟨#[]⟩, .string ⟨#[]⟩, .slice none 0 0, .string ⟨#[]⟩, .slice none 0 0] 30 (0, 0))) := by
    have := box_new (w.alloc (.cells #[.string n, .string d, .string r] 25)) #[.string ⟨#[]⟩, .string ⟨#[]⟩, .slice none 0 0, .string ⟨#[]⟩, .slice none 0 0] 30
    show _ = _
    simpa using this
  go_enter Tryz.func13, Tryz.ntmps13
  go_upto_region 1 with fail
  generalize (w.alloc (.cells #[.string n, .string d, .string r] 25)).alloc (.cells #[.string ⟨#[]⟩, .string ⟨#[]⟩, .slice none 0 0, .string ⟨#[]⟩, .slice none 0 0] 30) = W0 at HB0 HJ0 HR0 ⊢
  refine region_psi 5 (fun j => [3, 4, 5, 6, 7].getD j 0) (psL [Pr.nw W0.heap.size ⟨#[106, 97, 98, 98, 101, 114, 58, 105, 113, 58, 103, 97, 116, 101, 119, 97, 121]⟩ ⟨#[113, 117, 101, 114, 121]⟩ [], Pr.eq (.agg #[.string n, .string d, .string r]), Pr.eq (.string (Jn.putB n d r)), Pr.eq (.agg #[.string ⟨#[]⟩, .string ⟨#[106, 105, 100]⟩, .slice none 0 0, .string (Jn.putB n d r), .slice none 0 0]), Pr.blk (W0.heap.size) 1 #[.string ⟨#[]⟩, .string ⟨#[106, 105, 100]⟩, .slice none 0 0, .string (Jn.putB n d r), .slice none 0 0] 30]) (by kernel_rfl) (by kernel_rfl) (by kernel_rfl) (by kernel_rfl) (by decide) (by kernel_rfl) (by kernel_rfl) (psL_mono _) ?_ ?_
  · intro i o hi ho q W hsz hout hbel hdep
    have hJW := (hbel.block _ (heap_lt HJ0.out)).trans HJ0.out
    obtain ⟨x0, x1, x2⟩ := bx3 hJW
    have hc : i = 0 ∨ i = 1 ∨ i = 2 ∨ i = 3 ∨ i = 4 := by omega
    rcases hc with rfl | rfl | rfl | rfl | rfl
    · -- 0
      cases ho
      refine gives_call (f := 31) (args := #[.string ⟨#[106, 97, 98, 98, 101, 114, 58, 105, 113, 58, 103, 97, 116, 101, 119, 97, 121]⟩, .string ⟨#[113, 117, 101, 114, 121]⟩, .slice none 0 0]) ?_ ((new0_any ⟨#[106, 97, 98, 98, 101, 114, 58, 105, 113, 58, 103, 97, 116, 101, 119, 97, 121]⟩ ⟨#[113, 117, 101, 114, 121]⟩ W (by decide) (by decide)).mono ?_)
      · unfold execOp
        dsimp only
        simp only [resolve, List.map_toArray, List.map_cons, List.map_nil]
        go_simp
      · rintro e W' ⟨a, c, rfl, hin, hb⟩
        exact ⟨_, rfl, hb, a, c, rfl, hin.weak fun _ _ h => Nat.le_trans hbel.size h⟩
    · -- 1
      cases ho
      have e1 : q.eval (.tmp 1) = .pointer (some ⟨w.heap.size, 0, none⟩) := (hout 1 (by decide)).trans rfl
      refine gives_read (v := .agg #[.string n, .string d, .string r]) ?_ rfl
      unfold execOp
      dsimp only
      rw [e1]
      go_simp
    · -- 2
      cases ho
      have e4 : q.eval (.tmp 4) = .agg #[.string n, .string d, .string r] := hdep ⟨1, .data⟩ (by simp) rfl (by decide)
      refine gives_call (f := 35) (args := #[.agg #[.string n, .string d, .string r]]) ?_ ((Jn.put_any n d r W h1 h2 h3).mono ?_)
      · unfold execOp
        dsimp only
        simp only [resolve, List.map_toArray, List.map_cons, List.map_nil, e4]
        go_simp
      · rintro e W' ⟨rfl, hb⟩
        exact ⟨_, rfl, hb, rfl⟩
    · -- 3
      cases ho
      have e5 : q.eval (.tmp 5) = .string (Jn.putB n d r) := hdep ⟨2, .data⟩ (by simp) rfl (by decide)
      refine gives_call (f := 34) (args := #[.string ⟨#[106, 105, 100]⟩, .string (Jn.putB n d r)]) ?_ ((leaf_any ⟨#[106, 105, 100]⟩ (Jn.putB n d r) W hp).mono ?_)
      · unfold execOp
        dsimp only
        simp only [resolve, List.map_toArray, List.map_cons, List.map_nil, e5]
        go_simp
      · rintro e W' ⟨rfl, hb⟩
        exact ⟨_, rfl, hb, rfl⟩
    · -- 4
      cases ho
      have e6 : q.eval (.tmp 6) = .agg #[.string ⟨#[]⟩, .string ⟨#[106, 105, 100]⟩, .slice none 0 0, .string (Jn.putB n d r), .slice none 0 0] := hdep ⟨3, .data⟩ (by simp) rfl (by decide)
      refine gives_run (W' := W.alloc (.cells #[.string ⟨#[]⟩, .string ⟨#[106, 105, 100]⟩, .slice none 0 0, .string (Jn.putB n d r), .slice none 0 0] 30)) (v := .slice (some ⟨W.heap.size, 0, none⟩) 1 1) ?_ ((Below.refl _ W).alloc (Nat.le_refl _) _) (blk_new (by have := hbel.size; omega))
      unfold execOp
      dsimp only
      simp only [List.map_toArray, List.map_cons, List.map_nil, e6]
      go_simp
  · intro q W hq hbel hv
    obtain ⟨aA, cA, e3, hin⟩ : ∃ aA cA, q.eval (.tmp 3) = .agg #[.string ⟨#[106, 97, 98, 98, 101, 114, 58, 105, 113, 58, 103, 97, 116, 101, 119, 97, 121]⟩, .string ⟨#[113, 117, 101, 114, 121]⟩, .slice aA 0 cA, .string ⟨#[]⟩, .slice none 0 0] ∧ InS (fun b => W0.heap.size ≤ b) W (.mk ⟨#[106, 97, 98, 98, 101, 114, 58, 105, 113, 58, 103, 97, 116, 101, 119, 97, 121]⟩ ⟨#[113, 117, 101, 114, 121]⟩ [] ⟨#[]⟩ []) (q.eval (.tmp 3)) := hv 0 (by decide)
    rw [e3] at hin
    have HO := Lib.hid (fun W => Oe.bare hin (w.heap.size + 1 + 1) (fun b => w.heap.size + 1 < b) W)
    obtain ⟨B, e7, hB, hBB⟩ : ∃ B, q.eval (.tmp 7) = .slice (some ⟨B, 0, none⟩) 1 1 ∧ W0.heap.size ≤ B ∧ W.heap[B]? = some (.cells #[.string ⟨#[]⟩, .string ⟨#[106, 105, 100]⟩, .slice none 0 0, .string (Jn.putB n d r), .slice none 0 0] 30 (0, 0)) := hv 4 (by decide)
    have HBW := Lib.hid (HB0.out.trans (hbel.mono HB0.out.size))
    have HRW := Lib.hid ((hbel.block _ (heap_lt HR0.out)).trans HR0.out)
    have hwl : w.heap.size + 1 < W0.heap.size := heap_lt HR0.out
    have CW := Lib.hid (with_any (w.heap.size + 1 + 1) (fun b => w.heap.size + 1 < b) ⟨#[106, 97, 98, 98, 101, 114, 58, 105, 113, 58, 103, 97, 116, 101, 119, 97, 121]⟩ ⟨#[113, 117, 101, 114, 121]⟩ [] [] [lf ⟨#[106, 105, 100]⟩ (Jn.putB n d r)] aA none (some ⟨B, 0, none⟩) cA 0 1 W (heap_lt HRW.out) (HO.out _) (ks_1 hBB ⟨by omega, fun e => by cases e⟩ (by decide) hp) (by simp))
    have hq2 : q = canonL q [3, 4, 5, 6, 7] _ := hq
    simp only [canonL] at hq2
    rw [e3, e7] at hq2
    clear hq hv e3 e7
    generalize q.eval (.tmp 4) = u4 at hq2
    generalize q.eval (.tmp 5) = u5 at hq2
    generalize q.eval (.tmp 6) = u6 at hq2
    subst hq2
    clear hB hBB hin HO hbel HB0 HR0 HJ0
    go_wp2_with fail
    refine CW.out.mono ?_
    rintro r w5 ⟨a2, c2, rfl, ho, hg, _⟩
    have hb9 := HBW.out.grown hg HBW.out.size (fun b e => by cases e)
    have hr9 := (hg.block _ (heap_lt HRW.out) (fun e => by cases e)).trans HRW.out
    clear CW hg HBW HRW
    have HFI := Lib.hid (fun u0 u1 u2 u3 u4 => ho.fin hb9 hr9 (Nat.le_succ _) (fun b h => h) (u0 := u0) (u1 := u1) (u2 := u2) (u3 := u3) (u4 := u4))
    obtain ⟨q0, q1, q2, q3, q4⟩ := bx5 hr9
    have p0 := Lib.frozen_of_heap hr9 0
    have p1 := Lib.frozen_of_heap hr9 1
    have p2 := Lib.frozen_of_heap hr9 2
    have p3 := Lib.frozen_of_heap hr9 3
    have p4 := Lib.frozen_of_heap hr9 4
    clear ho hb9 hr9
    generalize hk9 : [] ++ [lf ⟨#[106, 105, 100]⟩ (Jn.putB n d r)].map (reS ⟨#[106, 97, 98, 98, 101, 114, 58, 105, 113, 58, 103, 97, 116, 101, 119, 97, 121]⟩) = k9 at HFI ⊢
    go_wp2_with fail
    refine bodyPost_ret (v := .agg #[.string ⟨#[106, 97, 98, 98, 101, 114, 58, 105, 113, 58, 103, 97, 116, 101, 119, 97, 121]⟩, .string ⟨#[113, 117, 101, 114, 121]⟩, .slice aA 0 cA, .string ⟨#[]⟩, .slice a2 k9.length c2]) (by simp [results, Tryz.results13, go_sem, q0, q1, q2, q3, q4]) rfl ?_
    have hf := HFI.out (.string ⟨#[106, 97, 98, 98, 101, 114, 58, 105, 113, 58, 103, 97, 116, 101, 119, 97, 121]⟩) (.string ⟨#[113, 117, 101, 114, 121]⟩) (.slice aA 0 cA) (.string ⟨#[]⟩) (.slice a2 k9.length c2)
    have hE : nameE (Jn.putB n d r) = .mk ⟨#[106, 97, 98, 98, 101, 114, 58, 105, 113, 58, 103, 97, 116, 101, 119, 97, 121]⟩ ⟨#[113, 117, 101, 114, 121]⟩ [] ⟨#[]⟩ k9 := by rw [← hk9]; rfl
    rw [hE]
    exact ⟨_, rfl, hf.1, hf.2⟩
end Go.Proofs.YtlklmoohoobjjaaGreatDoor
