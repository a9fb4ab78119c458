/- The contracts of wharfref10.Put (all kinds) and Name. Conditions: texts of at most 1048576 bytes. -/
import Derived.Test.YtlklmoohoobjjaaGreatDoorQf
namespace Go.Proofs.YtlklmoohoobjjaaGreatDoor
open Go.RowKit Go.Lib Go.Shelf Tg

set_option maxRecDepth 100000 in
set_option maxHeartbeats 8000000 in
theorem rput_no (kd : Int) (us pw tx : ByteArray) (w : World) (hk : ¬ (1 ≤ kd ∧ kd ≤ 8)) : Calls Tryz.prog 7 #[.agg #[.int .i64 kd, .string us, .string pw, .string tx]] w (RPut kd us pw tx w) := by
  have HE : Hid (askE kd us pw tx = .mk ⟨#[]⟩ ⟨#[]⟩ [] ⟨#[]⟩ []) := by show _ = _; unfold askE; rw [if_neg hk]
  have HK : Hid (askK kd = ⟨#[]⟩) := by
    show _ = _
    unfold askK
    repeat' split
    all_goals first | rfl | omega
  have n1 : ¬ kd = 1 := by omega
  have n2 : ¬ kd = 2 := by omega
  have n3 : ¬ kd = 3 := by omega
  have n4 : ¬ kd = 4 := by omega
  have n5 : ¬ kd = 5 := by omega
  have n6 : ¬ kd = 6 := by omega
  have n7 : ¬ kd = 7 := by omega
  have n8 : ¬ kd = 8 := by omega
  have m1 : (kd == 1) = false := beq_eq_false_iff_ne.2 n1
  have m2 : (kd == 2) = false := beq_eq_false_iff_ne.2 n2
  have m3 : (kd == 3) = false := beq_eq_false_iff_ne.2 n3
  have m4 : (kd == 4) = false := beq_eq_false_iff_ne.2 n4
  have m5 : (kd == 5) = false := beq_eq_false_iff_ne.2 n5
  have m6 : (kd == 6) = false := beq_eq_false_iff_ne.2 n6
  have m7 : (kd == 7) = false := beq_eq_false_iff_ne.2 n7
  have m8 : (kd == 8) = false := beq_eq_false_iff_ne.2 n8
  clear hk n1 n2 n3 n4 n5 n6 n7 n8
  have HB0 : Hid (Below w.heap.size w ((w.alloc (.cells #[.int .i64 kd, .string us, .string pw, .string tx] 23)).alloc (.cells #[.string ⟨#[]⟩, .string ⟨#[]⟩, .slice none 0 0, .string ⟨#[]⟩, .slice none 0 0] 30))) := ((Below.refl _ w).alloc (Nat.le_refl _) _).alloc (by simp) _
  have HX0 : Hid (((w.alloc (.cells #[.int .i64 kd, .string us, .string pw, .string tx] 23)).alloc (.cells #[.string ⟨#[]⟩, .string ⟨#[]⟩, .slice none 0 0, .string ⟨#[]⟩, .slice none 0 0] 30)).heap[w.heap.size]? = some (.cells #[.int .i64 kd, .string us, .string pw, .string tx] 23 (0, 0))) := (Below.heap_alloc _ _ _ (by simp)).trans (box_new w _ _)
  have HR0 : Hid (((w.alloc (.cells #[.int .i64 kd, .string us, .string pw, .string tx] 23)).alloc (.cells #[.string ⟨#[]⟩, .string ⟨#[]⟩, .slice none 0 0, .string ⟨#[]⟩, .slice none 0 0] 30)).heap[w.heap.size + 1]? = some (.cells #[.string ⟨#[]⟩, .string ⟨#[]⟩, .slice none 0 0, .string ⟨#[]⟩, .slice none 0 0] 30 (0, 0))) := by
    have := box_new (w.alloc (.cells #[.int .i64 kd, .string us, .string pw, .string tx] 23)) #[.string ⟨#[]⟩, .string ⟨#[]⟩, .slice none 0 0, .string ⟨#[]⟩, .slice none 0 0] 30
    show _ = _
    simpa using this
  go_enter Tryz.func7, Tryz.ntmps7
  go_upto_region 1 with fail
  generalize ((w.alloc (.cells #[.int .i64 kd, .string us, .string pw, .string tx] 23)).alloc (.cells #[.string ⟨#[]⟩, .string ⟨#[]⟩, .slice none 0 0, .string ⟨#[]⟩, .slice none 0 0] 30)) = W0 at HB0 HX0 HR0 ⊢
  obtain ⟨x0, x1, x2, x3⟩ := bx4 HX0.out
  have hwl := heap_lt HR0.out
  have HI : Hid (InS (fun b => w.heap.size + 1 < b) W0 (.mk ⟨#[]⟩ ⟨#[]⟩ [] ⟨#[]⟩ []) (.agg #[.string ⟨#[]⟩, .string ⟨#[]⟩, .slice none 0 0, .string ⟨#[]⟩, .slice none 0 0])) := ins_leaf _ _ _ _ _ (by decide) (by decide) (by decide)
  obtain ⟨q0, q1, q2, q3, q4⟩ := bx5 HR0.out
  have p0 := Lib.frozen_of_heap HR0.out 0
  have p1 := Lib.frozen_of_heap HR0.out 1
  have p2 := Lib.frozen_of_heap HR0.out 2
  have p3 := Lib.frozen_of_heap HR0.out 3
  have p4 := Lib.frozen_of_heap HR0.out 4
  go_wp2_with fail
  refine bodyPost_ret (v := .tuple #[.string ⟨#[]⟩, .agg #[.string ⟨#[]⟩, .string ⟨#[]⟩, .slice none 0 0, .string ⟨#[]⟩, .slice none 0 0]]) (by simp [results, Tryz.results7, go_sem, q0, q1, q2, q3, q4]) rfl ?_
  have hf := ins_store HI.out HB0.out (Nat.le_succ _) HR0.out (.string ⟨#[]⟩) (.string ⟨#[]⟩) (.slice none 0 0) (.string ⟨#[]⟩) (.slice none 0 0)
  rw [← HE.out] at hf
  exact ⟨_, by rw [HK.out], hf.1, hf.2⟩
theorem rPut10_any (kd : Int) (us pw tx : ByteArray) (w : World) (hs : us.size ≤ 1048576 ∧ pw.size ≤ 1048576 ∧ tx.size ≤ 1048576) : Calls Tryz.prog 7 #[.agg #[.int .i64 kd, .string us, .string pw, .string tx]] w (RPut kd us pw tx w) := by
  by_cases hk : 1 ≤ kd ∧ kd ≤ 8
  · have hc : kd = 1 ∨ kd = 2 ∨ kd = 3 ∨ kd = 4 ∨ kd = 5 ∨ kd = 6 ∨ kd = 7 ∨ kd = 8 := by omega
    rcases hc with rfl | rfl | rfl | rfl | rfl | rfl | rfl | rfl
    · exact rput_1 us pw tx w hs
    · exact rput_2 us pw tx w hs
    · exact rput_3 us pw tx w hs
    · exact rput_4 us pw tx w hs
    · exact rput_5 us pw tx w hs
    · exact rput_6 us pw tx w hs
    · exact rput_7 us pw tx w hs
    · exact rput_8 us pw tx w hs
  · exact rput_no kd us pw tx w hk
end Go.Proofs.YtlklmoohoobjjaaGreatDoor
