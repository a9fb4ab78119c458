/- The contracts of wharfref10.Items, Hint, Name, Last. Conditions: texts of at most 300000 bytes; an int64's bounds. -/
import Derived.Test.YtlklmoohoobjjaaGreatDoorQd
import Derived.Test.YtlklmoohoobjjaaGreatDoorPl
import Derived.Test.YtlklmoohoobjjaaGreatDoorPx
import Derived.Test.YtlklmoohoobjjaaGreatDoorJp
namespace Go.Proofs.YtlklmoohoobjjaaGreatDoor
open Go.RowKit Go.Lib Go.Shelf Tg

theorem ins_store {w W : World} {Q : Nat} {E : El} {v : Value} (hi : InS (fun b => Q < b) W E v) (hb : Below w.heap.size w W) (hq : w.heap.size ≤ Q) (hr : W.heap[Q]? = some (.cells #[.string ⟨#[]⟩, .string ⟨#[]⟩, .slice none 0 0, .string ⟨#[]⟩, .slice none 0 0] 30 (0, 0))) (u0 u1 u2 u3 u4 : Value) :
    InS (fun b => w.heap.size ≤ b) (((((W.setCell ⟨Q, 0, none⟩ u0).setCell ⟨Q, 1, none⟩ u1).setCell ⟨Q, 2, none⟩ u2).setCell ⟨Q, 3, none⟩ u3).setCell ⟨Q, 4, none⟩ u4) E v ∧
    Below w.heap.size w (((((W.setCell ⟨Q, 0, none⟩ u0).setCell ⟨Q, 1, none⟩ u1).setCell ⟨Q, 2, none⟩ u2).setCell ⟨Q, 3, none⟩ u3).setCell ⟨Q, 4, none⟩ u4) := by
  obtain ⟨W3, hW3, _, q2, q3, _⟩ := st5 hr u0 u1 u2 u3 u4 rfl
  rw [← hW3]
  exact ⟨(hi.keep fun b hb _ => q2 b (by omega)).weak fun b _ hb => by omega, q3 _ _ hb hq⟩
set_option maxRecDepth 100000 in
set_option maxHeartbeats 8000000 in
theorem rItems_any (w : World) : Calls Tryz.prog 18 #[] w (ElP itemsE w) := by
  have HB0 : Hid (Below w.heap.size w (w.alloc (.cells #[.string ⟨#[]⟩, .string ⟨#[]⟩, .slice none 0 0, .string ⟨#[]⟩, .slice none 0 0] 30))) := (Below.refl _ w).alloc (Nat.le_refl _) _
  have HR0 : Hid ((w.alloc (.cells #[.string ⟨#[]⟩, .string ⟨#[]⟩, .slice none 0 0, .string ⟨#[]⟩, .slice none 0 0] 30)).heap[w.heap.size]? = some (.cells #[.string ⟨#[]⟩, .string ⟨#[]⟩, .slice none 0 0, .string ⟨#[]⟩, .slice none 0 0] 30 (0, 0))) := box_new w _ _
  go_enter Tryz.func18, Tryz.ntmps18
  go_wp2_with fail
  refine (rWith_any ⟨#[104, 116, 116, 112, 58, 47, 47, 106, 97, 98, 98, 101, 114, 46, 111, 114, 103, 47, 112, 114, 111, 116, 111, 99, 111, 108, 47, 100, 105, 115, 99, 111, 35, 105, 116, 101, 109, 115]⟩ [] none 0 _ (by decide) (by simp) (by simp) (fun i h => absurd h (Nat.not_lt_zero _))).mono ?_
  rintro r w1 ⟨v, rfl, hin0, hb⟩
  have hin : InS (fun b => w.heap.size < b) w1 itemsE v := hin0.weak fun b _ h => by simp at h; omega
  have HB1 := Lib.hid (more HB0.out (Nat.le_refl _) hb)
  have HR1 := Lib.hid ((hb.block _ (heap_lt HR0.out)).trans HR0.out)
  clear hb hin0 HB0 HR0
  obtain ⟨aA, cA, aK, cK, rfl, _⟩ := hin.toIn.out
  have HI := Lib.hid hin
  clear hin
  obtain ⟨q0, q1, q2, q3, q4⟩ := bx5 HR1.out
  have p0 := Lib.frozen_of_heap HR1.out 0
  have p1 := Lib.frozen_of_heap HR1.out 1
  have p2 := Lib.frozen_of_heap HR1.out 2
  have p3 := Lib.frozen_of_heap HR1.out 3
  have p4 := Lib.frozen_of_heap HR1.out 4
  go_wp2_with fail
  refine bodyPost_ret (v := .agg #[.string (itemsE).sp, .string (itemsE).nm, .slice aA (itemsE).atr.length cA, .string (itemsE).tx, .slice aK (itemsE).ks.length cK]) (by simp [results, Tryz.results18, go_sem, q0, q1, q2, q3, q4]) rfl ?_
  have hf := ins_store HI.out HB1.out (Nat.le_refl _) HR1.out (.string (itemsE).sp) (.string (itemsE).nm) (.slice aA (itemsE).atr.length cA) (.string (itemsE).tx) (.slice aK (itemsE).ks.length cK)
  exact ⟨_, rfl, hf.1, hf.2⟩
set_option maxRecDepth 100000 in
set_option maxHeartbeats 8000000 in
theorem rHint_any (w : World) : Calls Tryz.prog 12 #[] w (ElP hintE w) := by
  have HB0 : Hid (Below w.heap.size w ((w.alloc (.cells #[.string ⟨#[]⟩, .string ⟨#[]⟩, .slice none 0 0, .string ⟨#[]⟩, .slice none 0 0] 30)).alloc (.cells #[.string ⟨#[100, 101, 115, 99]⟩, .string ⟨#[69, 110, 116, 101, 114, 32, 116, 104, 101, 32, 115, 99, 114, 101, 101, 110, 32, 110, 97, 109, 101, 32, 111, 102, 32, 116, 104, 101, 32, 112, 101, 114, 115, 111, 110, 32, 121, 111, 117, 32, 119, 97, 110, 116, 32, 116, 111, 32, 97, 100, 100, 46]⟩, .string ⟨#[112, 114, 111, 109, 112, 116]⟩, .string ⟨#[]⟩] 9))) := ((Below.refl _ w).alloc (Nat.le_refl _) _).alloc (by simp) _
  have HR0 : Hid (((w.alloc (.cells #[.string ⟨#[]⟩, .string ⟨#[]⟩, .slice none 0 0, .string ⟨#[]⟩, .slice none 0 0] 30)).alloc (.cells #[.string ⟨#[100, 101, 115, 99]⟩, .string ⟨#[69, 110, 116, 101, 114, 32, 116, 104, 101, 32, 115, 99, 114, 101, 101, 110, 32, 110, 97, 109, 101, 32, 111, 102, 32, 116, 104, 101, 32, 112, 101, 114, 115, 111, 110, 32, 121, 111, 117, 32, 119, 97, 110, 116, 32, 116, 111, 32, 97, 100, 100, 46]⟩, .string ⟨#[112, 114, 111, 109, 112, 116]⟩, .string ⟨#[]⟩] 9)).heap[w.heap.size]? = some (.cells #[.string ⟨#[]⟩, .string ⟨#[]⟩, .slice none 0 0, .string ⟨#[]⟩, .slice none 0 0] 30 (0, 0))) := (Below.heap_alloc _ _ _ (by simp)).trans (box_new w _ _)
  have HS0 : Hid (((w.alloc (.cells #[.string ⟨#[]⟩, .string ⟨#[]⟩, .slice none 0 0, .string ⟨#[]⟩, .slice none 0 0] 30)).alloc (.cells #[.string ⟨#[100, 101, 115, 99]⟩, .string ⟨#[69, 110, 116, 101, 114, 32, 116, 104, 101, 32, 115, 99, 114, 101, 101, 110, 32, 110, 97, 109, 101, 32, 111, 102, 32, 116, 104, 101, 32, 112, 101, 114, 115, 111, 110, 32, 121, 111, 117, 32, 119, 97, 110, 116, 32, 116, 111, 32, 97, 100, 100, 46]⟩, .string ⟨#[112, 114, 111, 109, 112, 116]⟩, .string ⟨#[]⟩] 9)).heap[w.heap.size + 1]? = some (.cells #[.string ⟨#[100, 101, 115, 99]⟩, .string ⟨#[69, 110, 116, 101, 114, 32, 116, 104, 101, 32, 115, 99, 114, 101, 101, 110, 32, 110, 97, 109, 101, 32, 111, 102, 32, 116, 104, 101, 32, 112, 101, 114, 115, 111, 110, 32, 121, 111, 117, 32, 119, 97, 110, 116, 32, 116, 111, 32, 97, 100, 100, 46]⟩, .string ⟨#[112, 114, 111, 109, 112, 116]⟩, .string ⟨#[]⟩] 9 (0, 0))) := by
    have := box_new (w.alloc (.cells #[.string ⟨#[]⟩, .string ⟨#[]⟩, .slice none 0 0, .string ⟨#[]⟩, .slice none 0 0] 30)) #[.string ⟨#[100, 101, 115, 99]⟩, .string ⟨#[69, 110, 116, 101, 114, 32, 116, 104, 101, 32, 115, 99, 114, 101, 101, 110, 32, 110, 97, 109, 101, 32, 111, 102, 32, 116, 104, 101, 32, 112, 101, 114, 115, 111, 110, 32, 121, 111, 117, 32, 119, 97, 110, 116, 32, 116, 111, 32, 97, 100, 100, 46]⟩, .string ⟨#[112, 114, 111, 109, 112, 116]⟩, .string ⟨#[]⟩] 9
    show _ = _
    simpa using this
  go_enter Tryz.func12, Tryz.ntmps12
  go_wp2_with fail
  refine (rWith_any ⟨#[106, 97, 98, 98, 101, 114, 58, 105, 113, 58, 103, 97, 116, 101, 119, 97, 121]⟩ [⟨#[100, 101, 115, 99]⟩, ⟨#[69, 110, 116, 101, 114, 32, 116, 104, 101, 32, 115, 99, 114, 101, 101, 110, 32, 110, 97, 109, 101, 32, 111, 102, 32, 116, 104, 101, 32, 112, 101, 114, 115, 111, 110, 32, 121, 111, 117, 32, 119, 97, 110, 116, 32, 116, 111, 32, 97, 100, 100, 46]⟩, ⟨#[112, 114, 111, 109, 112, 116]⟩, ⟨#[]⟩] (some ⟨w.heap.size + 1, 0, none⟩) 4 _ (by decide) (by simp) (sz4 (by decide) (by decide) (by decide) (by decide)) (str_mem4 HS0.out)).mono ?_
  rintro r w1 ⟨v, rfl, hin0, hb⟩
  have hin : InS (fun b => w.heap.size < b) w1 hintE v := hin0.weak fun b _ h => by simp at h; omega
  have HB1 := Lib.hid (more HB0.out (Nat.le_refl _) hb)
  have HR1 := Lib.hid ((hb.block _ (heap_lt HR0.out)).trans HR0.out)
  clear hb hin0 HB0 HR0 HS0
  obtain ⟨aA, cA, aK, cK, rfl, _⟩ := hin.toIn.out
  have HI := Lib.hid hin
  clear hin
  obtain ⟨q0, q1, q2, q3, q4⟩ := bx5 HR1.out
  have p0 := Lib.frozen_of_heap HR1.out 0
  have p1 := Lib.frozen_of_heap HR1.out 1
  have p2 := Lib.frozen_of_heap HR1.out 2
  have p3 := Lib.frozen_of_heap HR1.out 3
  have p4 := Lib.frozen_of_heap HR1.out 4
  go_wp2_with fail
  refine bodyPost_ret (v := .agg #[.string (hintE).sp, .string (hintE).nm, .slice aA (hintE).atr.length cA, .string (hintE).tx, .slice aK (hintE).ks.length cK]) (by simp [results, Tryz.results12, go_sem, q0, q1, q2, q3, q4]) rfl ?_
  have hf := ins_store HI.out HB1.out (Nat.le_refl _) HR1.out (.string (hintE).sp) (.string (hintE).nm) (.slice aA (hintE).atr.length cA) (.string (hintE).tx) (.slice aK (hintE).ks.length cK)
  exact ⟨_, rfl, hf.1, hf.2⟩
set_option maxRecDepth 100000 in
set_option maxHeartbeats 8000000 in
theorem rLast_any (n : Int) (w : World) (h0 : -9223372036854775808 ≤ n) (h1 : n ≤ 9223372036854775807) : Calls Tryz.prog 20 #[.int .i64 n] w (ElP (lastE n) w) := by
  have hds := digits_size n h0 h1
  have HB0 : Hid (Below w.heap.size w (w.alloc (.cells #[.string ⟨#[]⟩, .string ⟨#[]⟩, .slice none 0 0, .string ⟨#[]⟩, .slice none 0 0] 30))) := (Below.refl _ w).alloc (Nat.le_refl _) _
  have HR0 : Hid ((w.alloc (.cells #[.string ⟨#[]⟩, .string ⟨#[]⟩, .slice none 0 0, .string ⟨#[]⟩, .slice none 0 0] 30)).heap[w.heap.size]? = some (.cells #[.string ⟨#[]⟩, .string ⟨#[]⟩, .slice none 0 0, .string ⟨#[]⟩, .slice none 0 0] 30 (0, 0))) := box_new w _ _
  have CD := Lib.hid (fun W => rDigits_any n W h0 h1)
  go_enter Tryz.func20, Tryz.ntmps20
  go_wp2_with fail
  refine (CD.out _).mono ?_
  rintro r w1 ⟨rfl, hb⟩
  have HB1 := Lib.hid (more HB0.out (Nat.le_refl _) hb)
  have HR1 := Lib.hid ((hb.block _ (heap_lt HR0.out)).trans HR0.out)
  clear hb HB0 HR0 CD
  have HE : Hid (lastE n = .mk ⟨#[106, 97, 98, 98, 101, 114, 58, 105, 113, 58, 108, 97, 115, 116]⟩ ⟨#[113, 117, 101, 114, 121]⟩ (newA [⟨#[115, 101, 99, 111, 110, 100, 115]⟩, digits n]) ⟨#[]⟩ []) := rfl
  generalize digits n = D at hds HE ⊢
  have hb2 : Below w1.heap.size w1 (w1.alloc (.cells #[.string ⟨#[115, 101, 99, 111, 110, 100, 115]⟩, .string D] 9)) := (Below.refl _ w1).alloc (Nat.le_refl _) _
  have HB2 := Lib.hid (more HB1.out (Nat.le_refl _) hb2)
  have HR2 := Lib.hid ((hb2.block _ (heap_lt HR1.out)).trans HR1.out)
  have HS2 := Lib.hid (box_new w1 #[.string ⟨#[115, 101, 99, 111, 110, 100, 115]⟩, .string D] 9)
  have hwl := heap_lt HR1.out
  clear hb2 HB1 HR1
  go_wp2_with fail
  refine (rNew_any ⟨#[106, 97, 98, 98, 101, 114, 58, 105, 113, 58, 108, 97, 115, 116]⟩ ⟨#[113, 117, 101, 114, 121]⟩ [⟨#[115, 101, 99, 111, 110, 100, 115]⟩, D] (some ⟨w1.heap.size, 0, none⟩) 2 _ (by decide) (by decide) (by simp) (sz2 (by decide) (by omega)) (str_mem2 HS2.out)).mono ?_
  rintro r w3 ⟨aA, cA, rfl, hin0, hb⟩
  have HI : Hid (InS (fun b => w.heap.size < b) w3 (.mk ⟨#[106, 97, 98, 98, 101, 114, 58, 105, 113, 58, 108, 97, 115, 116]⟩ ⟨#[113, 117, 101, 114, 121]⟩ (newA [⟨#[115, 101, 99, 111, 110, 100, 115]⟩, D]) ⟨#[]⟩ []) (.agg #[.string ⟨#[106, 97, 98, 98, 101, 114, 58, 105, 113, 58, 108, 97, 115, 116]⟩, .string ⟨#[113, 117, 101, 114, 121]⟩, .slice aA (newA [⟨#[115, 101, 99, 111, 110, 100, 115]⟩, D]).length cA, .string ⟨#[]⟩, .slice none 0 0])) := hin0.weak fun b _ h => by simp at h; omega
  have HB3 := Lib.hid (more HB2.out (Nat.le_refl _) hb)
  have HR3 := Lib.hid ((hb.block _ (heap_lt HR2.out)).trans HR2.out)
  clear hb hin0 HB2 HR2 HS2 hwl
  generalize newA [⟨#[115, 101, 99, 111, 110, 100, 115]⟩, D] = na at HI HE ⊢
  obtain ⟨q0, q1, q2, q3, q4⟩ := bx5 HR3.out
  have p0 := Lib.frozen_of_heap HR3.out 0
  have p1 := Lib.frozen_of_heap HR3.out 1
  have p2 := Lib.frozen_of_heap HR3.out 2
  have p3 := Lib.frozen_of_heap HR3.out 3
  have p4 := Lib.frozen_of_heap HR3.out 4
  go_wp2_with fail
  refine bodyPost_ret (v := .agg #[.string ⟨#[106, 97, 98, 98, 101, 114, 58, 105, 113, 58, 108, 97, 115, 116]⟩, .string ⟨#[113, 117, 101, 114, 121]⟩, .slice aA na.length cA, .string ⟨#[]⟩, .slice none 0 0]) (by simp [results, Tryz.results20, go_sem, q0, q1, q2, q3, q4]) rfl ?_
  have hf := ins_store HI.out HB3.out (Nat.le_refl _) HR3.out (.string ⟨#[106, 97, 98, 98, 101, 114, 58, 105, 113, 58, 108, 97, 115, 116]⟩) (.string ⟨#[113, 117, 101, 114, 121]⟩) (.slice aA na.length cA) (.string ⟨#[]⟩) (.slice none 0 0)
  rw [HE.out]
  exact ⟨_, rfl, hf.1, hf.2⟩
end Go.Proofs.YtlklmoohoobjjaaGreatDoor
