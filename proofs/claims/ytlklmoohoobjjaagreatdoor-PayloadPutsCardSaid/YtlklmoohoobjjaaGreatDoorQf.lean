/- The contracts of wharfref10.Put and Name. Conditions: texts of at most 1048576 bytes. -/
import Derived.Test.YtlklmoohoobjjaaGreatDoorQe
import Derived.Test.YtlklmoohoobjjaaGreatDoorPh
namespace Go.Proofs.YtlklmoohoobjjaaGreatDoor
open Go.RowKit Go.Lib Go.Shelf Tg

/-- What Put gives. -/
def RPut (kd : Int) (us pw tx : ByteArray) (w : World) (r : Ending) (w' : World) : Prop := ∃ v, r = .returned (.tuple #[.string (askK kd), v]) ∧ InS (fun b => w.heap.size ≤ b) w' (askE kd us pw tx) v ∧ Below w.heap.size w w'
set_option maxRecDepth 100000 in
set_option maxHeartbeats 8000000 in
theorem rput_1 (us pw tx : ByteArray) (w : World) (hs : us.size ≤ 1048576 ∧ pw.size ≤ 1048576 ∧ tx.size ≤ 1048576) : Calls Tryz.prog 7 #[.agg #[.int .i64 1, .string us, .string pw, .string tx]] w (RPut 1 us pw tx w) := by
  have HE : Hid (askE 1 us pw tx = withE ⟨#[106, 97, 98, 98, 101, 114, 58, 105, 113, 58, 114, 101, 103, 105, 115, 116, 101, 114]⟩ []) := by show _ = _; unfold askE; rw [if_pos (by decide)]; rfl
  have HS := Lib.hid hs
  clear hs
  have HB0 : Hid (Below w.heap.size w ((w.alloc (.cells #[.int .i64 1, .string us, .string pw, .string tx] 23)).alloc (.cells #[.string ⟨#[]⟩, .string ⟨#[]⟩, .slice none 0 0, .string ⟨#[]⟩, .slice none 0 0] 30))) := ((Below.refl _ w).alloc (Nat.le_refl _) _).alloc (by simp) _
  have HX0 : Hid (((w.alloc (.cells #[.int .i64 1, .string us, .string pw, .string tx] 23)).alloc (.cells #[.string ⟨#[]⟩, .string ⟨#[]⟩, .slice none 0 0, .string ⟨#[]⟩, .slice none 0 0] 30)).heap[w.heap.size]? = some (.cells #[.int .i64 1, .string us, .string pw, .string tx] 23 (0, 0))) := (Below.heap_alloc _ _ _ (by simp)).trans (box_new w _ _)
  have HR0 : Hid (((w.alloc (.cells #[.int .i64 1, .string us, .string pw, .string tx] 23)).alloc (.cells #[.string ⟨#[]⟩, .string ⟨#[]⟩, .slice none 0 0, .string ⟨#[]⟩, .slice none 0 0] 30)).heap[w.heap.size + 1]? = some (.cells #[.string ⟨#[]⟩, .string ⟨#[]⟩, .slice none 0 0, .string ⟨#[]⟩, .slice none 0 0] 30 (0, 0))) := by
    have := box_new (w.alloc (.cells #[.int .i64 1, .string us, .string pw, .string tx] 23)) #[.string ⟨#[]⟩, .string ⟨#[]⟩, .slice none 0 0, .string ⟨#[]⟩, .slice none 0 0] 30
    show _ = _
    simpa using this
  go_enter Tryz.func7, Tryz.ntmps7
  go_upto_region 1 with fail
  generalize ((w.alloc (.cells #[.int .i64 1, .string us, .string pw, .string tx] 23)).alloc (.cells #[.string ⟨#[]⟩, .string ⟨#[]⟩, .slice none 0 0, .string ⟨#[]⟩, .slice none 0 0] 30)) = W0 at HB0 HX0 HR0 ⊢
  obtain ⟨x0, x1, x2, x3⟩ := bx4 HX0.out
  have hwl := heap_lt HR0.out
  have HB1 := HB0
  have HR1 := HR0
  go_wp2_with fail
  refine (rWith_any ⟨#[106, 97, 98, 98, 101, 114, 58, 105, 113, 58, 114, 101, 103, 105, 115, 116, 101, 114]⟩ [] none 0 _ (by decide) (by simp) (by simp) (fun i h => absurd h (Nat.not_lt_zero _))).mono ?_
  rintro r w1 ⟨v, rfl, hin0, hb⟩
  have HI : Hid (InS (fun b => w.heap.size + 1 < b) w1 (withE ⟨#[106, 97, 98, 98, 101, 114, 58, 105, 113, 58, 114, 101, 103, 105, 115, 116, 101, 114]⟩ []) v) := hin0.weak fun b _ h => by first | omega | (simp at h; omega)
  have HB2 := Lib.hid (more HB1.out (Nat.le_refl _) hb)
  have HR2 := Lib.hid ((hb.block _ (heap_lt HR1.out)).trans HR1.out)
  obtain ⟨aA, cA, aK, cK, rfl, _⟩ := HI.out.toIn.out
  clear hb hin0 HB0 HR0 HX0 HB1 HR1 x0 x1 x2 x3 hwl
  obtain ⟨q0, q1, q2, q3, q4⟩ := bx5 HR2.out
  have p0 := Lib.frozen_of_heap HR2.out 0
  have p1 := Lib.frozen_of_heap HR2.out 1
  have p2 := Lib.frozen_of_heap HR2.out 2
  have p3 := Lib.frozen_of_heap HR2.out 3
  have p4 := Lib.frozen_of_heap HR2.out 4
  go_wp2_with fail
  refine bodyPost_ret (v := .tuple #[.string (askK 1), .agg #[.string (withE ⟨#[106, 97, 98, 98, 101, 114, 58, 105, 113, 58, 114, 101, 103, 105, 115, 116, 101, 114]⟩ []).sp, .string (withE ⟨#[106, 97, 98, 98, 101, 114, 58, 105, 113, 58, 114, 101, 103, 105, 115, 116, 101, 114]⟩ []).nm, .slice aA (withE ⟨#[106, 97, 98, 98, 101, 114, 58, 105, 113, 58, 114, 101, 103, 105, 115, 116, 101, 114]⟩ []).atr.length cA, .string (withE ⟨#[106, 97, 98, 98, 101, 114, 58, 105, 113, 58, 114, 101, 103, 105, 115, 116, 101, 114]⟩ []).tx, .slice aK (withE ⟨#[106, 97, 98, 98, 101, 114, 58, 105, 113, 58, 114, 101, 103, 105, 115, 116, 101, 114]⟩ []).ks.length cK]]) (by simp [results, Tryz.results7, go_sem, q0, q1, q2, q3, q4, askK]) rfl ?_
  have hf := ins_store HI.out HB2.out (Nat.le_succ _) HR2.out (.string (withE ⟨#[106, 97, 98, 98, 101, 114, 58, 105, 113, 58, 114, 101, 103, 105, 115, 116, 101, 114]⟩ []).sp) (.string (withE ⟨#[106, 97, 98, 98, 101, 114, 58, 105, 113, 58, 114, 101, 103, 105, 115, 116, 101, 114]⟩ []).nm) (.slice aA (withE ⟨#[106, 97, 98, 98, 101, 114, 58, 105, 113, 58, 114, 101, 103, 105, 115, 116, 101, 114]⟩ []).atr.length cA) (.string (withE ⟨#[106, 97, 98, 98, 101, 114, 58, 105, 113, 58, 114, 101, 103, 105, 115, 116, 101, 114]⟩ []).tx) (.slice aK (withE ⟨#[106, 97, 98, 98, 101, 114, 58, 105, 113, 58, 114, 101, 103, 105, 115, 116, 101, 114]⟩ []).ks.length cK)
  rw [← HE.out] at hf
  exact ⟨_, rfl, hf.1, hf.2⟩
set_option maxRecDepth 100000 in
set_option maxHeartbeats 8000000 in
theorem rput_2 (us pw tx : ByteArray) (w : World) (hs : us.size ≤ 1048576 ∧ pw.size ≤ 1048576 ∧ tx.size ≤ 1048576) : Calls Tryz.prog 7 #[.agg #[.int .i64 2, .string us, .string pw, .string tx]] w (RPut 2 us pw tx w) := by
  have HE : Hid (askE 2 us pw tx = withE ⟨#[106, 97, 98, 98, 101, 114, 58, 105, 113, 58, 114, 101, 103, 105, 115, 116, 101, 114]⟩ [⟨#[117, 115, 101, 114, 110, 97, 109, 101]⟩, us, ⟨#[112, 97, 115, 115, 119, 111, 114, 100]⟩, pw]) := by show _ = _; unfold askE; rw [if_pos (by decide)]; rfl
  have HS := Lib.hid hs
  clear hs
  have HB0 : Hid (Below w.heap.size w ((w.alloc (.cells #[.int .i64 2, .string us, .string pw, .string tx] 23)).alloc (.cells #[.string ⟨#[]⟩, .string ⟨#[]⟩, .slice none 0 0, .string ⟨#[]⟩, .slice none 0 0] 30))) := ((Below.refl _ w).alloc (Nat.le_refl _) _).alloc (by simp) _
  have HX0 : Hid (((w.alloc (.cells #[.int .i64 2, .string us, .string pw, .string tx] 23)).alloc (.cells #[.string ⟨#[]⟩, .string ⟨#[]⟩, .slice none 0 0, .string ⟨#[]⟩, .slice none 0 0] 30)).heap[w.heap.size]? = some (.cells #[.int .i64 2, .string us, .string pw, .string tx] 23 (0, 0))) := (Below.heap_alloc _ _ _ (by simp)).trans (box_new w _ _)
  have HR0 : Hid (((w.alloc (.cells #[.int .i64 2, .string us, .string pw, .string tx] 23)).alloc (.cells #[.string ⟨#[]⟩, .string ⟨#[]⟩, .slice none 0 0, .string ⟨#[]⟩, .slice none 0 0] 30)).heap[w.heap.size + 1]? = some (.cells #[.string ⟨#[]⟩, .string ⟨#[]⟩, .slice none 0 0, .string ⟨#[]⟩, .slice none 0 0] 30 (0, 0))) := by
    have := box_new (w.alloc (.cells #[.int .i64 2, .string us, .string pw, .string tx] 23)) #[.string ⟨#[]⟩, .string ⟨#[]⟩, .slice none 0 0, .string ⟨#[]⟩, .slice none 0 0] 30
    show _ = _
    simpa using this
  go_enter Tryz.func7, Tryz.ntmps7
  go_upto_region 1 with fail
  generalize ((w.alloc (.cells #[.int .i64 2, .string us, .string pw, .string tx] 23)).alloc (.cells #[.string ⟨#[]⟩, .string ⟨#[]⟩, .slice none 0 0, .string ⟨#[]⟩, .slice none 0 0] 30)) = W0 at HB0 HX0 HR0 ⊢
  obtain ⟨x0, x1, x2, x3⟩ := bx4 HX0.out
  have hwl := heap_lt HR0.out
  have hb0 : Below W0.heap.size W0 (W0.alloc (.cells #[.string ⟨#[117, 115, 101, 114, 110, 97, 109, 101]⟩, .string us, .string ⟨#[112, 97, 115, 115, 119, 111, 114, 100]⟩, .string pw] 9)) := (Below.refl _ W0).alloc (Nat.le_refl _) _
  have HB1 := Lib.hid (more HB0.out (Nat.le_refl _) hb0)
  have HR1 := Lib.hid ((hb0.block _ (heap_lt HR0.out)).trans HR0.out)
  clear hb0
  go_wp2_with fail
  refine (rWith_any ⟨#[106, 97, 98, 98, 101, 114, 58, 105, 113, 58, 114, 101, 103, 105, 115, 116, 101, 114]⟩ [⟨#[117, 115, 101, 114, 110, 97, 109, 101]⟩, us, ⟨#[112, 97, 115, 115, 119, 111, 114, 100]⟩, pw] (some ⟨W0.heap.size, 0, none⟩) 4 _ (by decide) (by simp) (sz4 (by decide) HS.out.1 (by decide) HS.out.2.1) (str_mem4 (box_new W0 _ _))).mono ?_
  rintro r w1 ⟨v, rfl, hin0, hb⟩
  have HI : Hid (InS (fun b => w.heap.size + 1 < b) w1 (withE ⟨#[106, 97, 98, 98, 101, 114, 58, 105, 113, 58, 114, 101, 103, 105, 115, 116, 101, 114]⟩ [⟨#[117, 115, 101, 114, 110, 97, 109, 101]⟩, us, ⟨#[112, 97, 115, 115, 119, 111, 114, 100]⟩, pw]) v) := hin0.weak fun b _ h => by first | omega | (simp at h; omega)
  have HB2 := Lib.hid (more HB1.out (Nat.le_refl _) hb)
  have HR2 := Lib.hid ((hb.block _ (heap_lt HR1.out)).trans HR1.out)
  obtain ⟨aA, cA, aK, cK, rfl, _⟩ := HI.out.toIn.out
  clear hb hin0 HB0 HR0 HX0 HB1 HR1 x0 x1 x2 x3 hwl
  obtain ⟨q0, q1, q2, q3, q4⟩ := bx5 HR2.out
  have p0 := Lib.frozen_of_heap HR2.out 0
  have p1 := Lib.frozen_of_heap HR2.out 1
  have p2 := Lib.frozen_of_heap HR2.out 2
  have p3 := Lib.frozen_of_heap HR2.out 3
  have p4 := Lib.frozen_of_heap HR2.out 4
  go_wp2_with fail
  refine bodyPost_ret (v := .tuple #[.string (askK 2), .agg #[.string (withE ⟨#[106, 97, 98, 98, 101, 114, 58, 105, 113, 58, 114, 101, 103, 105, 115, 116, 101, 114]⟩ [⟨#[117, 115, 101, 114, 110, 97, 109, 101]⟩, us, ⟨#[112, 97, 115, 115, 119, 111, 114, 100]⟩, pw]).sp, .string (withE ⟨#[106, 97, 98, 98, 101, 114, 58, 105, 113, 58, 114, 101, 103, 105, 115, 116, 101, 114]⟩ [⟨#[117, 115, 101, 114, 110, 97, 109, 101]⟩, us, ⟨#[112, 97, 115, 115, 119, 111, 114, 100]⟩, pw]).nm, .slice aA (withE ⟨#[106, 97, 98, 98, 101, 114, 58, 105, 113, 58, 114, 101, 103, 105, 115, 116, 101, 114]⟩ [⟨#[117, 115, 101, 114, 110, 97, 109, 101]⟩, us, ⟨#[112, 97, 115, 115, 119, 111, 114, 100]⟩, pw]).atr.length cA, .string (withE ⟨#[106, 97, 98, 98, 101, 114, 58, 105, 113, 58, 114, 101, 103, 105, 115, 116, 101, 114]⟩ [⟨#[117, 115, 101, 114, 110, 97, 109, 101]⟩, us, ⟨#[112, 97, 115, 115, 119, 111, 114, 100]⟩, pw]).tx, .slice aK (withE ⟨#[106, 97, 98, 98, 101, 114, 58, 105, 113, 58, 114, 101, 103, 105, 115, 116, 101, 114]⟩ [⟨#[117, 115, 101, 114, 110, 97, 109, 101]⟩, us, ⟨#[112, 97, 115, 115, 119, 111, 114, 100]⟩, pw]).ks.length cK]]) (by simp [results, Tryz.results7, go_sem, q0, q1, q2, q3, q4, askK]) rfl ?_
  have hf := ins_store HI.out HB2.out (Nat.le_succ _) HR2.out (.string (withE ⟨#[106, 97, 98, 98, 101, 114, 58, 105, 113, 58, 114, 101, 103, 105, 115, 116, 101, 114]⟩ [⟨#[117, 115, 101, 114, 110, 97, 109, 101]⟩, us, ⟨#[112, 97, 115, 115, 119, 111, 114, 100]⟩, pw]).sp) (.string (withE ⟨#[106, 97, 98, 98, 101, 114, 58, 105, 113, 58, 114, 101, 103, 105, 115, 116, 101, 114]⟩ [⟨#[117, 115, 101, 114, 110, 97, 109, 101]⟩, us, ⟨#[112, 97, 115, 115, 119, 111, 114, 100]⟩, pw]).nm) (.slice aA (withE ⟨#[106, 97, 98, 98, 101, 114, 58, 105, 113, 58, 114, 101, 103, 105, 115, 116, 101, 114]⟩ [⟨#[117, 115, 101, 114, 110, 97, 109, 101]⟩, us, ⟨#[112, 97, 115, 115, 119, 111, 114, 100]⟩, pw]).atr.length cA) (.string (withE ⟨#[106, 97, 98, 98, 101, 114, 58, 105, 113, 58, 114, 101, 103, 105, 115, 116, 101, 114]⟩ [⟨#[117, 115, 101, 114, 110, 97, 109, 101]⟩, us, ⟨#[112, 97, 115, 115, 119, 111, 114, 100]⟩, pw]).tx) (.slice aK (withE ⟨#[106, 97, 98, 98, 101, 114, 58, 105, 113, 58, 114, 101, 103, 105, 115, 116, 101, 114]⟩ [⟨#[117, 115, 101, 114, 110, 97, 109, 101]⟩, us, ⟨#[112, 97, 115, 115, 119, 111, 114, 100]⟩, pw]).ks.length cK)
  rw [← HE.out] at hf
  exact ⟨_, rfl, hf.1, hf.2⟩
set_option maxRecDepth 100000 in
set_option maxHeartbeats 8000000 in
theorem rput_3 (us pw tx : ByteArray) (w : World) (hs : us.size ≤ 1048576 ∧ pw.size ≤ 1048576 ∧ tx.size ≤ 1048576) : Calls Tryz.prog 7 #[.agg #[.int .i64 3, .string us, .string pw, .string tx]] w (RPut 3 us pw tx w) := by
  have HE : Hid (askE 3 us pw tx = withE ⟨#[106, 97, 98, 98, 101, 114, 58, 105, 113, 58, 114, 101, 103, 105, 115, 116, 101, 114]⟩ [⟨#[114, 101, 109, 111, 118, 101]⟩, ⟨#[]⟩]) := by show _ = _; unfold askE; rw [if_pos (by decide)]; rfl
  have HS := Lib.hid hs
  clear hs
  have HB0 : Hid (Below w.heap.size w ((w.alloc (.cells #[.int .i64 3, .string us, .string pw, .string tx] 23)).alloc (.cells #[.string ⟨#[]⟩, .string ⟨#[]⟩, .slice none 0 0, .string ⟨#[]⟩, .slice none 0 0] 30))) := ((Below.refl _ w).alloc (Nat.le_refl _) _).alloc (by simp) _
  have HX0 : Hid (((w.alloc (.cells #[.int .i64 3, .string us, .string pw, .string tx] 23)).alloc (.cells #[.string ⟨#[]⟩, .string ⟨#[]⟩, .slice none 0 0, .string ⟨#[]⟩, .slice none 0 0] 30)).heap[w.heap.size]? = some (.cells #[.int .i64 3, .string us, .string pw, .string tx] 23 (0, 0))) := (Below.heap_alloc _ _ _ (by simp)).trans (box_new w _ _)
  have HR0 : Hid (((w.alloc (.cells #[.int .i64 3, .string us, .string pw, .string tx] 23)).alloc (.cells #[.string ⟨#[]⟩, .string ⟨#[]⟩, .slice none 0 0, .string ⟨#[]⟩, .slice none 0 0] 30)).heap[w.heap.size + 1]? = some (.cells #[.string ⟨#[]⟩, .string ⟨#[]⟩, .slice none 0 0, .string ⟨#[]⟩, .slice none 0 0] 30 (0, 0))) := by
    have := box_new (w.alloc (.cells #[.int .i64 3, .string us, .string pw, .string tx] 23)) #[.string ⟨#[]⟩, .string ⟨#[]⟩, .slice none 0 0, .string ⟨#[]⟩, .slice none 0 0] 30
    show _ = _
    simpa using this
  go_enter Tryz.func7, Tryz.ntmps7
  go_upto_region 1 with fail
  generalize ((w.alloc (.cells #[.int .i64 3, .string us, .string pw, .string tx] 23)).alloc (.cells #[.string ⟨#[]⟩, .string ⟨#[]⟩, .slice none 0 0, .string ⟨#[]⟩, .slice none 0 0] 30)) = W0 at HB0 HX0 HR0 ⊢
  obtain ⟨x0, x1, x2, x3⟩ := bx4 HX0.out
  have hwl := heap_lt HR0.out
  have hb0 : Below W0.heap.size W0 (W0.alloc (.cells #[.string ⟨#[114, 101, 109, 111, 118, 101]⟩, .string ⟨#[]⟩] 9)) := (Below.refl _ W0).alloc (Nat.le_refl _) _
  have HB1 := Lib.hid (more HB0.out (Nat.le_refl _) hb0)
  have HR1 := Lib.hid ((hb0.block _ (heap_lt HR0.out)).trans HR0.out)
  clear hb0
  go_wp2_with fail
  refine (rWith_any ⟨#[106, 97, 98, 98, 101, 114, 58, 105, 113, 58, 114, 101, 103, 105, 115, 116, 101, 114]⟩ [⟨#[114, 101, 109, 111, 118, 101]⟩, ⟨#[]⟩] (some ⟨W0.heap.size, 0, none⟩) 2 _ (by decide) (by simp) (sz2 (by decide) (by decide)) (str_mem2 (box_new W0 _ _))).mono ?_
  rintro r w1 ⟨v, rfl, hin0, hb⟩
  have HI : Hid (InS (fun b => w.heap.size + 1 < b) w1 (withE ⟨#[106, 97, 98, 98, 101, 114, 58, 105, 113, 58, 114, 101, 103, 105, 115, 116, 101, 114]⟩ [⟨#[114, 101, 109, 111, 118, 101]⟩, ⟨#[]⟩]) v) := hin0.weak fun b _ h => by first | omega | (simp at h; omega)
  have HB2 := Lib.hid (more HB1.out (Nat.le_refl _) hb)
  have HR2 := Lib.hid ((hb.block _ (heap_lt HR1.out)).trans HR1.out)
  obtain ⟨aA, cA, aK, cK, rfl, _⟩ := HI.out.toIn.out
  clear hb hin0 HB0 HR0 HX0 HB1 HR1 x0 x1 x2 x3 hwl
  obtain ⟨q0, q1, q2, q3, q4⟩ := bx5 HR2.out
  have p0 := Lib.frozen_of_heap HR2.out 0
  have p1 := Lib.frozen_of_heap HR2.out 1
  have p2 := Lib.frozen_of_heap HR2.out 2
  have p3 := Lib.frozen_of_heap HR2.out 3
  have p4 := Lib.frozen_of_heap HR2.out 4
  go_wp2_with fail
  refine bodyPost_ret (v := .tuple #[.string (askK 3), .agg #[.string (withE ⟨#[106, 97, 98, 98, 101, 114, 58, 105, 113, 58, 114, 101, 103, 105, 115, 116, 101, 114]⟩ [⟨#[114, 101, 109, 111, 118, 101]⟩, ⟨#[]⟩]).sp, .string (withE ⟨#[106, 97, 98, 98, 101, 114, 58, 105, 113, 58, 114, 101, 103, 105, 115, 116, 101, 114]⟩ [⟨#[114, 101, 109, 111, 118, 101]⟩, ⟨#[]⟩]).nm, .slice aA (withE ⟨#[106, 97, 98, 98, 101, 114, 58, 105, 113, 58, 114, 101, 103, 105, 115, 116, 101, 114]⟩ [⟨#[114, 101, 109, 111, 118, 101]⟩, ⟨#[]⟩]).atr.length cA, .string (withE ⟨#[106, 97, 98, 98, 101, 114, 58, 105, 113, 58, 114, 101, 103, 105, 115, 116, 101, 114]⟩ [⟨#[114, 101, 109, 111, 118, 101]⟩, ⟨#[]⟩]).tx, .slice aK (withE ⟨#[106, 97, 98, 98, 101, 114, 58, 105, 113, 58, 114, 101, 103, 105, 115, 116, 101, 114]⟩ [⟨#[114, 101, 109, 111, 118, 101]⟩, ⟨#[]⟩]).ks.length cK]]) (by simp [results, Tryz.results7, go_sem, q0, q1, q2, q3, q4, askK]) rfl ?_
  have hf := ins_store HI.out HB2.out (Nat.le_succ _) HR2.out (.string (withE ⟨#[106, 97, 98, 98, 101, 114, 58, 105, 113, 58, 114, 101, 103, 105, 115, 116, 101, 114]⟩ [⟨#[114, 101, 109, 111, 118, 101]⟩, ⟨#[]⟩]).sp) (.string (withE ⟨#[106, 97, 98, 98, 101, 114, 58, 105, 113, 58, 114, 101, 103, 105, 115, 116, 101, 114]⟩ [⟨#[114, 101, 109, 111, 118, 101]⟩, ⟨#[]⟩]).nm) (.slice aA (withE ⟨#[106, 97, 98, 98, 101, 114, 58, 105, 113, 58, 114, 101, 103, 105, 115, 116, 101, 114]⟩ [⟨#[114, 101, 109, 111, 118, 101]⟩, ⟨#[]⟩]).atr.length cA) (.string (withE ⟨#[106, 97, 98, 98, 101, 114, 58, 105, 113, 58, 114, 101, 103, 105, 115, 116, 101, 114]⟩ [⟨#[114, 101, 109, 111, 118, 101]⟩, ⟨#[]⟩]).tx) (.slice aK (withE ⟨#[106, 97, 98, 98, 101, 114, 58, 105, 113, 58, 114, 101, 103, 105, 115, 116, 101, 114]⟩ [⟨#[114, 101, 109, 111, 118, 101]⟩, ⟨#[]⟩]).ks.length cK)
  rw [← HE.out] at hf
  exact ⟨_, rfl, hf.1, hf.2⟩
set_option maxRecDepth 100000 in
set_option maxHeartbeats 8000000 in
theorem rput_4 (us pw tx : ByteArray) (w : World) (hs : us.size ≤ 1048576 ∧ pw.size ≤ 1048576 ∧ tx.size ≤ 1048576) : Calls Tryz.prog 7 #[.agg #[.int .i64 4, .string us, .string pw, .string tx]] w (RPut 4 us pw tx w) := by
  have HE : Hid (askE 4 us pw tx = withE ⟨#[106, 97, 98, 98, 101, 114, 58, 105, 113, 58, 103, 97, 116, 101, 119, 97, 121]⟩ []) := by show _ = _; unfold askE; rw [if_pos (by decide)]; rfl
  have HS := Lib.hid hs
  clear hs
  have HB0 : Hid (Below w.heap.size w ((w.alloc (.cells #[.int .i64 4, .string us, .string pw, .string tx] 23)).alloc (.cells #[.string ⟨#[]⟩, .string ⟨#[]⟩, .slice none 0 0, .string ⟨#[]⟩, .slice none 0 0] 30))) := ((Below.refl _ w).alloc (Nat.le_refl _) _).alloc (by simp) _
  have HX0 : Hid (((w.alloc (.cells #[.int .i64 4, .string us, .string pw, .string tx] 23)).alloc (.cells #[.string ⟨#[]⟩, .string ⟨#[]⟩, .slice none 0 0, .string ⟨#[]⟩, .slice none 0 0] 30)).heap[w.heap.size]? = some (.cells #[.int .i64 4, .string us, .string pw, .string tx] 23 (0, 0))) := (Below.heap_alloc _ _ _ (by simp)).trans (box_new w _ _)
  have HR0 : Hid (((w.alloc (.cells #[.int .i64 4, .string us, .string pw, .string tx] 23)).alloc (.cells #[.string ⟨#[]⟩, .string ⟨#[]⟩, .slice none 0 0, .string ⟨#[]⟩, .slice none 0 0] 30)).heap[w.heap.size + 1]? = some (.cells #[.string ⟨#[]⟩, .string ⟨#[]⟩, .slice none 0 0, .string ⟨#[]⟩, .slice none 0 0] 30 (0, 0))) := by
    have := box_new (w.alloc (.cells #[.int .i64 4, .string us, .string pw, .string tx] 23)) #[.string ⟨#[]⟩, .string ⟨#[]⟩, .slice none 0 0, .string ⟨#[]⟩, .slice none 0 0] 30
    show _ = _
    simpa using this
  go_enter Tryz.func7, Tryz.ntmps7
  go_upto_region 1 with fail
  generalize ((w.alloc (.cells #[.int .i64 4, .string us, .string pw, .string tx] 23)).alloc (.cells #[.string ⟨#[]⟩, .string ⟨#[]⟩, .slice none 0 0, .string ⟨#[]⟩, .slice none 0 0] 30)) = W0 at HB0 HX0 HR0 ⊢
  obtain ⟨x0, x1, x2, x3⟩ := bx4 HX0.out
  have hwl := heap_lt HR0.out
  have HB1 := HB0
  have HR1 := HR0
  go_wp2_with fail
  refine (rWith_any ⟨#[106, 97, 98, 98, 101, 114, 58, 105, 113, 58, 103, 97, 116, 101, 119, 97, 121]⟩ [] none 0 _ (by decide) (by simp) (by simp) (fun i h => absurd h (Nat.not_lt_zero _))).mono ?_
  rintro r w1 ⟨v, rfl, hin0, hb⟩
  have HI : Hid (InS (fun b => w.heap.size + 1 < b) w1 (withE ⟨#[106, 97, 98, 98, 101, 114, 58, 105, 113, 58, 103, 97, 116, 101, 119, 97, 121]⟩ []) v) := hin0.weak fun b _ h => by first | omega | (simp at h; omega)
  have HB2 := Lib.hid (more HB1.out (Nat.le_refl _) hb)
  have HR2 := Lib.hid ((hb.block _ (heap_lt HR1.out)).trans HR1.out)
  obtain ⟨aA, cA, aK, cK, rfl, _⟩ := HI.out.toIn.out
  clear hb hin0 HB0 HR0 HX0 HB1 HR1 x0 x1 x2 x3 hwl
  obtain ⟨q0, q1, q2, q3, q4⟩ := bx5 HR2.out
  have p0 := Lib.frozen_of_heap HR2.out 0
  have p1 := Lib.frozen_of_heap HR2.out 1
  have p2 := Lib.frozen_of_heap HR2.out 2
  have p3 := Lib.frozen_of_heap HR2.out 3
  have p4 := Lib.frozen_of_heap HR2.out 4
  go_wp2_with fail
  refine bodyPost_ret (v := .tuple #[.string (askK 4), .agg #[.string (withE ⟨#[106, 97, 98, 98, 101, 114, 58, 105, 113, 58, 103, 97, 116, 101, 119, 97, 121]⟩ []).sp, .string (withE ⟨#[106, 97, 98, 98, 101, 114, 58, 105, 113, 58, 103, 97, 116, 101, 119, 97, 121]⟩ []).nm, .slice aA (withE ⟨#[106, 97, 98, 98, 101, 114, 58, 105, 113, 58, 103, 97, 116, 101, 119, 97, 121]⟩ []).atr.length cA, .string (withE ⟨#[106, 97, 98, 98, 101, 114, 58, 105, 113, 58, 103, 97, 116, 101, 119, 97, 121]⟩ []).tx, .slice aK (withE ⟨#[106, 97, 98, 98, 101, 114, 58, 105, 113, 58, 103, 97, 116, 101, 119, 97, 121]⟩ []).ks.length cK]]) (by simp [results, Tryz.results7, go_sem, q0, q1, q2, q3, q4, askK]) rfl ?_
  have hf := ins_store HI.out HB2.out (Nat.le_succ _) HR2.out (.string (withE ⟨#[106, 97, 98, 98, 101, 114, 58, 105, 113, 58, 103, 97, 116, 101, 119, 97, 121]⟩ []).sp) (.string (withE ⟨#[106, 97, 98, 98, 101, 114, 58, 105, 113, 58, 103, 97, 116, 101, 119, 97, 121]⟩ []).nm) (.slice aA (withE ⟨#[106, 97, 98, 98, 101, 114, 58, 105, 113, 58, 103, 97, 116, 101, 119, 97, 121]⟩ []).atr.length cA) (.string (withE ⟨#[106, 97, 98, 98, 101, 114, 58, 105, 113, 58, 103, 97, 116, 101, 119, 97, 121]⟩ []).tx) (.slice aK (withE ⟨#[106, 97, 98, 98, 101, 114, 58, 105, 113, 58, 103, 97, 116, 101, 119, 97, 121]⟩ []).ks.length cK)
  rw [← HE.out] at hf
  exact ⟨_, rfl, hf.1, hf.2⟩
set_option maxRecDepth 100000 in
set_option maxHeartbeats 8000000 in
theorem rput_5 (us pw tx : ByteArray) (w : World) (hs : us.size ≤ 1048576 ∧ pw.size ≤ 1048576 ∧ tx.size ≤ 1048576) : Calls Tryz.prog 7 #[.agg #[.int .i64 5, .string us, .string pw, .string tx]] w (RPut 5 us pw tx w) := by
  have HE : Hid (askE 5 us pw tx = withE ⟨#[106, 97, 98, 98, 101, 114, 58, 105, 113, 58, 103, 97, 116, 101, 119, 97, 121]⟩ [⟨#[112, 114, 111, 109, 112, 116]⟩, tx]) := by show _ = _; unfold askE; rw [if_pos (by decide)]; rfl
  have HS := Lib.hid hs
  clear hs
  have HB0 : Hid (Below w.heap.size w ((w.alloc (.cells #[.int .i64 5, .string us, .string pw, .string tx] 23)).alloc (.cells #[.string ⟨#[]⟩, .string ⟨#[]⟩, .slice none 0 0, .string ⟨#[]⟩, .slice none 0 0] 30))) := ((Below.refl _ w).alloc (Nat.le_refl _) _).alloc (by simp) _
  have HX0 : Hid (((w.alloc (.cells #[.int .i64 5, .string us, .string pw, .string tx] 23)).alloc (.cells #[.string ⟨#[]⟩, .string ⟨#[]⟩, .slice none 0 0, .string ⟨#[]⟩, .slice none 0 0] 30)).heap[w.heap.size]? = some (.cells #[.int .i64 5, .string us, .string pw, .string tx] 23 (0, 0))) := (Below.heap_alloc _ _ _ (by simp)).trans (box_new w _ _)
  have HR0 : Hid (((w.alloc (.cells #[.int .i64 5, .string us, .string pw, .string tx] 23)).alloc (.cells #[.string ⟨#[]⟩, .string ⟨#[]⟩, .slice none 0 0, .string ⟨#[]⟩, .slice none 0 0] 30)).heap[w.heap.size + 1]? = some (.cells #[.string ⟨#[]⟩, .string ⟨#[]⟩, .slice none 0 0, .string ⟨#[]⟩, .slice none 0 0] 30 (0, 0))) := by
    have := box_new (w.alloc (.cells #[.int .i64 5, .string us, .string pw, .string tx] 23)) #[.string ⟨#[]⟩, .string ⟨#[]⟩, .slice none 0 0, .string ⟨#[]⟩, .slice none 0 0] 30
    show _ = _
    simpa using this
  go_enter Tryz.func7, Tryz.ntmps7
  go_upto_region 1 with fail
  generalize ((w.alloc (.cells #[.int .i64 5, .string us, .string pw, .string tx] 23)).alloc (.cells #[.string ⟨#[]⟩, .string ⟨#[]⟩, .slice none 0 0, .string ⟨#[]⟩, .slice none 0 0] 30)) = W0 at HB0 HX0 HR0 ⊢
  obtain ⟨x0, x1, x2, x3⟩ := bx4 HX0.out
  have hwl := heap_lt HR0.out
  have hb0 : Below W0.heap.size W0 (W0.alloc (.cells #[.string ⟨#[112, 114, 111, 109, 112, 116]⟩, .string tx] 9)) := (Below.refl _ W0).alloc (Nat.le_refl _) _
  have HB1 := Lib.hid (more HB0.out (Nat.le_refl _) hb0)
  have HR1 := Lib.hid ((hb0.block _ (heap_lt HR0.out)).trans HR0.out)
  clear hb0
  go_wp2_with fail
  refine (rWith_any ⟨#[106, 97, 98, 98, 101, 114, 58, 105, 113, 58, 103, 97, 116, 101, 119, 97, 121]⟩ [⟨#[112, 114, 111, 109, 112, 116]⟩, tx] (some ⟨W0.heap.size, 0, none⟩) 2 _ (by decide) (by simp) (sz2 (by decide) HS.out.2.2) (str_mem2 (box_new W0 _ _))).mono ?_
  rintro r w1 ⟨v, rfl, hin0, hb⟩
  have HI : Hid (InS (fun b => w.heap.size + 1 < b) w1 (withE ⟨#[106, 97, 98, 98, 101, 114, 58, 105, 113, 58, 103, 97, 116, 101, 119, 97, 121]⟩ [⟨#[112, 114, 111, 109, 112, 116]⟩, tx]) v) := hin0.weak fun b _ h => by first | omega | (simp at h; omega)
  have HB2 := Lib.hid (more HB1.out (Nat.le_refl _) hb)
  have HR2 := Lib.hid ((hb.block _ (heap_lt HR1.out)).trans HR1.out)
  obtain ⟨aA, cA, aK, cK, rfl, _⟩ := HI.out.toIn.out
  clear hb hin0 HB0 HR0 HX0 HB1 HR1 x0 x1 x2 x3 hwl
  obtain ⟨q0, q1, q2, q3, q4⟩ := bx5 HR2.out
  have p0 := Lib.frozen_of_heap HR2.out 0
  have p1 := Lib.frozen_of_heap HR2.out 1
  have p2 := Lib.frozen_of_heap HR2.out 2
  have p3 := Lib.frozen_of_heap HR2.out 3
  have p4 := Lib.frozen_of_heap HR2.out 4
  go_wp2_with fail
  refine bodyPost_ret (v := .tuple #[.string (askK 5), .agg #[.string (withE ⟨#[106, 97, 98, 98, 101, 114, 58, 105, 113, 58, 103, 97, 116, 101, 119, 97, 121]⟩ [⟨#[112, 114, 111, 109, 112, 116]⟩, tx]).sp, .string (withE ⟨#[106, 97, 98, 98, 101, 114, 58, 105, 113, 58, 103, 97, 116, 101, 119, 97, 121]⟩ [⟨#[112, 114, 111, 109, 112, 116]⟩, tx]).nm, .slice aA (withE ⟨#[106, 97, 98, 98, 101, 114, 58, 105, 113, 58, 103, 97, 116, 101, 119, 97, 121]⟩ [⟨#[112, 114, 111, 109, 112, 116]⟩, tx]).atr.length cA, .string (withE ⟨#[106, 97, 98, 98, 101, 114, 58, 105, 113, 58, 103, 97, 116, 101, 119, 97, 121]⟩ [⟨#[112, 114, 111, 109, 112, 116]⟩, tx]).tx, .slice aK (withE ⟨#[106, 97, 98, 98, 101, 114, 58, 105, 113, 58, 103, 97, 116, 101, 119, 97, 121]⟩ [⟨#[112, 114, 111, 109, 112, 116]⟩, tx]).ks.length cK]]) (by simp [results, Tryz.results7, go_sem, q0, q1, q2, q3, q4, askK]) rfl ?_
  have hf := ins_store HI.out HB2.out (Nat.le_succ _) HR2.out (.string (withE ⟨#[106, 97, 98, 98, 101, 114, 58, 105, 113, 58, 103, 97, 116, 101, 119, 97, 121]⟩ [⟨#[112, 114, 111, 109, 112, 116]⟩, tx]).sp) (.string (withE ⟨#[106, 97, 98, 98, 101, 114, 58, 105, 113, 58, 103, 97, 116, 101, 119, 97, 121]⟩ [⟨#[112, 114, 111, 109, 112, 116]⟩, tx]).nm) (.slice aA (withE ⟨#[106, 97, 98, 98, 101, 114, 58, 105, 113, 58, 103, 97, 116, 101, 119, 97, 121]⟩ [⟨#[112, 114, 111, 109, 112, 116]⟩, tx]).atr.length cA) (.string (withE ⟨#[106, 97, 98, 98, 101, 114, 58, 105, 113, 58, 103, 97, 116, 101, 119, 97, 121]⟩ [⟨#[112, 114, 111, 109, 112, 116]⟩, tx]).tx) (.slice aK (withE ⟨#[106, 97, 98, 98, 101, 114, 58, 105, 113, 58, 103, 97, 116, 101, 119, 97, 121]⟩ [⟨#[112, 114, 111, 109, 112, 116]⟩, tx]).ks.length cK)
  rw [← HE.out] at hf
  exact ⟨_, rfl, hf.1, hf.2⟩
set_option maxRecDepth 100000 in
set_option maxHeartbeats 8000000 in
theorem rput_6 (us pw tx : ByteArray) (w : World) (hs : us.size ≤ 1048576 ∧ pw.size ≤ 1048576 ∧ tx.size ≤ 1048576) : Calls Tryz.prog 7 #[.agg #[.int .i64 6, .string us, .string pw, .string tx]] w (RPut 6 us pw tx w) := by
  have HE : Hid (askE 6 us pw tx = withE ⟨#[104, 116, 116, 112, 58, 47, 47, 106, 97, 98, 98, 101, 114, 46, 111, 114, 103, 47, 112, 114, 111, 116, 111, 99, 111, 108, 47, 100, 105, 115, 99, 111, 35, 105, 110, 102, 111]⟩ []) := by show _ = _; unfold askE; rw [if_pos (by decide)]; rfl
  have HS := Lib.hid hs
  clear hs
  have HB0 : Hid (Below w.heap.size w ((w.alloc (.cells #[.int .i64 6, .string us, .string pw, .string tx] 23)).alloc (.cells #[.string ⟨#[]⟩, .string ⟨#[]⟩, .slice none 0 0, .string ⟨#[]⟩, .slice none 0 0] 30))) := ((Below.refl _ w).alloc (Nat.le_refl _) _).alloc (by simp) _
  have HX0 : Hid (((w.alloc (.cells #[.int .i64 6, .string us, .string pw, .string tx] 23)).alloc (.cells #[.string ⟨#[]⟩, .string ⟨#[]⟩, .slice none 0 0, .string ⟨#[]⟩, .slice none 0 0] 30)).heap[w.heap.size]? = some (.cells #[.int .i64 6, .string us, .string pw, .string tx] 23 (0, 0))) := (Below.heap_alloc _ _ _ (by simp)).trans (box_new w _ _)
  have HR0 : Hid (((w.alloc (.cells #[.int .i64 6, .string us, .string pw, .string tx] 23)).alloc (.cells #[.string ⟨#[]⟩, .string ⟨#[]⟩, .slice none 0 0, .string ⟨#[]⟩, .slice none 0 0] 30)).heap[w.heap.size + 1]? = some (.cells #[.string ⟨#[]⟩, .string ⟨#[]⟩, .slice none 0 0, .string ⟨#[]⟩, .slice none 0 0] 30 (0, 0))) := by
    have := box_new (w.alloc (.cells #[.int .i64 6, .string us, .string pw, .string tx] 23)) #[.string ⟨#[]⟩, .string ⟨#[]⟩, .slice none 0 0, .string ⟨#[]⟩, .slice none 0 0] 30
    show _ = _
    simpa using this
  go_enter Tryz.func7, Tryz.ntmps7
  go_upto_region 1 with fail
  generalize ((w.alloc (.cells #[.int .i64 6, .string us, .string pw, .string tx] 23)).alloc (.cells #[.string ⟨#[]⟩, .string ⟨#[]⟩, .slice none 0 0, .string ⟨#[]⟩, .slice none 0 0] 30)) = W0 at HB0 HX0 HR0 ⊢
  obtain ⟨x0, x1, x2, x3⟩ := bx4 HX0.out
  have hwl := heap_lt HR0.out
  have HB1 := HB0
  have HR1 := HR0
  go_wp2_with fail
  refine (rWith_any ⟨#[104, 116, 116, 112, 58, 47, 47, 106, 97, 98, 98, 101, 114, 46, 111, 114, 103, 47, 112, 114, 111, 116, 111, 99, 111, 108, 47, 100, 105, 115, 99, 111, 35, 105, 110, 102, 111]⟩ [] none 0 _ (by decide) (by simp) (by simp) (fun i h => absurd h (Nat.not_lt_zero _))).mono ?_
  rintro r w1 ⟨v, rfl, hin0, hb⟩
  have HI : Hid (InS (fun b => w.heap.size + 1 < b) w1 (withE ⟨#[104, 116, 116, 112, 58, 47, 47, 106, 97, 98, 98, 101, 114, 46, 111, 114, 103, 47, 112, 114, 111, 116, 111, 99, 111, 108, 47, 100, 105, 115, 99, 111, 35, 105, 110, 102, 111]⟩ []) v) := hin0.weak fun b _ h => by first | omega | (simp at h; omega)
  have HB2 := Lib.hid (more HB1.out (Nat.le_refl _) hb)
  have HR2 := Lib.hid ((hb.block _ (heap_lt HR1.out)).trans HR1.out)
  obtain ⟨aA, cA, aK, cK, rfl, _⟩ := HI.out.toIn.out
  clear hb hin0 HB0 HR0 HX0 HB1 HR1 x0 x1 x2 x3 hwl
  obtain ⟨q0, q1, q2, q3, q4⟩ := bx5 HR2.out
  have p0 := Lib.frozen_of_heap HR2.out 0
  have p1 := Lib.frozen_of_heap HR2.out 1
  have p2 := Lib.frozen_of_heap HR2.out 2
  have p3 := Lib.frozen_of_heap HR2.out 3
  have p4 := Lib.frozen_of_heap HR2.out 4
  go_wp2_with fail
  refine bodyPost_ret (v := .tuple #[.string (askK 6), .agg #[.string (withE ⟨#[104, 116, 116, 112, 58, 47, 47, 106, 97, 98, 98, 101, 114, 46, 111, 114, 103, 47, 112, 114, 111, 116, 111, 99, 111, 108, 47, 100, 105, 115, 99, 111, 35, 105, 110, 102, 111]⟩ []).sp, .string (withE ⟨#[104, 116, 116, 112, 58, 47, 47, 106, 97, 98, 98, 101, 114, 46, 111, 114, 103, 47, 112, 114, 111, 116, 111, 99, 111, 108, 47, 100, 105, 115, 99, 111, 35, 105, 110, 102, 111]⟩ []).nm, .slice aA (withE ⟨#[104, 116, 116, 112, 58, 47, 47, 106, 97, 98, 98, 101, 114, 46, 111, 114, 103, 47, 112, 114, 111, 116, 111, 99, 111, 108, 47, 100, 105, 115, 99, 111, 35, 105, 110, 102, 111]⟩ []).atr.length cA, .string (withE ⟨#[104, 116, 116, 112, 58, 47, 47, 106, 97, 98, 98, 101, 114, 46, 111, 114, 103, 47, 112, 114, 111, 116, 111, 99, 111, 108, 47, 100, 105, 115, 99, 111, 35, 105, 110, 102, 111]⟩ []).tx, .slice aK (withE ⟨#[104, 116, 116, 112, 58, 47, 47, 106, 97, 98, 98, 101, 114, 46, 111, 114, 103, 47, 112, 114, 111, 116, 111, 99, 111, 108, 47, 100, 105, 115, 99, 111, 35, 105, 110, 102, 111]⟩ []).ks.length cK]]) (by simp [results, Tryz.results7, go_sem, q0, q1, q2, q3, q4, askK]) rfl ?_
  have hf := ins_store HI.out HB2.out (Nat.le_succ _) HR2.out (.string (withE ⟨#[104, 116, 116, 112, 58, 47, 47, 106, 97, 98, 98, 101, 114, 46, 111, 114, 103, 47, 112, 114, 111, 116, 111, 99, 111, 108, 47, 100, 105, 115, 99, 111, 35, 105, 110, 102, 111]⟩ []).sp) (.string (withE ⟨#[104, 116, 116, 112, 58, 47, 47, 106, 97, 98, 98, 101, 114, 46, 111, 114, 103, 47, 112, 114, 111, 116, 111, 99, 111, 108, 47, 100, 105, 115, 99, 111, 35, 105, 110, 102, 111]⟩ []).nm) (.slice aA (withE ⟨#[104, 116, 116, 112, 58, 47, 47, 106, 97, 98, 98, 101, 114, 46, 111, 114, 103, 47, 112, 114, 111, 116, 111, 99, 111, 108, 47, 100, 105, 115, 99, 111, 35, 105, 110, 102, 111]⟩ []).atr.length cA) (.string (withE ⟨#[104, 116, 116, 112, 58, 47, 47, 106, 97, 98, 98, 101, 114, 46, 111, 114, 103, 47, 112, 114, 111, 116, 111, 99, 111, 108, 47, 100, 105, 115, 99, 111, 35, 105, 110, 102, 111]⟩ []).tx) (.slice aK (withE ⟨#[104, 116, 116, 112, 58, 47, 47, 106, 97, 98, 98, 101, 114, 46, 111, 114, 103, 47, 112, 114, 111, 116, 111, 99, 111, 108, 47, 100, 105, 115, 99, 111, 35, 105, 110, 102, 111]⟩ []).ks.length cK)
  rw [← HE.out] at hf
  exact ⟨_, rfl, hf.1, hf.2⟩
set_option maxRecDepth 100000 in
set_option maxHeartbeats 8000000 in
theorem rput_7 (us pw tx : ByteArray) (w : World) (hs : us.size ≤ 1048576 ∧ pw.size ≤ 1048576 ∧ tx.size ≤ 1048576) : Calls Tryz.prog 7 #[.agg #[.int .i64 7, .string us, .string pw, .string tx]] w (RPut 7 us pw tx w) := by
  have HE : Hid (askE 7 us pw tx = withE ⟨#[104, 116, 116, 112, 58, 47, 47, 106, 97, 98, 98, 101, 114, 46, 111, 114, 103, 47, 112, 114, 111, 116, 111, 99, 111, 108, 47, 100, 105, 115, 99, 111, 35, 105, 116, 101, 109, 115]⟩ []) := by show _ = _; unfold askE; rw [if_pos (by decide)]; rfl
  have HS := Lib.hid hs
  clear hs
  have HB0 : Hid (Below w.heap.size w ((w.alloc (.cells #[.int .i64 7, .string us, .string pw, .string tx] 23)).alloc (.cells #[.string ⟨#[]⟩, .string ⟨#[]⟩, .slice none 0 0, .string ⟨#[]⟩, .slice none 0 0] 30))) := ((Below.refl _ w).alloc (Nat.le_refl _) _).alloc (by simp) _
  have HX0 : Hid (((w.alloc (.cells #[.int .i64 7, .string us, .string pw, .string tx] 23)).alloc (.cells #[.string ⟨#[]⟩, .string ⟨#[]⟩, .slice none 0 0, .string ⟨#[]⟩, .slice none 0 0] 30)).heap[w.heap.size]? = some (.cells #[.int .i64 7, .string us, .string pw, .string tx] 23 (0, 0))) := (Below.heap_alloc _ _ _ (by simp)).trans (box_new w _ _)
  have HR0 : Hid (((w.alloc (.cells #[.int .i64 7, .string us, .string pw, .string tx] 23)).alloc (.cells #[.string ⟨#[]⟩, .string ⟨#[]⟩, .slice none 0 0, .string ⟨#[]⟩, .slice none 0 0] 30)).heap[w.heap.size + 1]? = some (.cells #[.string ⟨#[]⟩, .string ⟨#[]⟩, .slice none 0 0, .string ⟨#[]⟩, .slice none 0 0] 30 (0, 0))) := by
    have := box_new (w.alloc (.cells #[.int .i64 7, .string us, .string pw, .string tx] 23)) #[.string ⟨#[]⟩, .string ⟨#[]⟩, .slice none 0 0, .string ⟨#[]⟩, .slice none 0 0] 30
    show _ = _
    simpa using this
  go_enter Tryz.func7, Tryz.ntmps7
  go_upto_region 1 with fail
  generalize ((w.alloc (.cells #[.int .i64 7, .string us, .string pw, .string tx] 23)).alloc (.cells #[.string ⟨#[]⟩, .string ⟨#[]⟩, .slice none 0 0, .string ⟨#[]⟩, .slice none 0 0] 30)) = W0 at HB0 HX0 HR0 ⊢
  obtain ⟨x0, x1, x2, x3⟩ := bx4 HX0.out
  have hwl := heap_lt HR0.out
  have HB1 := HB0
  have HR1 := HR0
  go_wp2_with fail
  refine (rWith_any ⟨#[104, 116, 116, 112, 58, 47, 47, 106, 97, 98, 98, 101, 114, 46, 111, 114, 103, 47, 112, 114, 111, 116, 111, 99, 111, 108, 47, 100, 105, 115, 99, 111, 35, 105, 116, 101, 109, 115]⟩ [] none 0 _ (by decide) (by simp) (by simp) (fun i h => absurd h (Nat.not_lt_zero _))).mono ?_
  rintro r w1 ⟨v, rfl, hin0, hb⟩
  have HI : Hid (InS (fun b => w.heap.size + 1 < b) w1 (withE ⟨#[104, 116, 116, 112, 58, 47, 47, 106, 97, 98, 98, 101, 114, 46, 111, 114, 103, 47, 112, 114, 111, 116, 111, 99, 111, 108, 47, 100, 105, 115, 99, 111, 35, 105, 116, 101, 109, 115]⟩ []) v) := hin0.weak fun b _ h => by first | omega | (simp at h; omega)
  have HB2 := Lib.hid (more HB1.out (Nat.le_refl _) hb)
  have HR2 := Lib.hid ((hb.block _ (heap_lt HR1.out)).trans HR1.out)
  obtain ⟨aA, cA, aK, cK, rfl, _⟩ := HI.out.toIn.out
  clear hb hin0 HB0 HR0 HX0 HB1 HR1 x0 x1 x2 x3 hwl
  obtain ⟨q0, q1, q2, q3, q4⟩ := bx5 HR2.out
  have p0 := Lib.frozen_of_heap HR2.out 0
  have p1 := Lib.frozen_of_heap HR2.out 1
  have p2 := Lib.frozen_of_heap HR2.out 2
  have p3 := Lib.frozen_of_heap HR2.out 3
  have p4 := Lib.frozen_of_heap HR2.out 4
  go_wp2_with fail
  refine bodyPost_ret (v := .tuple #[.string (askK 7), .agg #[.string (withE ⟨#[104, 116, 116, 112, 58, 47, 47, 106, 97, 98, 98, 101, 114, 46, 111, 114, 103, 47, 112, 114, 111, 116, 111, 99, 111, 108, 47, 100, 105, 115, 99, 111, 35, 105, 116, 101, 109, 115]⟩ []).sp, .string (withE ⟨#[104, 116, 116, 112, 58, 47, 47, 106, 97, 98, 98, 101, 114, 46, 111, 114, 103, 47, 112, 114, 111, 116, 111, 99, 111, 108, 47, 100, 105, 115, 99, 111, 35, 105, 116, 101, 109, 115]⟩ []).nm, .slice aA (withE ⟨#[104, 116, 116, 112, 58, 47, 47, 106, 97, 98, 98, 101, 114, 46, 111, 114, 103, 47, 112, 114, 111, 116, 111, 99, 111, 108, 47, 100, 105, 115, 99, 111, 35, 105, 116, 101, 109, 115]⟩ []).atr.length cA, .string (withE ⟨#[104, 116, 116, 112, 58, 47, 47, 106, 97, 98, 98, 101, 114, 46, 111, 114, 103, 47, 112, 114, 111, 116, 111, 99, 111, 108, 47, 100, 105, 115, 99, 111, 35, 105, 116, 101, 109, 115]⟩ []).tx, .slice aK (withE ⟨#[104, 116, 116, 112, 58, 47, 47, 106, 97, 98, 98, 101, 114, 46, 111, 114, 103, 47, 112, 114, 111, 116, 111, 99, 111, 108, 47, 100, 105, 115, 99, 111, 35, 105, 116, 101, 109, 115]⟩ []).ks.length cK]]) (by simp [results, Tryz.results7, go_sem, q0, q1, q2, q3, q4, askK]) rfl ?_
  have hf := ins_store HI.out HB2.out (Nat.le_succ _) HR2.out (.string (withE ⟨#[104, 116, 116, 112, 58, 47, 47, 106, 97, 98, 98, 101, 114, 46, 111, 114, 103, 47, 112, 114, 111, 116, 111, 99, 111, 108, 47, 100, 105, 115, 99, 111, 35, 105, 116, 101, 109, 115]⟩ []).sp) (.string (withE ⟨#[104, 116, 116, 112, 58, 47, 47, 106, 97, 98, 98, 101, 114, 46, 111, 114, 103, 47, 112, 114, 111, 116, 111, 99, 111, 108, 47, 100, 105, 115, 99, 111, 35, 105, 116, 101, 109, 115]⟩ []).nm) (.slice aA (withE ⟨#[104, 116, 116, 112, 58, 47, 47, 106, 97, 98, 98, 101, 114, 46, 111, 114, 103, 47, 112, 114, 111, 116, 111, 99, 111, 108, 47, 100, 105, 115, 99, 111, 35, 105, 116, 101, 109, 115]⟩ []).atr.length cA) (.string (withE ⟨#[104, 116, 116, 112, 58, 47, 47, 106, 97, 98, 98, 101, 114, 46, 111, 114, 103, 47, 112, 114, 111, 116, 111, 99, 111, 108, 47, 100, 105, 115, 99, 111, 35, 105, 116, 101, 109, 115]⟩ []).tx) (.slice aK (withE ⟨#[104, 116, 116, 112, 58, 47, 47, 106, 97, 98, 98, 101, 114, 46, 111, 114, 103, 47, 112, 114, 111, 116, 111, 99, 111, 108, 47, 100, 105, 115, 99, 111, 35, 105, 116, 101, 109, 115]⟩ []).ks.length cK)
  rw [← HE.out] at hf
  exact ⟨_, rfl, hf.1, hf.2⟩
set_option maxRecDepth 100000 in
set_option maxHeartbeats 8000000 in
theorem rput_8 (us pw tx : ByteArray) (w : World) (hs : us.size ≤ 1048576 ∧ pw.size ≤ 1048576 ∧ tx.size ≤ 1048576) : Calls Tryz.prog 7 #[.agg #[.int .i64 8, .string us, .string pw, .string tx]] w (RPut 8 us pw tx w) := by
  have HE : Hid (askE 8 us pw tx = withE ⟨#[106, 97, 98, 98, 101, 114, 58, 105, 113, 58, 108, 97, 115, 116]⟩ []) := by show _ = _; unfold askE; rw [if_pos (by decide)]; rfl
  have HS := Lib.hid hs
  clear hs
  have HB0 : Hid (Below w.heap.size w ((w.alloc (.cells #[.int .i64 8, .string us, .string pw, .string tx] 23)).alloc (.cells #[.string ⟨#[]⟩, .string ⟨#[]⟩, .slice none 0 0, .string ⟨#[]⟩, .slice none 0 0] 30))) := ((Below.refl _ w).alloc (Nat.le_refl _) _).alloc (by simp) _
  have HX0 : Hid (((w.alloc (.cells #[.int .i64 8, .string us, .string pw, .string tx] 23)).alloc (.cells #[.string ⟨#[]⟩, .string ⟨#[]⟩, .slice none 0 0, .string ⟨#[]⟩, .slice none 0 0] 30)).heap[w.heap.size]? = some (.cells #[.int .i64 8, .string us, .string pw, .string tx] 23 (0, 0))) := (Below.heap_alloc _ _ _ (by simp)).trans (box_new w _ _)
  have HR0 : Hid (((w.alloc (.cells #[.int .i64 8, .string us, .string pw, .string tx] 23)).alloc (.cells #[.string ⟨#[]⟩, .string ⟨#[]⟩, .slice none 0 0, .string ⟨#[]⟩, .slice none 0 0] 30)).heap[w.heap.size + 1]? = some (.cells #[.string ⟨#[]⟩, .string ⟨#[]⟩, .slice none 0 0, .string ⟨#[]⟩, .slice none 0 0] 30 (0, 0))) := by
    have := box_new (w.alloc (.cells #[.int .i64 8, .string us, .string pw, .string tx] 23)) #[.string ⟨#[]⟩, .string ⟨#[]⟩, .slice none 0 0, .string ⟨#[]⟩, .slice none 0 0] 30
    show _ = _
    simpa using this
  go_enter Tryz.func7, Tryz.ntmps7
  go_upto_region 1 with fail
  generalize ((w.alloc (.cells #[.int .i64 8, .string us, .string pw, .string tx] 23)).alloc (.cells #[.string ⟨#[]⟩, .string ⟨#[]⟩, .slice none 0 0, .string ⟨#[]⟩, .slice none 0 0] 30)) = W0 at HB0 HX0 HR0 ⊢
  obtain ⟨x0, x1, x2, x3⟩ := bx4 HX0.out
  have hwl := heap_lt HR0.out
  have HB1 := HB0
  have HR1 := HR0
  go_wp2_with fail
  refine (rWith_any ⟨#[106, 97, 98, 98, 101, 114, 58, 105, 113, 58, 108, 97, 115, 116]⟩ [] none 0 _ (by decide) (by simp) (by simp) (fun i h => absurd h (Nat.not_lt_zero _))).mono ?_
  rintro r w1 ⟨v, rfl, hin0, hb⟩
  have HI : Hid (InS (fun b => w.heap.size + 1 < b) w1 (withE ⟨#[106, 97, 98, 98, 101, 114, 58, 105, 113, 58, 108, 97, 115, 116]⟩ []) v) := hin0.weak fun b _ h => by first | omega | (simp at h; omega)
  have HB2 := Lib.hid (more HB1.out (Nat.le_refl _) hb)
  have HR2 := Lib.hid ((hb.block _ (heap_lt HR1.out)).trans HR1.out)
  obtain ⟨aA, cA, aK, cK, rfl, _⟩ := HI.out.toIn.out
  clear hb hin0 HB0 HR0 HX0 HB1 HR1 x0 x1 x2 x3 hwl
  obtain ⟨q0, q1, q2, q3, q4⟩ := bx5 HR2.out
  have p0 := Lib.frozen_of_heap HR2.out 0
  have p1 := Lib.frozen_of_heap HR2.out 1
  have p2 := Lib.frozen_of_heap HR2.out 2
  have p3 := Lib.frozen_of_heap HR2.out 3
  have p4 := Lib.frozen_of_heap HR2.out 4
  go_wp2_with fail
  refine bodyPost_ret (v := .tuple #[.string (askK 8), .agg #[.string (withE ⟨#[106, 97, 98, 98, 101, 114, 58, 105, 113, 58, 108, 97, 115, 116]⟩ []).sp, .string (withE ⟨#[106, 97, 98, 98, 101, 114, 58, 105, 113, 58, 108, 97, 115, 116]⟩ []).nm, .slice aA (withE ⟨#[106, 97, 98, 98, 101, 114, 58, 105, 113, 58, 108, 97, 115, 116]⟩ []).atr.length cA, .string (withE ⟨#[106, 97, 98, 98, 101, 114, 58, 105, 113, 58, 108, 97, 115, 116]⟩ []).tx, .slice aK (withE ⟨#[106, 97, 98, 98, 101, 114, 58, 105, 113, 58, 108, 97, 115, 116]⟩ []).ks.length cK]]) (by simp [results, Tryz.results7, go_sem, q0, q1, q2, q3, q4, askK]) rfl ?_
  have hf := ins_store HI.out HB2.out (Nat.le_succ _) HR2.out (.string (withE ⟨#[106, 97, 98, 98, 101, 114, 58, 105, 113, 58, 108, 97, 115, 116]⟩ []).sp) (.string (withE ⟨#[106, 97, 98, 98, 101, 114, 58, 105, 113, 58, 108, 97, 115, 116]⟩ []).nm) (.slice aA (withE ⟨#[106, 97, 98, 98, 101, 114, 58, 105, 113, 58, 108, 97, 115, 116]⟩ []).atr.length cA) (.string (withE ⟨#[106, 97, 98, 98, 101, 114, 58, 105, 113, 58, 108, 97, 115, 116]⟩ []).tx) (.slice aK (withE ⟨#[106, 97, 98, 98, 101, 114, 58, 105, 113, 58, 108, 97, 115, 116]⟩ []).ks.length cK)
  rw [← HE.out] at hf
  exact ⟨_, rfl, hf.1, hf.2⟩
end Go.Proofs.YtlklmoohoobjjaaGreatDoor
