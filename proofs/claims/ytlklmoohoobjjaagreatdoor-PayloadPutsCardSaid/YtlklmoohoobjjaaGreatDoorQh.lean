/- The contract of wharfref10.Name. Condition: texts of at most 1048576 bytes. -/
import Derived.Test.YtlklmoohoobjjaaGreatDoorQg
namespace Go.Proofs.YtlklmoohoobjjaaGreatDoor
open Go.RowKit Go.Lib Go.Shelf Tg

set_option maxRecDepth 100000 in
set_option maxHeartbeats 8000000 in
theorem rName_any (n d r : ByteArray) (w : World) (h1 : n.size ≤ 1048576) (h2 : d.size ≤ 1048576) (h3 : r.size ≤ 1048576) (hp : (Jn.putB n d r).size ≤ 1048576) :
    Calls Tryz.prog 14 #[.agg #[.string n, .string d, .string r]] w (ElP (nameE (Jn.putB n d r)) w) := by
  have CP := Lib.hid (fun W => Jn.rPut_any n d r W h1 h2 h3)
  have HE : Hid (nameE (Jn.putB n d r) = withE ⟨#[106, 97, 98, 98, 101, 114, 58, 105, 113, 58, 103, 97, 116, 101, 119, 97, 121]⟩ [⟨#[106, 105, 100]⟩, Jn.putB n d r]) := rfl
  have HB0 : Hid (Below w.heap.size w ((w.alloc (.cells #[.string n, .string d, .string r] 25)).alloc (.cells #[.string ⟨#[]⟩, .string ⟨#[]⟩, .slice none 0 0, .string ⟨#[]⟩, .slice none 0 0] 30))) := ((Below.refl _ w).alloc (Nat.le_refl _) _).alloc (by simp) _
  have HX0 : Hid (((w.alloc (.cells #[.string n, .string d, .string r] 25)).alloc (.cells #[.string ⟨#[]⟩, .string ⟨#[]⟩, .slice none 0 0, .string ⟨#[]⟩, .slice none 0 0] 30)).heap[w.heap.size]? = some (.cells #[.string n, .string d, .string r] 25 (0, 0))) := (Below.heap_alloc _ _ _ (by simp)).trans (box_new w _ _)
  have HR0 : Hid (((w.alloc (.cells #[.string n, .string d, .string r] 25)).alloc (.cells #[.string ⟨#[]⟩, .string ⟨#[]⟩, .slice none 0 0, .string ⟨#[]⟩, .slice none 0 0] 30)).heap[w.heap.size + 1]? = some (.cells #[.string ⟨#[]⟩, .string ⟨#[]⟩, .slice none 0 0, .string ⟨#[]⟩, .slice none 0 0] 30 (0, 0))) := by
    have := box_new (w.alloc (.cells #[.string n, .string d, .string r] 25)) #[.string ⟨#[]⟩, .string ⟨#[]⟩, .slice none 0 0, .string ⟨#[]⟩, .slice none 0 0] 30
    show _ = _
    simpa using this
  generalize Jn.putB n d r = P at CP HE hp ⊢
  go_enter Tryz.func14, Tryz.ntmps14
  go_upto_region 1 with fail
  generalize ((w.alloc (.cells #[.string n, .string d, .string r] 25)).alloc (.cells #[.string ⟨#[]⟩, .string ⟨#[]⟩, .slice none 0 0, .string ⟨#[]⟩, .slice none 0 0] 30)) = W0 at HB0 HX0 HR0 ⊢
  obtain ⟨x0, x1, x2⟩ := bx3 HX0.out
  go_wp2_with fail
  refine (CP.out _).mono ?_
  rintro r5 w1 ⟨rfl, hb⟩
  have HB1 := Lib.hid (more HB0.out (Nat.le_refl _) hb)
  have HR1 := Lib.hid ((hb.block _ (heap_lt HR0.out)).trans HR0.out)
  clear hb HB0 HR0 HX0 CP x0 x1 x2
  have hb2 : Below w1.heap.size w1 (w1.alloc (.cells #[.string ⟨#[106, 105, 100]⟩, .string P] 9)) := (Below.refl _ w1).alloc (Nat.le_refl _) _
  have HB2 := Lib.hid (more HB1.out (Nat.le_refl _) hb2)
  have HR2 := Lib.hid ((hb2.block _ (heap_lt HR1.out)).trans HR1.out)
  have hwl := heap_lt HR1.out
  clear hb2 HB1 HR1
  go_wp2_with fail
  refine (rWith_any ⟨#[106, 97, 98, 98, 101, 114, 58, 105, 113, 58, 103, 97, 116, 101, 119, 97, 121]⟩ [⟨#[106, 105, 100]⟩, P] (some ⟨w1.heap.size, 0, none⟩) 2 _ (by decide) (by simp) (sz2 (by decide) hp) (str_mem2 (box_new w1 _ _))).mono ?_
  rintro r3 w3 ⟨v, rfl, hin0, hb⟩
  have hin : InS (fun b => w.heap.size + 1 < b) w3 (withE ⟨#[106, 97, 98, 98, 101, 114, 58, 105, 113, 58, 103, 97, 116, 101, 119, 97, 121]⟩ [⟨#[106, 105, 100]⟩, P]) v := hin0.weak fun b _ h => by simp at h; omega
  have HB3 := Lib.hid (more HB2.out (Nat.le_refl _) hb)
  have HR3 := Lib.hid ((hb.block _ (heap_lt HR2.out)).trans HR2.out)
  clear hb hin0 HB2 HR2 hwl
  rw [HE.out]
  obtain ⟨aA, cA, aK, cK, rfl, _⟩ := hin.toIn.out
  have HI := Lib.hid hin
  clear hin
  obtain ⟨q0, q1, q2, q3, q4⟩ := bx5 HR3.out
  have p0 := Lib.frozen_of_heap HR3.out 0
  have p1 := Lib.frozen_of_heap HR3.out 1
  have p2 := Lib.frozen_of_heap HR3.out 2
  have p3 := Lib.frozen_of_heap HR3.out 3
  have p4 := Lib.frozen_of_heap HR3.out 4
  go_wp2_with fail
  refine bodyPost_ret (v := .agg #[.string (withE ⟨#[106, 97, 98, 98, 101, 114, 58, 105, 113, 58, 103, 97, 116, 101, 119, 97, 121]⟩ [⟨#[106, 105, 100]⟩, P]).sp, .string (withE ⟨#[106, 97, 98, 98, 101, 114, 58, 105, 113, 58, 103, 97, 116, 101, 119, 97, 121]⟩ [⟨#[106, 105, 100]⟩, P]).nm, .slice aA (withE ⟨#[106, 97, 98, 98, 101, 114, 58, 105, 113, 58, 103, 97, 116, 101, 119, 97, 121]⟩ [⟨#[106, 105, 100]⟩, P]).atr.length cA, .string (withE ⟨#[106, 97, 98, 98, 101, 114, 58, 105, 113, 58, 103, 97, 116, 101, 119, 97, 121]⟩ [⟨#[106, 105, 100]⟩, P]).tx, .slice aK (withE ⟨#[106, 97, 98, 98, 101, 114, 58, 105, 113, 58, 103, 97, 116, 101, 119, 97, 121]⟩ [⟨#[106, 105, 100]⟩, P]).ks.length cK]) (by simp [results, Tryz.results14, go_sem, q0, q1, q2, q3, q4]) rfl ?_
  have hf := ins_store HI.out HB3.out (Nat.le_succ _) HR3.out (.string (withE ⟨#[106, 97, 98, 98, 101, 114, 58, 105, 113, 58, 103, 97, 116, 101, 119, 97, 121]⟩ [⟨#[106, 105, 100]⟩, P]).sp) (.string (withE ⟨#[106, 97, 98, 98, 101, 114, 58, 105, 113, 58, 103, 97, 116, 101, 119, 97, 121]⟩ [⟨#[106, 105, 100]⟩, P]).nm) (.slice aA (withE ⟨#[106, 97, 98, 98, 101, 114, 58, 105, 113, 58, 103, 97, 116, 101, 119, 97, 121]⟩ [⟨#[106, 105, 100]⟩, P]).atr.length cA) (.string (withE ⟨#[106, 97, 98, 98, 101, 114, 58, 105, 113, 58, 103, 97, 116, 101, 119, 97, 121]⟩ [⟨#[106, 105, 100]⟩, P]).tx) (.slice aK (withE ⟨#[106, 97, 98, 98, 101, 114, 58, 105, 113, 58, 103, 97, 116, 101, 119, 97, 121]⟩ [⟨#[106, 105, 100]⟩, P]).ks.length cK)
  exact ⟨_, rfl, hf.1, hf.2⟩
end Go.Proofs.YtlklmoohoobjjaaGreatDoor
