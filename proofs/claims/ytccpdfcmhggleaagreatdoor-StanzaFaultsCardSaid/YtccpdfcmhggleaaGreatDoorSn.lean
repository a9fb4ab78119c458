/- The contract of glyph.Trim; the contract of the closure by which readKids asks for a kid. Condition: the element is not too much. -/
import Derived.Test.YtccpdfcmhggleaaGreatDoorSk
namespace Go.Proofs.YtccpdfcmhggleaaGreatDoor
open Go.RowKit Go.Lib Go.Shelf Tg St Sg

/-- No element. -/
def elZ : El := .mk ⟨#[]⟩ ⟨#[]⟩ [] ⟨#[]⟩ []
/-- The first kid of that name, or no element. -/
def kidD (l : List El) (n : ByteArray) : El := (kidF l SP n).getD elZ
theorem kidD_tx (l : List El) (n : ByteArray) : (kidD l n).tx = kidT l n := by
  unfold kidD kidT
  cases kidF l SP n <;> rfl
theorem kidD_ks (l : List El) : (kidD l tErr).ks = errKids l := by
  unfold kidD errKids
  cases kidF l SP tErr <;> rfl
theorem kidD_wts (l : List El) (n : ByteArray) : wts (kidD l n).ks ≤ wts l ∧ (kidD l n).tx.size ≤ wts l := by
  unfold kidD
  cases h : kidF l SP n with
  | none => exact ⟨Nat.zero_le _, Nat.zero_le _⟩
  | some k =>
    have h1 := (kidF_is h).1
    have h2 := wts_mem h1
    have h3 := wt_eq k
    simp only [Option.getD_some]
    omega
/-- What the closure gives. -/
def KidQ (K : El) (w : World) (r : Ending) (w' : World) : Prop := ∃ a1 c1 a2 c2, r = .returned (.agg #[.string K.sp, .string K.nm, .slice a1 K.atr.length c1, .string K.tx, .slice a2 K.ks.length c2]) ∧ KsIn w'.heap.size w' a2 K.ks ∧ Below w.heap.size w w'
set_option profiler true in
set_option profiler.threshold 3000 in
set_option maxRecDepth 100000 in
set_option maxHeartbeats 8000000 in
theorem kidC_any (e : El) (aA aK : Option Addr) (cA cK X B : Nat) (n : ByteArray) (w : World) (hX : w.heap[X]? = some (.cells #[.string e.sp, .string e.nm, .slice aA e.atr.length cA, .string e.tx, .slice aK e.ks.length cK] 29 (0, 0))) (hK : KsIn B w aK e.ks) (hB : B ≤ w.heap.size) (hw : wts e.ks ≤ 20000) :
    Calls Tryz.prog 66 #[.string n, .pointer (some ⟨X, 0, none⟩)] w (KidQ (kidD e.ks n) w) := by
  have HB0 : Hid (Below w.heap.size w (w.alloc (.cells #[.string ⟨#[]⟩, .string ⟨#[]⟩, .slice none 0 0, .string ⟨#[]⟩, .slice none 0 0] 29))) := (Below.refl _ w).alloc (Nat.le_refl _) _
  have HR0 := Lib.hid (box_new w #[.string ⟨#[]⟩, .string ⟨#[]⟩, .slice none 0 0, .string ⟨#[]⟩, .slice none 0 0] 29)
  have HX0 := Lib.hid ((Below.heap_alloc w (.cells #[.string ⟨#[]⟩, .string ⟨#[]⟩, .slice none 0 0, .string ⟨#[]⟩, .slice none 0 0] 29) X (heap_lt hX)).trans hX)
  have CK := Lib.hid (fun (W : World) (hb : Below w.heap.size w W) => kid_any e.sp e.nm e.tx SP n e.ks aA aK e.atr.length cA cK B W (hK.below (hb.mono hB)) (Nat.le_trans hB hb.size) hw)
  have hXl := heap_lt hX
  clear hX hK hB hw
  unfold kidD
  obtain ⟨x0, x1, x2, x3, x4⟩ := bx5 HX0.out
  cases hk : kidF e.ks SP n with
  | none =>
    rw [hk] at CK
    go_enter Tryz.func66, Tryz.ntmps66
    go_wp2_with fail
    refine (CK.out _ HB0.out).mono ?_
    rintro r w1 ⟨rfl, hb⟩
    have HB1 := Lib.hid (more HB0.out (Nat.le_refl _) hb)
    have HR1 := Lib.hid ((hb.block _ (heap_lt HR0.out)).trans HR0.out)
    clear hb HB0 HR0 CK HX0 x0 x1 x2 x3 x4
    have HR2 := Lib.hid ((Below.heap_alloc w1 (.cells #[.string ⟨#[]⟩, .string ⟨#[]⟩, .slice none 0 0, .string ⟨#[]⟩, .slice none 0 0] 29) _ (heap_lt HR1.out)).trans HR1.out)
    have HB2 := Lib.hid (HB1.out.alloc HB1.out.size (.cells #[.string ⟨#[]⟩, .string ⟨#[]⟩, .slice none 0 0, .string ⟨#[]⟩, .slice none 0 0] 29))
    obtain ⟨q0, q1, q2, q3, q4⟩ := bx5 HR2.out
    have p0 := Lib.frozen_of_heap HR2.out 0
    have p1 := Lib.frozen_of_heap HR2.out 1
    have p2 := Lib.frozen_of_heap HR2.out 2
    have p3 := Lib.frozen_of_heap HR2.out 3
    have p4 := Lib.frozen_of_heap HR2.out 4
    have hlt := heap_lt HR1.out
    go_upto_region 2 with fail
    have HN2 := Lib.hid (box_new w1 #[.string ⟨#[]⟩, .string ⟨#[]⟩, .slice none 0 0, .string ⟨#[]⟩, .slice none 0 0] 29)
    generalize w1.heap.size = Y at HN2 ⊢
    generalize w1.alloc (.cells #[.string ⟨#[]⟩, .string ⟨#[]⟩, .slice none 0 0, .string ⟨#[]⟩, .slice none 0 0] 29) = w2 at HN2 HR2 HB2 q0 q1 q2 q3 q4 p0 p1 p2 p3 p4 ⊢
    obtain ⟨y0, y1, y2, y3, y4⟩ := bx5 HN2.out
    go_wp2_with fail
    refine bodyPost_ret (v := .agg #[.string ⟨#[]⟩, .string ⟨#[]⟩, .slice none 0 0, .string ⟨#[]⟩, .slice none 0 0]) (by simp [results, Tryz.results66, go_sem, q0, q1, q2, q3, q4]) rfl ?_
    exact ⟨none, 0, none, 0, rfl, fun i h => absurd h (Nat.not_lt_zero _), ((((HB2.out.setCell (Nat.le_refl _) _).setCell (Nat.le_refl _) _).setCell (Nat.le_refl _) _).setCell (Nat.le_refl _) _).setCell (Nat.le_refl _) _⟩
  | some K =>
    rw [hk] at CK
    go_enter Tryz.func66, Tryz.ntmps66
    go_wp2_with fail
    refine (CK.out _ HB0.out).mono ?_
    rintro r w1 ⟨a1, c1, a2, c2, rfl, hin, hb⟩
    have HB1 := Lib.hid (more HB0.out (Nat.le_refl _) hb)
    have HR1 := Lib.hid ((hb.block _ (heap_lt HR0.out)).trans HR0.out)
    have HI1 : Hid (InS (fun b => w.heap.size < b) w1 K (.agg #[.string K.sp, .string K.nm, .slice a1 K.atr.length c1, .string K.tx, .slice a2 K.ks.length c2])) := hin.weak fun b _ hb => by simp at hb; omega
    clear hb hin HB0 HR0 CK HX0 x0 x1 x2 x3 x4
    have HR2 := Lib.hid ((Below.heap_alloc w1 (.cells #[.string K.sp, .string K.nm, .slice a1 K.atr.length c1, .string K.tx, .slice a2 K.ks.length c2] 29) _ (heap_lt HR1.out)).trans HR1.out)
    have HB2 := Lib.hid (HB1.out.alloc HB1.out.size (.cells #[.string K.sp, .string K.nm, .slice a1 K.atr.length c1, .string K.tx, .slice a2 K.ks.length c2] 29))
    have HI2 := Lib.hid (HI1.out.stay ((Below.refl _ w1).alloc (Nat.le_refl _) (.cells #[.string K.sp, .string K.nm, .slice a1 K.atr.length c1, .string K.tx, .slice a2 K.ks.length c2] 29)))
    obtain ⟨q0, q1, q2, q3, q4⟩ := bx5 HR2.out
    have p0 := Lib.frozen_of_heap HR2.out 0
    have p1 := Lib.frozen_of_heap HR2.out 1
    have p2 := Lib.frozen_of_heap HR2.out 2
    have p3 := Lib.frozen_of_heap HR2.out 3
    have p4 := Lib.frozen_of_heap HR2.out 4
    have hlt := heap_lt HR1.out
    go_upto_region 2 with fail
    have HN2 := Lib.hid (box_new w1 #[.string K.sp, .string K.nm, .slice a1 K.atr.length c1, .string K.tx, .slice a2 K.ks.length c2] 29)
    generalize w1.heap.size = Y at HN2 ⊢
    generalize w1.alloc (.cells #[.string K.sp, .string K.nm, .slice a1 K.atr.length c1, .string K.tx, .slice a2 K.ks.length c2] 29) = w2 at HN2 HR2 HB2 HI2 q0 q1 q2 q3 q4 p0 p1 p2 p3 p4 ⊢
    obtain ⟨y0, y1, y2, y3, y4⟩ := bx5 HN2.out
    go_wp2_with fail
    refine bodyPost_ret (v := .agg #[.string K.sp, .string K.nm, .slice a1 K.atr.length c1, .string K.tx, .slice a2 K.ks.length c2]) (by simp [results, Tryz.results66, go_sem, q0, q1, q2, q3, q4]) rfl ?_
    refine ⟨a1, c1, a2, c2, rfl, ?_, ((((HB2.out.setCell (Nat.le_refl _) _).setCell (Nat.le_refl _) _).setCell (Nat.le_refl _) _).setCell (Nat.le_refl _) _).setCell (Nat.le_refl _) _⟩
    have h9 := HI2.out.keep (w' := ((((w2.setCell ⟨w.heap.size, 0, none⟩ (.string K.sp)).setCell ⟨w.heap.size, 1, none⟩ (.string K.nm)).setCell ⟨w.heap.size, 2, none⟩ (.slice a1 K.atr.length c1)).setCell ⟨w.heap.size, 3, none⟩ (.string K.tx)).setCell ⟨w.heap.size, 4, none⟩ (.slice a2 K.ks.length c2)) fun b hb _ => by
      rw [setCell_other (by omega), setCell_other (by omega), setCell_other (by omega), setCell_other (by omega), setCell_other (by omega)]
    obtain ⟨b1, d1, b2, d2, hv, _, _, _, hks⟩ := h9.toIn.out
    simp only [Value.agg.injEq, Array.mk.injEq, List.cons.injEq, and_true, Value.slice.injEq, true_and] at hv
    rw [← hv.2.1] at hks
    exact hks
end Go.Proofs.YtccpdfcmhggleaaGreatDoor
