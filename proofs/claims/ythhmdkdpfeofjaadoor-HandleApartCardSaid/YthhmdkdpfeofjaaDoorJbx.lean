/- An address in a block of the call's own: three cells that may be written. No condition. -/
import Derived.Test.YthhmdkdpfeofjaaDoorJno
namespace Go.Proofs.YthhmdkdpfeofjaaDoor
open Go.RowKit Go.Lib

/-- Block B holds these three, and may be written. -/
def Bx (B : Nat) (a b c : Value) (w : World) : Prop :=
  B < w.heap.size ∧ w.cell? ⟨B, 0, none⟩ = some a ∧ w.cell? ⟨B, 1, none⟩ = some b ∧ w.cell? ⟨B, 2, none⟩ = some c ∧ ∀ k, w.frozen? ⟨B, k, none⟩ = false
theorem Bx.new (w : World) (a b c : Value) (t : TypeId) : Bx w.heap.size a b c (w.alloc (.cells #[a, b, c] t)) :=
  ⟨by simp, by simp, by simp, by simp, fun k => by simp⟩
theorem Bx.below {B : Nat} {a b c : Value} {w w' : World} (h : Bx B a b c w) (hb : Below w.heap.size w w') : Bx B a b c w' := by
  obtain ⟨h0, h1, h2, h3, h4⟩ := h
  exact ⟨Nat.lt_of_lt_of_le h0 hb.size, (hb.cell (p := ⟨B, 0, none⟩) h0).trans h1, (hb.cell (p := ⟨B, 1, none⟩) h0).trans h2, (hb.cell (p := ⟨B, 2, none⟩) h0).trans h3, fun k => (hb.frozen (p := ⟨B, k, none⟩) h0).trans (h4 k)⟩
theorem Bx.alloc {B : Nat} {a b c : Value} {w : World} (h : Bx B a b c w) (o : Obj) : Bx B a b c (w.alloc o) := h.below ((Below.refl _ w).alloc (Nat.le_refl _) o)
theorem Bx.other {B C i : Nat} {a b c v : Value} {w : World} (h : Bx B a b c w) (hne : B ≠ C) : Bx B a b c (w.setCell ⟨C, i, none⟩ v) := by
  obtain ⟨h0, h1, h2, h3, h4⟩ := h
  refine ⟨by simpa [World.setCell] using h0, ?_, ?_, ?_, fun k => by rw [World.frozen?_setCell]; exact h4 k⟩
  · rw [set_other (ne_block hne)]; exact h1
  · rw [set_other (ne_block hne)]; exact h2
  · rw [set_other (ne_block hne)]; exact h3
theorem Bx.set0 {B : Nat} {a b c : Value} {w : World} (h : Bx B a b c w) (v : Value) : Bx B v b c (w.setCell ⟨B, 0, none⟩ v) := by
  obtain ⟨h0, h1, h2, h3, h4⟩ := h
  refine ⟨by simpa [World.setCell] using h0, ?_, ?_, ?_, fun k => by rw [World.frozen?_setCell]; exact h4 k⟩
  · exact set_same h1
  · rw [set_other (ne_off (by decide))]; exact h2
  · rw [set_other (ne_off (by decide))]; exact h3
theorem Bx.set1 {B : Nat} {a b c : Value} {w : World} (h : Bx B a b c w) (v : Value) : Bx B a v c (w.setCell ⟨B, 1, none⟩ v) := by
  obtain ⟨h0, h1, h2, h3, h4⟩ := h
  refine ⟨by simpa [World.setCell] using h0, ?_, ?_, ?_, fun k => by rw [World.frozen?_setCell]; exact h4 k⟩
  · rw [set_other (ne_off (by decide))]; exact h1
  · exact set_same h2
  · rw [set_other (ne_off (by decide))]; exact h3
theorem Bx.set2 {B : Nat} {a b c : Value} {w : World} (h : Bx B a b c w) (v : Value) : Bx B a b v (w.setCell ⟨B, 2, none⟩ v) := by
  obtain ⟨h0, h1, h2, h3, h4⟩ := h
  refine ⟨by simpa [World.setCell] using h0, ?_, ?_, ?_, fun k => by rw [World.frozen?_setCell]; exact h4 k⟩
  · rw [set_other (ne_off (by decide))]; exact h1
  · rw [set_other (ne_off (by decide))]; exact h2
  · exact set_same h3
theorem Bx.all {B : Nat} {a b c : Value} {w : World} (h : Bx B a b c w) (x y z : Value) : Bx B x y z (((w.setCell ⟨B, 0, none⟩ x).setCell ⟨B, 1, none⟩ y).setCell ⟨B, 2, none⟩ z) := ((h.set0 x).set1 y).set2 z
theorem below_all {w W : World} {B : Nat} (h : Below w.heap.size w W) (hB : w.heap.size ≤ B) (x y z : Value) : Below w.heap.size w (((W.setCell ⟨B, 0, none⟩ x).setCell ⟨B, 1, none⟩ y).setCell ⟨B, 2, none⟩ z) :=
  ((h.setCell hB _).setCell hB _).setCell hB _

end Go.Proofs.YthhmdkdpfeofjaaDoor
