/- A row of bytes that a call made itself: what it holds, cell by cell; what a string made of it is. No condition. -/
import Derived.Test.YtbadoidjdghklaaDoorGly
namespace Go.Proofs.YtbadoidjdghklaaDoor
open Go.RowKit Go.Lib Sg

/-- Block B's first n cells are bytes, the j-th f j, and may be written. -/
def RowB (w : World) (B n : Nat) (f : Nat → Nat) : Prop := ∀ j, j < n → w.cell? ⟨B, j, none⟩ = some (.int .u8 (f j : Int)) ∧ w.frozen? ⟨B, j, none⟩ = false

theorem RowB.new (w : World) (s : ByteArray) (cap e : Nat) :
    RowB (w.alloc (.cells (bytesRow s cap) e ((bytesRow s cap).size, (bytesRow s cap).size + 1))) w.heap.size s.size (nb s.data.toList) := by
  intro j hj
  have hj' : j < s.data.size := hj
  have hsz : s.size ≤ (bytesRow s cap).size := by unfold bytesRow; simp
  constructor
  · rw [World.cell?_alloc_mark, bytesRow_at s cap j hj']
    simp [nb, List.getD_eq_getElem?_getD, Array.getElem?_eq_getElem hj']
  · rw [World.frozen?_alloc_mark]
    simp; omega
theorem RowB.drew {w : World} {B n : Nat} {f : Nat → Nat} (h : RowB w B n f) : RowB w.drew B n f := h
theorem RowB.set {w : World} {B n : Nat} {f g : Nat → Nat} (h : RowB w B n f) {k : Nat} (hk : k < n) {v : Int} (hv : v = (g k : Int)) (hg : ∀ j, j < n → j ≠ k → g j = f j) : RowB (w.setCell ⟨B, k, none⟩ (.int .u8 v)) B n g := by
  intro j hj
  rw [World.frozen?_setCell]
  refine ⟨?_, (h j hj).2⟩
  by_cases e : j = k
  · subst e
    rw [World.cell?_setCell_same _ _ _ (h j hj).1, hv]
  · rw [World.cell?_setCell_other _ _ _ _ (fun e2 => e (by cases e2; rfl)), (h j hj).1, hg j hj e]
theorem RowB.same {w : World} {B n : Nat} {f g : Nat → Nat} (h : RowB w B n f) (hg : ∀ j, j < n → g j = f j) : RowB w B n g := by
  intro j hj
  rw [hg j hj]
  exact h j hj
theorem RowB.conv {P : Program} {w : World} {B n : Nat} {f : Nat → Nat} (h : RowB w B n f) (src dst e : TypeId) (hs : P.underlying src = some (.slice e)) (he : P.underlying e = some (.int .u8)) (hd : P.underlying dst = some .string)
    (l : List UInt8) (cap : Nat) (hn : l.length = n) (hl : ∀ j, j < n → f j = nb l j) :
    (convert src dst (.slice (some ⟨B, 0, none⟩) n cap)).run P w = .ok (.string ⟨l.toArray⟩) w := by
  subst hn
  refine run_convert_bytes_back w src dst e _ cap l hs he hd fun j hj => ?_
  have h0 : (⟨B, 0, none⟩ : Addr).add j = ⟨B, j, none⟩ := by
    unfold Addr.add; split <;> simp_all
  rw [h0, (h j hj).1, hl j hj]
  simp [nb, List.getD_eq_getElem?_getD, List.getElem?_eq_getElem hj]
end Go.Proofs.YtbadoidjdghklaaDoor
