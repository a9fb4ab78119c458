/- Items and codes in rows of one's own. No condition. -/
import Derived.Test.YthbeempmdpfnmaaGreatDoorS2
import Derived.Laws.AppendOwn
namespace Go.Proofs.YthbeempmdpfnmaaGreatDoor.T
open Go.RowKit Go.Lib

def cdsV (l : List Int) : List Value := l.map fun c => .int .i64 c
theorem cdsV_len (l : List Int) : (cdsV l).length = l.length := by simp [cdsV]
def cellsI (l : List It) : List Value := l.flatMap It.cells
theorem cellsI_len (l : List It) : (cellsI l).length = l.length * 6 := by
  induction l with
  | nil => rfl
  | cons a l ih =>
    rw [cellsI, List.flatMap_cons, List.length_append]
    have : (l.flatMap It.cells).length = l.length * 6 := ih
    rw [this, List.length_cons, It.cells]
    simp; omega
theorem infoIt : (Tryz.prog.info? 62).map (fun i => (i.zero, i.size, i.bytes)) = some (some (.agg #[.string ⟨#[]⟩, .int .i64 0, .int .i64 0, .int .i64 0, .string ⟨#[]⟩, .bool false]), 6, 64) := by kernel_rfl
theorem cellsI_at {l : List It} {i j : Nat} (h : i < l.length) (hj : j < 6) : (cellsI l)[i * 6 + j]? = (l[i]'h).cells[j]? := by
  induction l generalizing i with
  | nil => cases h
  | cons a l ih =>
    have e : cellsI (a :: l) = a.cells ++ cellsI l := by simp [cellsI]
    have hc : a.cells.length = 6 := rfl
    rw [e]
    cases i with
    | zero => exact (by rw [List.getElem?_append_left (by omega)]; simp)
    | succ i =>
      rw [List.getElem?_append_right (by omega)]
      have h2 := ih (i := i) (by simpa using h)
      have e2 : (i + 1) * 6 + j - a.cells.length = i * 6 + j := by omega
      rw [e2, h2]; rfl
theorem itS_own {w : World} {B : Nat} {a : Option Addr} {c n : Nat} {l : List It} (h : w.ownsRow B 62 6 (.slice a n c) l.length (cellsI l)) : ItS w a l := fun i hi => by
  rcases h.2 with ⟨h1, h0⟩ | ⟨g, cap, cur, h1, hb, hg, hn, hc, hs, ht⟩
  · rw [h0] at hi; cases hi
  · simp only [Value.slice.injEq] at h1
    obtain ⟨rfl, _, rfl⟩ := h1
    have k : ∀ j, j < 6 → w.cell? ⟨g, 0 + i * 6 + j, none⟩ = (l[i]'hi).cells[j]? := fun j hj => by
      have e := cellsI_at hi hj
      rw [← ht, List.getElem?_take] at e
      rw [Lib.cell_of_heap hg, Nat.zero_add]
      split at e
      · rw [← e]; simp
      · omega
    exact ⟨g, 0, rfl, k 0 (by decide), k 1 (by decide), k 2 (by decide), k 3 (by decide), k 4 (by decide), k 5 (by decide)⟩
theorem cdS_own {w : World} {B : Nat} {a : Option Addr} {c n : Nat} {l : List Int} (h : w.ownsRow B 3 1 (.slice a n c) l.length (cdsV l)) : CdS w a l := fun i hi => by
  rcases h.2 with ⟨h1, h0⟩ | ⟨g, cap, cur, h1, hb, hg, hn, hc, hs, ht⟩
  · rw [h0] at hi; cases hi
  · simp only [Value.slice.injEq] at h1
    obtain ⟨rfl, _, rfl⟩ := h1
    refine ⟨g, 0, rfl, ?_⟩
    rw [Lib.cell_of_heap hg, Nat.zero_add]
    have e : (cdsV l)[i]? = some (.int .i64 (l[i]'hi)) := by simp [cdsV, List.getElem?_eq_getElem hi]
    rw [← ht, List.getElem?_take] at e
    split at e
    · simpa using e
    · cases e



end Go.Proofs.YthbeempmdpfnmaaGreatDoor.T
