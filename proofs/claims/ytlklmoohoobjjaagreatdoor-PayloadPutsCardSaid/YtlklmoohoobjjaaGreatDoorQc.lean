/- An element in a box of the call's own: one kid more, appended in place. No condition. -/
import Derived.Test.YtlklmoohoobjjaaGreatDoorQb
namespace Go.Proofs.YtlklmoohoobjjaaGreatDoor
open Go.RowKit Go.Lib Go.Shelf Tg

/-- One kid more: W1 ahead of the append, W2 behind it, then the store. -/
theorem Fm.app {w W1 W2 : World} {Q T cA c g cap : Nat} {sp nm : ByteArray} {aA a : Option Addr} {ks : List El} {e : El} {xs : List Value} {v0 v1 v2 v3 v4 : Value} (h : Fm w Q T sp nm aA cA ks a c W1)
    (hxs : W1.ownsRow (Q + 1) 30 5 (.slice a ks.length c) ks.length xs)
    (hx : ∀ i (h : i < ks.length), ∃ v0 v1 v2 v3 v4, xs[i * 5]? = some v0 ∧ xs[i * 5 + 1]? = some v1 ∧ xs[i * 5 + 2]? = some v2 ∧ xs[i * 5 + 3]? = some v3 ∧ xs[i * 5 + 4]? = some v4 ∧ InS (fun b => (Q < b ∧ b ≠ T) ∧ ob a ks.length c ≠ some b) W1 ks[i] (.agg #[v0, v1, v2, v3, v4]))
    (hg : W1.grownBy W2 (ob a ks.length c)) (hat : ob a ks.length c = some g ∨ g = W1.heap.size) (he : InS (fun b => (Q < b ∧ b ≠ T) ∧ ob a ks.length c ≠ some b) W1 e (.agg #[v0, v1, v2, v3, v4]))
    (ho : W2.ownsRow (Q + 1) 30 5 (.slice (some ⟨g, 0, none⟩) (ks.length + 1) cap) (ks.length + 1) (xs ++ [v0, v1, v2, v3, v4])) :
    Fm w Q T sp nm aA cA (ks ++ [e]) (some ⟨g, 0, none⟩) cap (W2.setCell ⟨T, 4, none⟩ (.slice (some ⟨g, 0, none⟩) (ks.length + 1) cap)) := by
  have hT := h.lt
  have hq := h.ql
  have hTW := heap_lt h.tb
  have hQW := heap_lt h.rb
  have hnQ : ob a ks.length c ≠ some Q := fun e => by have := (h.oe.lt Q e).1; omega
  have hgT : g ≠ T ∧ Q < g := by
    rcases hat with h3 | h3
    · exact ⟨fun e => h.nt (h3.trans (by rw [e])), by have := (h.oe.lt g h3).1; omega⟩
    · omega
  have hlen : (ks ++ [e]).length = ks.length + 1 := by simp
  have hob : ob (some ⟨g, 0, none⟩) (ks ++ [e]).length cap = some g := rfl
  have hb2 : Below w.heap.size w W2 := h.bel.grown hg h.bel.size fun b e => by have := (h.oe.lt b e).1; omega
  have hW : ∀ b, b < W1.heap.size → (Q < b ∧ b ≠ T) ∧ ob a ks.length c ≠ some b → (Q < b ∧ b ≠ T) ∧ ob (some ⟨g, 0, none⟩) (ks ++ [e]).length cap ≠ some b := fun b hb hs => ⟨hs.1, fun e => by
    rw [hob] at e
    rcases hat with h3 | h3
    · exact hs.2 (h3.trans e)
    · injection e with e; omega⟩
  have hK : ∀ b, (Q < b ∧ b ≠ T) ∧ ob (some ⟨g, 0, none⟩) (ks ++ [e]).length cap ≠ some b → b < W1.heap.size → ob a ks.length c ≠ some b → (W2.setCell ⟨T, 4, none⟩ (.slice (some ⟨g, 0, none⟩) (ks.length + 1) cap)).heap[b]? = W1.heap[b]? := fun b hs hb hn => by
    rw [setCell_other (by omega)]
    exact hg.block b hb (fun e => hn e.symm)
  have hI : ∀ (E : El) (v : Value), InS (fun b => (Q < b ∧ b ≠ T) ∧ ob a ks.length c ≠ some b) W1 E v → InS (fun b => (Q < b ∧ b ≠ T) ∧ ob (some ⟨g, 0, none⟩) (ks ++ [e]).length cap ≠ some b) (W2.setCell ⟨T, 4, none⟩ (.slice (some ⟨g, 0, none⟩) (ks.length + 1) cap)) E v := fun E v hi => by
    have h1 := hi.weak (S' := fun b => ((Q < b ∧ b ≠ T) ∧ ob (some ⟨g, 0, none⟩) (ks ++ [e]).length cap ≠ some b) ∧ ob a ks.length c ≠ some b) fun b hb hs => ⟨hW b hb hs, hs.2⟩
    exact (h1.keep fun b hb hlt => hK b hb.1 hlt hb.2).weak fun b _ hb => hb.1
  have hA : SlA (fun b => (Q < b ∧ b ≠ T) ∧ ob (some ⟨g, 0, none⟩) (ks ++ [e]).length cap ≠ some b) (W2.setCell ⟨T, 4, none⟩ (.slice (some ⟨g, 0, none⟩) (ks.length + 1) cap)) (.slice aA ([] : List At).length cA) [] := by
    have h1 := h.oe.at_.weak (S' := fun b => ((Q < b ∧ b ≠ T) ∧ ob (some ⟨g, 0, none⟩) (ks ++ [e]).length cap ≠ some b) ∧ ob a ks.length c ≠ some b) fun b hb hs => ⟨hW b hb hs, hs.2⟩
    exact (h1.keep fun b hb hlt => hK b hb.1 hlt hb.2).weak fun b _ hb => hb.1
  have hown := own_keep (w' := W2.setCell ⟨T, 4, none⟩ (.slice (some ⟨g, 0, none⟩) (ks.length + 1) cap)) ho fun b e => by
    have e2 : g = b := by simpa [Value.ownBlock] using e
    exact setCell_other (by omega)
  refine ⟨hb2.setCell (by show w.heap.size ≤ T; omega) _, hq, (setCell_other (by omega)).trans ((hg.block _ hQW (fun e => hnQ e.symm)).trans h.rb), ?_, ⟨h.oe.sz, hA, ?_⟩, ?_, hT⟩
  · have q := (hg.block _ hTW (fun e => h.nt e.symm)).trans h.tb
    have := setI q 4 (.slice (some ⟨g, 0, none⟩) (ks.length + 1) cap)
    rw [hlen]
    simpa using this
  · have := KRow.snoc hown (by simpa using hxs.1) (fun i hi => by
      obtain ⟨u0, u1, u2, u3, u4, q0, q1, q2, q3, q4, q5⟩ := hx i hi
      exact ⟨u0, u1, u2, u3, u4, q0, q1, q2, q3, q4, hI _ _ q5⟩) (hI _ _ he)
    simpa [hlen] using this
  · rw [hob]; intro e; injection e with e; exact hgT.1 e
end Go.Proofs.YtlklmoohoobjjaaGreatDoor
