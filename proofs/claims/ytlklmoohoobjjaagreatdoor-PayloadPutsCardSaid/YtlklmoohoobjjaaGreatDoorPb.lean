/- The contract of payload.with: the element with these kids more, in its own row. Condition: at most 1000 kids. -/
import Derived.Test.YtlklmoohoobjjaaGreatDoorPa
namespace Go.Proofs.YtlklmoohoobjjaaGreatDoor
open Go.RowKit Go.Lib Go.Shelf Tg

/-- What with gives. -/
def WiP (N : Nat) (S : Nat → Prop) (sp nm : ByteArray) (l : List At) (ks : List El) (aA : Option Addr) (cA : Nat) (row : Option Nat) (w : World) (r : Ending) (w' : World) : Prop :=
  ∃ a c, r = .returned (.agg #[.string sp, .string nm, .slice aA l.length cA, .string ⟨#[]⟩, .slice a ks.length c]) ∧ Oe N S w' sp nm l ks aA cA a c ∧ w.grownBy w' row ∧ (ob a ks.length c = row ∨ ∀ b, ob a ks.length c = some b → w.heap.size < b)
/-- What with keeps. -/
structure Wi (N : Nat) (Sc : Nat → Prop) (sp nm : ByteArray) (aA : Option Addr) (nA cA : Nat) (w : World) (row : Option Nat) (ks : List El) (a : Option Addr) (n c : Nat) (W : World) : Prop where
  gr : w.grownBy W row
  eb : W.heap[w.heap.size]? = some (.cells #[.string sp, .string nm, .slice aA nA cA, .string ⟨#[]⟩, .slice a n c] 30 (0, 0))
  rb : W.heap[w.heap.size + 1]? = some (.cells #[.string ⟨#[]⟩, .string ⟨#[]⟩, .slice none 0 0, .string ⟨#[]⟩, .slice none 0 0] 30 (0, 0))
  ln : n = ks.length
  kr : KRow N Sc W (.slice a n c) ks
  loc : ob a n c = row ∨ ∀ b, ob a n c = some b → w.heap.size + 1 < b
theorem Wi.st {N nA cA n c : Nat} {Sc : Nat → Prop} {sp nm : ByteArray} {aA a : Option Addr} {w W W' : World} {row : Option Nat} {ks : List El} (h : Wi N Sc sp nm aA nA cA w row ks a n c W) (hb : Below W.heap.size W W') : Wi N Sc sp nm aA nA cA w row ks a n c W' :=
  ⟨gr_bel h.gr hb, (hb.block _ (heap_lt h.eb)).trans h.eb, (hb.block _ (heap_lt h.rb)).trans h.rb, h.ln, h.kr.below hb, h.loc⟩
theorem Wi.al {N nA cA n c : Nat} {Sc : Nat → Prop} {sp nm : ByteArray} {aA a : Option Addr} {w W : World} {row : Option Nat} {ks : List El} (h : Wi N Sc sp nm aA nA cA w row ks a n c W) (o : Obj) : Wi N Sc sp nm aA nA cA w row ks a n c (W.alloc o) := h.st ((Below.refl _ W).alloc (Nat.le_refl _) o)
theorem Wi.egr {N nA cA n c : Nat} {Sc : Nat → Prop} {sp nm : ByteArray} {aA a : Option Addr} {w W1 W2 : World} {row : Option Nat} {ks : List El} (h : Wi N Sc sp nm aA nA cA w row ks a n c W1) (hrow : ∀ b, row = some b → b < w.heap.size) (hg : W1.grownBy W2 (ob a n c)) :
    W2.heap[w.heap.size]? = some (.cells #[.string sp, .string nm, .slice aA nA cA, .string ⟨#[]⟩, .slice a n c] 30 (0, 0)) := by
  refine (hg.block _ (heap_lt h.eb) fun e => ?_).trans h.eb
  rcases h.loc with h3 | h3
  · have := hrow _ (h3.symm.trans e.symm); omega
  · have := h3 _ e.symm; omega
/-- One kid more: W1 behind its box, W2 behind the append, then the store. -/
theorem Wi.app {N nA cA n c g cap : Nat} {Sc : Nat → Prop} {sp nm : ByteArray} {aA a : Option Addr} {w W1 W2 : World} {row : Option Nat} {ks : List El} {e : El} {xs : List Value} {v0 v1 v2 v3 v4 : Value} (h : Wi N Sc sp nm aA nA cA w row ks a n c W1)
    (hrow : ∀ b, row = some b → b < w.heap.size) (hS : ∀ b, Sc b → b < w.heap.size ∧ row ≠ some b)
    (hxs : W1.ownsRow N 30 5 (.slice a n c) n xs) (hx : ∀ i (h : i < ks.length), ∃ v0 v1 v2 v3 v4, xs[i * 5]? = some v0 ∧ xs[i * 5 + 1]? = some v1 ∧ xs[i * 5 + 2]? = some v2 ∧ xs[i * 5 + 3]? = some v3 ∧ xs[i * 5 + 4]? = some v4 ∧ InS Sc W1 ks[i] (.agg #[v0, v1, v2, v3, v4]))
    (hg : W1.grownBy W2 (ob a n c)) (hat : ob a n c = some g ∨ g = W1.heap.size) (he : InS Sc W1 e (.agg #[v0, v1, v2, v3, v4]))
    (ho : W2.ownsRow N 30 5 (.slice (some ⟨g, 0, none⟩) (n + 1) cap) (n + 1) (xs ++ [v0, v1, v2, v3, v4])) :
    Wi N Sc sp nm aA nA cA w row (ks ++ [e]) (some ⟨g, 0, none⟩) (n + 1) cap (W2.setCell ⟨w.heap.size, 4, none⟩ (.slice (some ⟨g, 0, none⟩) (n + 1) cap)) := by
  have h1 := heap_lt h.eb
  have h2 := heap_lt h.rb
  have hne : ∀ b, b = w.heap.size ∨ b = w.heap.size + 1 → some b ≠ ob a n c := by
    rintro b hb e
    rcases h.loc with h3 | h3
    · have := hrow b (h3.symm.trans e.symm); omega
    · have := h3 b e.symm; omega
  have hgl : g ≠ w.heap.size ∧ g ≠ w.heap.size + 1 := by
    rcases hat with h3 | h3
    · exact ⟨fun e => hne g (.inl e) h3.symm, fun e => hne g (.inr e) h3.symm⟩
    · omega
  have hSne : ∀ b, Sc b → some b ≠ ob a n c := fun b hb e => by
    obtain ⟨q1, q2⟩ := hS b hb
    rcases h.loc with h3 | h3
    · exact q2 (h3.symm.trans e.symm)
    · have := h3 b e.symm; omega
  have hs := h.gr.size
  have hob : ob (some ⟨g, 0, none⟩) (n + 1) cap = some g := rfl
  have hSk : ∀ b, Sc b → (W2.setCell ⟨w.heap.size, 4, none⟩ (.slice (some ⟨g, 0, none⟩) (n + 1) cap)).heap[b]? = W1.heap[b]? := fun b hb => by
    obtain ⟨q1, q2⟩ := hS b hb
    rw [setCell_other (by omega)]
    exact hg.block b (by omega) (hSne b hb)
  have hown := own_keep (w' := W2.setCell ⟨w.heap.size, 4, none⟩ (.slice (some ⟨g, 0, none⟩) (n + 1) cap)) ho fun b e => by
    have e2 : g = b := by simpa [Value.ownBlock] using e
    exact setCell_other (by omega)
  have hln := h.ln
  refine ⟨?_, ?_, ?_, by rw [hln]; simp, ?_, ?_⟩
  · refine gr_set ?_ (Nat.le_refl _)
    refine ⟨hg.os.trans h.gr.os, hg.tape.trans h.gr.tape, hg.output.trans h.gr.output, Nat.le_trans hs hg.size, fun b hb hn => ?_⟩
    refine (hg.block b (by omega) fun e => ?_).trans (h.gr.block b hb hn)
    rcases h.loc with h3 | h3
    · exact hn (e.trans h3)
    · have := h3 b e.symm; omega
  · have q := (hg.block _ h1 (hne _ (.inl rfl))).trans h.eb
    have := setI q 4 (.slice (some ⟨g, 0, none⟩) (n + 1) cap)
    simpa using this
  · exact (setCell_other (by omega)).trans ((hg.block _ h2 (hne _ (.inr rfl))).trans h.rb)
  · have hown2 := hown
    subst hln
    refine KRow.snoc hown2 (by simpa using hxs.1) (fun i hi => ?_) (he.keep fun b hb _ => hSk b hb)
    obtain ⟨u0, u1, u2, u3, u4, q0, q1, q2, q3, q4, q5⟩ := hx i hi
    exact ⟨u0, u1, u2, u3, u4, q0, q1, q2, q3, q4, q5.keep fun b hb _ => hSk b hb⟩
  · rcases hat with h3 | h3
    · rcases h.loc with h4 | h4
      · exact .inl (h3.symm.trans h4)
      · exact .inr fun b e => h4 b (h3.trans e)
    · refine .inr fun b e => ?_
      have e2 : g = b := by simpa [Value.ownBlock] using e
      omega
end Go.Proofs.YtlklmoohoobjjaaGreatDoor
