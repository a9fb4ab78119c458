/- An element in a box of the call's own that gets kids one by one. No condition. -/
import Derived.Test.YtlklmoohoobjjaaGreatDoorPf
namespace Go.Proofs.YtlklmoohoobjjaaGreatDoor
open Go.RowKit Go.Lib Go.Shelf Tg

/-- What a call that makes an element keeps: its answer's box (block Q, not ahead of w's end), the element's box T, what lies in it. -/
structure Fm (w : World) (Q T : Nat) (sp nm : ByteArray) (aA : Option Addr) (cA : Nat) (ks : List El) (a : Option Addr) (c : Nat) (W : World) : Prop where
  bel : Below w.heap.size w W
  ql : w.heap.size ≤ Q
  rb : W.heap[Q]? = some (.cells #[.string ⟨#[]⟩, .string ⟨#[]⟩, .slice none 0 0, .string ⟨#[]⟩, .slice none 0 0] 30 (0, 0))
  tb : W.heap[T]? = some (.cells #[.string sp, .string nm, .slice aA 0 cA, .string ⟨#[]⟩, .slice a ks.length c] 30 (0, 0))
  oe : Oe (Q + 1) (fun b => Q < b ∧ b ≠ T) W sp nm [] ks aA cA a c
  nt : ob a ks.length c ≠ some T
  lt : Q < T
theorem Fm.st {w W W' : World} {Q T cA c : Nat} {sp nm : ByteArray} {aA a : Option Addr} {ks : List El} (h : Fm w Q T sp nm aA cA ks a c W) (hb : Below W.heap.size W W') : Fm w Q T sp nm aA cA ks a c W' :=
  ⟨h.bel.trans (hb.mono h.bel.size), h.ql, (hb.block _ (heap_lt h.rb)).trans h.rb, (hb.block _ (heap_lt h.tb)).trans h.tb, h.oe.st hb, h.nt, h.lt⟩
/-- The element's cells, in whatever world behind. -/
theorem Fm.load {w W : World} {Q T cA c : Nat} {sp nm : ByteArray} {aA a : Option Addr} {ks : List El} (h : Fm w Q T sp nm aA cA ks a c W) : W.cell? ⟨T, 0, none⟩ = some (.string sp) ∧ W.cell? ⟨T, 1, none⟩ = some (.string nm) ∧ W.cell? ⟨T, 2, none⟩ = some (.slice aA 0 cA) ∧ W.cell? ⟨T, 3, none⟩ = some (.string ⟨#[]⟩) ∧ W.cell? ⟨T, 4, none⟩ = some (.slice a ks.length c) := bx5 h.tb
/-- The call of with: what it may be asked. -/
theorem Fm.with_ {w W : World} {Q T cA c cQ : Nat} {sp nm : ByteArray} {aA a aQ : Option Addr} {ks qs : List El} (h : Fm w Q T sp nm aA cA ks a c W) (W0 : World) (hW0 : T < W0.heap.size) (ho : ∀ b, ob a ks.length c = some b → b < W0.heap.size) (hQ : KsS (fun b => W0.heap.size ≤ b) W aQ qs) (hl : ks.length + qs.length ≤ 1000) :
    Calls Tryz.prog 33 #[.agg #[.string sp, .string nm, .slice aA 0 cA, .string ⟨#[]⟩, .slice a ks.length c], .slice aQ qs.length cQ] W (WiP (Q + 1) (fun b => Q < b ∧ b ≠ T) sp nm [] (ks ++ qs.map (reS sp)) aA cA (ob a ks.length c) W) :=
  with_any (Q + 1) _ sp nm [] ks qs aA a aQ cA c cQ W (heap_lt h.rb) h.oe (hQ.weak fun b _ hb => ⟨⟨Nat.lt_of_lt_of_le h.lt (Nat.le_trans (Nat.le_of_lt hW0) hb), fun e => by omega⟩, fun e => by have := ho b e; omega⟩) hl
/-- The element with kids more, stored into its box. -/
theorem Fm.put {w W W2 : World} {Q T cA c c' : Nat} {sp nm : ByteArray} {aA a a' : Option Addr} {ks ks' : List El} (h : Fm w Q T sp nm aA cA ks a c W) (ho : Oe (Q + 1) (fun b => Q < b ∧ b ≠ T) W2 sp nm [] ks' aA cA a' c') (hg : W.grownBy W2 (ob a ks.length c)) (hl : ob a' ks'.length c' = ob a ks.length c ∨ ∀ b, ob a' ks'.length c' = some b → W.heap.size < b) :
    Fm w Q T sp nm aA cA ks' a' c' (((((W2.setCell ⟨T, 0, none⟩ (.string sp)).setCell ⟨T, 1, none⟩ (.string nm)).setCell ⟨T, 2, none⟩ (.slice aA 0 cA)).setCell ⟨T, 3, none⟩ (.string ⟨#[]⟩)).setCell ⟨T, 4, none⟩ (.slice a' ks'.length c')) := by
  have hT := h.lt
  have hq := h.ql
  have hTW := heap_lt h.tb
  have hnQ : ob a ks.length c ≠ some Q := fun e => by have := (h.oe.lt Q e).1; omega
  have hnt : ob a' ks'.length c' ≠ some T := fun e => by
    rcases hl with h1 | h1
    · exact h.nt (h1.symm.trans e)
    · have := h1 T e; omega
  have hb2 : Below w.heap.size w W2 := h.bel.grown hg h.bel.size fun b e => by have := (h.oe.lt b e).1; omega
  have hr2 := (hg.block _ (heap_lt h.rb) (fun e => hnQ e.symm)).trans h.rb
  have ht2 := (hg.block _ hTW (fun e => h.nt e.symm)).trans h.tb
  obtain ⟨W3, hW3, q1, q2, q3, _⟩ := st5 ht2 (.string sp) (.string nm) (.slice aA 0 cA) (.string ⟨#[]⟩) (.slice a' ks'.length c') rfl
  rw [← hW3]
  refine ⟨q3 _ _ hb2 (by omega), hq, (q2 _ (by omega)).trans hr2, q1, ho.keep (fun b hb => q2 b ?_), hnt, hT⟩
  rcases hb with hb | hb
  · exact hb.2
  · intro e; subst e; exact hnt hb
/-- Behind the store of the element into the answer's box. -/
theorem Fm.fin {w W : World} {Q T cA c : Nat} {sp nm : ByteArray} {aA a : Option Addr} {ks : List El} (h : Fm w Q T sp nm aA cA ks a c W) {u0 u1 u2 u3 u4 : Value} :
    InS (fun b => w.heap.size ≤ b) (((((W.setCell ⟨Q, 0, none⟩ u0).setCell ⟨Q, 1, none⟩ u1).setCell ⟨Q, 2, none⟩ u2).setCell ⟨Q, 3, none⟩ u3).setCell ⟨Q, 4, none⟩ u4) (.mk sp nm [] ⟨#[]⟩ ks) (.agg #[.string sp, .string nm, .slice aA 0 cA, .string ⟨#[]⟩, .slice a ks.length c]) ∧
    Below w.heap.size w (((((W.setCell ⟨Q, 0, none⟩ u0).setCell ⟨Q, 1, none⟩ u1).setCell ⟨Q, 2, none⟩ u2).setCell ⟨Q, 3, none⟩ u3).setCell ⟨Q, 4, none⟩ u4) := by
  obtain ⟨W3, hW3, q1, q2, q3, _⟩ := st5 h.rb u0 u1 u2 u3 u4 rfl
  rw [← hW3]
  have hq := h.ql
  refine ⟨(h.oe.keep (fun b hb => q2 b ?_)).ins.weak fun b _ hb => ?_, q3 _ _ h.bel h.ql⟩
  · rcases hb with hb | hb
    · omega
    · have := (h.oe.lt b hb).1; omega
  · rcases hb with hb | hb
    · omega
    · have := hb.1; omega
/-- The element with kids more, stored into the answer's box at once. -/
theorem Oe.fin {w W2 : World} {Q cA c : Nat} {S : Nat → Prop} {sp nm : ByteArray} {l : List At} {aA a : Option Addr} {ks : List El} (h : Oe (Q + 1) S W2 sp nm l ks aA cA a c) (hb : Below w.heap.size w W2) (hr : W2.heap[Q]? = some (.cells #[.string ⟨#[]⟩, .string ⟨#[]⟩, .slice none 0 0, .string ⟨#[]⟩, .slice none 0 0] 30 (0, 0))) (hq : w.heap.size ≤ Q) (hS : ∀ b, S b → Q < b) {u0 u1 u2 u3 u4 : Value} :
    InS (fun b => w.heap.size ≤ b) (((((W2.setCell ⟨Q, 0, none⟩ u0).setCell ⟨Q, 1, none⟩ u1).setCell ⟨Q, 2, none⟩ u2).setCell ⟨Q, 3, none⟩ u3).setCell ⟨Q, 4, none⟩ u4) (.mk sp nm l ⟨#[]⟩ ks) (.agg #[.string sp, .string nm, .slice aA l.length cA, .string ⟨#[]⟩, .slice a ks.length c]) ∧
    Below w.heap.size w (((((W2.setCell ⟨Q, 0, none⟩ u0).setCell ⟨Q, 1, none⟩ u1).setCell ⟨Q, 2, none⟩ u2).setCell ⟨Q, 3, none⟩ u3).setCell ⟨Q, 4, none⟩ u4) := by
  obtain ⟨W3, hW3, q1, q2, q3, _⟩ := st5 hr u0 u1 u2 u3 u4 rfl
  rw [← hW3]
  refine ⟨(h.keep (fun b hb => q2 b ?_)).ins.weak fun b _ hb => ?_, q3 _ _ hb hq⟩
  · rcases hb with hb | hb
    · have := hS b hb; omega
    · have := (h.lt b hb).1; omega
  · rcases hb with hb | hb
    · omega
    · have := hS b hb; omega
/-- A new element without kids, stored into a box of its own. -/
theorem Fm.new {w W : World} {Q cA : Nat} {S : Nat → Prop} {sp nm : ByteArray} {aA : Option Addr} (hb : Below w.heap.size w W) (hq : w.heap.size ≤ Q) (hr : W.heap[Q]? = some (.cells #[.string ⟨#[]⟩, .string ⟨#[]⟩, .slice none 0 0, .string ⟨#[]⟩, .slice none 0 0] 30 (0, 0))) (hi : InS S W (.mk sp nm [] ⟨#[]⟩ []) (.agg #[.string sp, .string nm, .slice aA 0 cA, .string ⟨#[]⟩, .slice none 0 0])) :
    Fm w Q W.heap.size sp nm aA cA [] none 0 (W.alloc (.cells #[.string sp, .string nm, .slice aA 0 cA, .string ⟨#[]⟩, .slice none 0 0] 30)) :=
  ⟨hb.alloc hb.size _, hq, (Below.heap_alloc _ _ _ (heap_lt hr)).trans hr, box_new W _ _, Oe.bare hi _ _ _, fun e => (by cases e), heap_lt hr⟩
/-- An element with kids, stored into a box of its own. -/
theorem Fm.of {w W : World} {Q cA c : Nat} {S : Nat → Prop} {sp nm : ByteArray} {aA a : Option Addr} {ks : List El} (hb : Below w.heap.size w W) (hq : w.heap.size ≤ Q) (hr : W.heap[Q]? = some (.cells #[.string ⟨#[]⟩, .string ⟨#[]⟩, .slice none 0 0, .string ⟨#[]⟩, .slice none 0 0] 30 (0, 0))) (ho : Oe (Q + 1) S W sp nm [] ks aA cA a c) (hS : ∀ b, b < W.heap.size → S b → Q < b) :
    Fm w Q W.heap.size sp nm aA cA ks a c (W.alloc (.cells #[.string sp, .string nm, .slice aA 0 cA, .string ⟨#[]⟩, .slice a ks.length c] 30)) :=
  ⟨hb.alloc hb.size _, hq, (Below.heap_alloc _ _ _ (heap_lt hr)).trans hr, box_new W _ _, (ho.weak (fun b hb h => ⟨hS b hb h, by omega⟩) (Nat.le_refl _)).st ((Below.refl _ W).alloc (Nat.le_refl _) _), fun e => by have := (ho.lt _ e).2; omega, heap_lt hr⟩
end Go.Proofs.YtlklmoohoobjjaaGreatDoor
