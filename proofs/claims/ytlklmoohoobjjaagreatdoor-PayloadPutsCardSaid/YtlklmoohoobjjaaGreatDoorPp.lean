/- Elements that a call makes: a row of kids of its own; what changes beside that row. No condition. -/
import Derived.Test.YtlklmoohoobjjaaGreatDoorBa
namespace Go.Proofs.YtlklmoohoobjjaaGreatDoor
open Go.RowKit Go.Lib Go.Shelf Tg

/-- The own block of a slice. -/
abbrev ob (a : Option Addr) (n c : Nat) : Option Nat := (Value.slice a n c).ownBlock
theorem setCell_other {W : World} {P i b : Nat} {u : Value} (h : b ≠ P) : (W.setCell ⟨P, i, none⟩ u).heap[b]? = W.heap[b]? := Below.heap_setCell _ _ _ _ h
theorem setI {W : World} {P : Nat} {cs : Array Value} {t : TypeId} {fz : Nat × Nat} (h : W.heap[P]? = some (.cells cs t fz)) (i : Nat) (u : Value) : (W.setCell ⟨P, i, none⟩ u).heap[P]? = some (.cells (cs.setIfInBounds i u) t fz) := by
  simp [World.setCell, Array.getElem?_modify, h]
theorem set5 (cs : Array Value) (hs : cs.size = 5) (v0 v1 v2 v3 v4 : Value) : ((((cs.setIfInBounds 0 v0).setIfInBounds 1 v1).setIfInBounds 2 v2).setIfInBounds 3 v3).setIfInBounds 4 v4 = #[v0, v1, v2, v3, v4] := by
  obtain ⟨l⟩ := cs
  match l, hs with
  | [a0, a1, a2, a3, a4], _ => simp
theorem gr_set {w W : World} {P i : Nat} {u : Value} {row : Option Nat} (hg : w.grownBy W row) (hP : w.heap.size ≤ P) : w.grownBy (W.setCell ⟨P, i, none⟩ u) row :=
  ⟨hg.os, hg.tape, hg.output, by simpa [World.setCell] using hg.size, fun b hb hne => (setCell_other (by omega)).trans (hg.block b hb hne)⟩
/-- An element is stored into a box. -/
theorem st5 {W : World} {P : Nat} {cs : Array Value} {t : TypeId} (h : W.heap[P]? = some (.cells cs t (0, 0))) (v0 v1 v2 v3 v4 : Value) (hs : cs.size = 5) :
    ∃ W', W' = (((((W.setCell ⟨P, 0, none⟩ v0).setCell ⟨P, 1, none⟩ v1).setCell ⟨P, 2, none⟩ v2).setCell ⟨P, 3, none⟩ v3).setCell ⟨P, 4, none⟩ v4) ∧
      W'.heap[P]? = some (.cells #[v0, v1, v2, v3, v4] t (0, 0)) ∧ (∀ b, b ≠ P → W'.heap[b]? = W.heap[b]?) ∧ (∀ (B : Nat) (w : World), Below B w W → B ≤ P → Below B w W') ∧ (∀ (w : World) (row : Option Nat), w.grownBy W row → w.heap.size ≤ P → w.grownBy W' row) := by
  refine ⟨_, rfl, ?_, fun b hb => ?_, fun B w hb hP => ?_, fun w row hg hP => ?_⟩
  · rw [← set5 cs hs v0 v1 v2 v3 v4]
    exact setI (setI (setI (setI (setI h 0 v0) 1 v1) 2 v2) 3 v3) 4 v4
  · rw [setCell_other hb, setCell_other hb, setCell_other hb, setCell_other hb, setCell_other hb]
  · exact ((((hb.setCell hP _).setCell hP _).setCell hP _).setCell hP _).setCell hP _
  · exact gr_set (gr_set (gr_set (gr_set (gr_set hg hP) hP) hP) hP) hP
theorem gr_bel {w W W' : World} {row : Option Nat} (hg : w.grownBy W row) (hb : Below W.heap.size W W') : w.grownBy W' row :=
  ⟨hb.os.trans hg.os, hb.tape.trans hg.tape, hb.output.trans hg.output, Nat.le_trans hg.size hb.size, fun b h hne => (hb.block b (Nat.lt_of_lt_of_le h hg.size)).trans (hg.block b h hne)⟩
theorem gr_of {w W : World} (hb : Below w.heap.size w W) (row : Option Nat) : w.grownBy W row := ⟨hb.os, hb.tape, hb.output, hb.size, fun b h _ => hb.block b h⟩
/-- What turns no block of the caller's. -/
theorem bel_gr {w W : World} {N : Nat} {row : Option Nat} (hg : w.grownBy W row) (hN : N ≤ w.heap.size) (hr : ∀ b, row = some b → N ≤ b) : Below N w W :=
  ⟨hg.os, hg.tape, hg.output, hg.size, fun b h => hg.block b (by omega) fun e => by have := hr b e.symm; omega⟩
theorem KR.lt {N c : Nat} {ks : List El} {a : Option Addr} {W : World} (h : KR N ks a c W) : ∀ b, ob a ks.length c = some b → N ≤ b ∧ b < W.heap.size := fun b e => by
  obtain ⟨xs, h1, _⟩ := h.own
  obtain ⟨q1, _, q2⟩ := own_heap h1 e
  exact ⟨q1, heap_lt q2⟩
/-- An element that the call made: its Text is empty, its kids lie in a row of its own (from block N on), what it holds lies in blocks of S. -/
structure Oe (N : Nat) (S : Nat → Prop) (w : World) (sp nm : ByteArray) (l : List At) (ks : List El) (aA : Option Addr) (cA : Nat) (aK : Option Addr) (cK : Nat) : Prop where
  sz : Szd sp nm ⟨#[]⟩ l
  at_ : SlA (fun b => S b ∧ ob aK ks.length cK ≠ some b) w (.slice aA l.length cA) l
  kr : KRow N (fun b => S b ∧ ob aK ks.length cK ≠ some b) w (.slice aK ks.length cK) ks
theorem Oe.lt {N cA cK : Nat} {S : Nat → Prop} {w : World} {sp nm : ByteArray} {l : List At} {ks : List El} {aA aK : Option Addr} (h : Oe N S w sp nm l ks aA cA aK cK) : ∀ b, ob aK ks.length cK = some b → N ≤ b ∧ b < w.heap.size := fun b e => by
  obtain ⟨xs, h1, _⟩ := h.kr
  obtain ⟨q1, _, q2⟩ := own_heap h1 e
  exact ⟨q1, heap_lt q2⟩
theorem Oe.st {N cA cK : Nat} {S : Nat → Prop} {w w' : World} {sp nm : ByteArray} {l : List At} {ks : List El} {aA aK : Option Addr} (h : Oe N S w sp nm l ks aA cA aK cK) (hb : Below w.heap.size w w') : Oe N S w' sp nm l ks aA cA aK cK :=
  ⟨h.sz, h.at_.below hb, h.kr.below hb⟩
theorem Oe.weak {N M cA cK : Nat} {S S' : Nat → Prop} {w : World} {sp nm : ByteArray} {l : List At} {ks : List El} {aA aK : Option Addr} (h : Oe N S w sp nm l ks aA cA aK cK) (hs : ∀ b, b < w.heap.size → S b → S' b) (hM : M ≤ N) : Oe M S' w sp nm l ks aA cA aK cK := by
  refine ⟨h.sz, h.at_.weak fun b hb h => ⟨hs b hb h.1, h.2⟩, ?_⟩
  have q := h.kr.keep (S' := fun b => S' b ∧ ob aK ks.length cK ≠ some b) (w' := w) (fun b hb h => ⟨hs b hb h.1, h.2⟩) (fun _ _ _ => rfl) (fun _ _ => rfl)
  obtain ⟨xs, h1, h2⟩ := q
  refine ⟨xs, ⟨h1.1, ?_⟩, h2⟩
  rcases h1.2 with e | ⟨g, cap, cur, e1, e2, e3⟩
  · exact .inl e
  · exact .inr ⟨g, cap, cur, e1, by omega, e3⟩
theorem Oe.keep {N cA cK : Nat} {S : Nat → Prop} {w w' : World} {sp nm : ByteArray} {l : List At} {ks : List El} {aA aK : Option Addr} (h : Oe N S w sp nm l ks aA cA aK cK) (hk : ∀ b, S b ∨ ob aK ks.length cK = some b → w'.heap[b]? = w.heap[b]?) : Oe N S w' sp nm l ks aA cA aK cK :=
  ⟨h.sz, h.at_.keep fun b hb _ => hk b (.inl hb.1), h.kr.keep (fun _ _ h => h) (fun b hb _ => hk b (.inl hb.1)) fun b e => hk b (.inr e)⟩
theorem Oe.put {N T i cA cK : Nat} {S : Nat → Prop} {w : World} {sp nm : ByteArray} {l : List At} {ks : List El} {aA aK : Option Addr} {u : Value} (h : Oe N S w sp nm l ks aA cA aK cK) (hT : ¬ S T) (hN : ob aK ks.length cK ≠ some T) : Oe N S (w.setCell ⟨T, i, none⟩ u) sp nm l ks aA cA aK cK :=
  h.keep fun b hb => setCell_other fun e => by
    subst e
    exact hb.elim hT hN
theorem Oe.ins {N cA cK : Nat} {S : Nat → Prop} {w : World} {sp nm : ByteArray} {l : List At} {ks : List El} {aA aK : Option Addr} (h : Oe N S w sp nm l ks aA cA aK cK) : InS (fun b => N ≤ b ∨ S b) w (.mk sp nm l ⟨#[]⟩ ks) (.agg #[.string sp, .string nm, .slice aA l.length cA, .string ⟨#[]⟩, .slice aK ks.length cK]) :=
  InS.make h.sz (h.at_.weak fun _ _ hb => .inr hb.1) ((KRow.slK h.kr).weak fun _ _ hb => hb.elim .inl fun h => .inr h.1)
theorem ins_at {S : Nat → Prop} {w : World} {e : El} {v0 v1 v2 v3 v4 : Value} (h : InS S w e (.agg #[v0, v1, v2, v3, v4])) : SlA S w v2 e.atr ∧ Szd e.sp e.nm e.tx e.atr := by
  generalize hv : Value.agg #[v0, v1, v2, v3, v4] = v at h
  cases h with
  | mk sp nm atr tx ks a aK cK V h0 h1 h2 h3 h4 =>
    simp at hv
    obtain ⟨_, _, rfl, _, _⟩ := hv
    exact ⟨h1, h0⟩
/-- What New made, without kids as it is. -/
theorem Oe.new {cA : Nat} {S : Nat → Prop} {w' : World} {sp nm : ByteArray} {l : List At} {aA : Option Addr} (h : InS S w' (.mk sp nm l ⟨#[]⟩ []) (.agg #[.string sp, .string nm, .slice aA l.length cA, .string ⟨#[]⟩, .slice none 0 0])) (N : Nat) : Oe N S w' sp nm l [] aA cA none 0 := by
  obtain ⟨h1, h2⟩ := ins_at h
  exact ⟨h2, h1.weak fun _ _ hb => ⟨hb, fun e => by cases e⟩, KRow.nil _ _ _⟩
/-- An element without attributes and kids, wherever one begins to count. -/
theorem Oe.bare {S : Nat → Prop} {cA : Nat} {w' : World} {sp nm : ByteArray} {aA : Option Addr} (h : InS S w' (.mk sp nm [] ⟨#[]⟩ []) (.agg #[.string sp, .string nm, .slice aA 0 cA, .string ⟨#[]⟩, .slice none 0 0])) (M : Nat) (S' : Nat → Prop) (W : World) : Oe M S' W sp nm [] [] aA cA none 0 := by
  obtain ⟨⟨a, c, h1, h2, h3, _⟩, h4⟩ := ins_at h
  simp only [Value.slice.injEq] at h1
  obtain ⟨rfl, _, rfl⟩ := h1
  exact ⟨h4, ⟨_, _, rfl, h2, h3, fun i h => absurd h (Nat.not_lt_zero _)⟩, KRow.nil _ _ _⟩
/-- An element in another space. -/
def reS (sp : ByteArray) (k : El) : El := .mk sp k.nm k.atr k.tx k.ks
theorem ins_re {S : Nat → Prop} {w : World} {e : El} {sp : ByteArray} {v0 v1 v2 v3 v4 : Value} (h : InS S w e (.agg #[v0, v1, v2, v3, v4])) (hs : sp.size ≤ 140737488351232) : InS S w (reS sp e) (.agg #[.string sp, v1, v2, v3, v4]) := by
  generalize hv : Value.agg #[v0, v1, v2, v3, v4] = v at h
  cases h with
  | mk sp0 nm atr tx ks a aK cK V h0 h1 h2 h3 h4 =>
    simp at hv
    obtain ⟨rfl, rfl, rfl, rfl, rfl⟩ := hv
    exact .mk _ _ _ _ _ _ _ _ V ⟨⟨hs, h0.1.2⟩, h0.2⟩ h1 h2 h3 h4
/-- What makes an element of the call's own answers. -/
def ElP (E : El) (w : World) (r : Ending) (w' : World) : Prop := ∃ v, r = .returned v ∧ InS (fun b => w.heap.size ≤ b) w' E v ∧ Below w.heap.size w w'
/-- A kid with a text alone, as it lies in a row. -/
theorem ins_leaf (S : Nat → Prop) (w : World) (sp nm tx : ByteArray) (h1 : sp.size ≤ 140737488351232) (h2 : nm.size ≤ 140737488351232) (h3 : tx.size ≤ 140737488351232) : InS S w (.mk sp nm [] tx []) (.agg #[.string sp, .string nm, .slice none 0 0, .string tx, .slice none 0 0]) :=
  .mk _ _ _ _ [] _ _ _ (fun _ _ => .bool false) ⟨⟨h1, h2, h3, by decide⟩, fun a h => by cases h⟩ (SlA.nil _ _) (Nat.zero_le _) (fun i h => by cases h) (fun i h => by cases h)
end Go.Proofs.YtlklmoohoobjjaaGreatDoor
