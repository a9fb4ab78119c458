/- Elements in memory, in blocks of a set; tag.attr, tag.Attr, tag.New, the document's Attr. Conditions: those of each theorem's head. -/
import Derived.Test.YtlklmoohoobjjaaGreatDoorAc
import Derived.Deep.AppendLies
import Derived.Deep.RegionLaw
import Derived.Deep.RegionHeld3
import Derived.Deep.DeepCutAuto
import Derived.IntWalk

namespace Go.Proofs.YtlklmoohoobjjaaGreatDoor
open Go.RowKit Go.Lib Go.Shelf Tg

abbrev At := ByteArray × ByteArray
/-! ### A list of pairs of texts in memory -/
/-- Behind a lie the pairs l, in blocks of S. -/
def AtS (S : Nat → Prop) (w : World) (a : Option Addr) (l : List At) : Prop :=
  ∀ i (h : i < l.length), ∃ b o, a = some ⟨b, o, none⟩ ∧ S b ∧ w.cell? ⟨b, o + i * 2, none⟩ = some (.string l[i].1) ∧ w.cell? ⟨b, o + i * 2 + 1, none⟩ = some (.string l[i].2)
theorem AtS.weak {S S' : Nat → Prop} {w : World} {a : Option Addr} {l : List At} (h : AtS S w a l) (hs : ∀ b, b < w.heap.size → S b → S' b) : AtS S' w a l := fun i hi => by
  obtain ⟨b, o, ha, hS, h1, h2⟩ := h i hi
  exact ⟨b, o, ha, hs b (World.block_lt_of_cell? w _ h1) hS, h1, h2⟩
/-- What keeps the blocks of S keeps the pairs. -/
theorem AtS.keep {S : Nat → Prop} {w w' : World} {a : Option Addr} {l : List At} (h : AtS S w a l) (hk : ∀ b, S b → b < w.heap.size → w'.heap[b]? = w.heap[b]?) : AtS S w' a l := fun i hi => by
  obtain ⟨b, o, ha, hS, h1, h2⟩ := h i hi
  have hb := hk b hS (World.block_lt_of_cell? w _ h1)
  exact ⟨b, o, ha, hS, (World.cell?_of_block (a := ⟨b, o + i * 2, none⟩) hb).trans h1, (World.cell?_of_block (a := ⟨b, o + i * 2 + 1, none⟩) hb).trans h2⟩
theorem AtS.below {S : Nat → Prop} {w w' : World} {a : Option Addr} {l : List At} (h : AtS S w a l) (hb : Below w.heap.size w w') : AtS S w' a l := h.keep fun b _ hlt => hb.block b hlt
/-! ### Rows of pairs -/
def cellsA (l : List At) : List Value := l.flatMap fun a => [.string a.1, .string a.2]
theorem cellsA_append (l m : List At) : cellsA (l ++ m) = cellsA l ++ cellsA m := by simp [cellsA]
theorem cellsA_one (a : At) : cellsA [a] = [.string a.1, .string a.2] := rfl
theorem cellsA_len (l : List At) : (cellsA l).length = l.length * 2 := by
  induction l with
  | nil => rfl
  | cons a r ih => simp only [cellsA, List.flatMap_cons, List.length_append, List.length_cons, List.length_nil] at ih ⊢; omega
theorem cellsA_at {l : List At} {i : Nat} (h : i < l.length) : (cellsA l)[i * 2]? = some (.string l[i].1) ∧ (cellsA l)[i * 2 + 1]? = some (.string l[i].2) := by
  induction l generalizing i with
  | nil => cases h
  | cons a r ih =>
    have e : cellsA (a :: r) = .string a.1 :: .string a.2 :: cellsA r := rfl
    cases i with
    | zero => rw [e]; exact ⟨rfl, rfl⟩
    | succ i =>
      obtain ⟨h1, h2⟩ := ih (i := i) (by simpa using h)
      rw [e, show (i + 1) * 2 = i * 2 + 1 + 1 by omega]
      exact ⟨by simpa using h1, by simpa using h2⟩
/-- A slice that holds the pairs l, in blocks of S. -/
def SlA (S : Nat → Prop) (w : World) (v : Value) (l : List At) : Prop := ∃ a c, v = .slice a l.length c ∧ l.length ≤ c ∧ c ≤ maxLen ∧ AtS S w a l
theorem SlA.nil (S : Nat → Prop) (w : World) : SlA S w (.slice none 0 0) [] := ⟨none, 0, rfl, Nat.le_refl _, Nat.zero_le _, fun i h => by cases h⟩
theorem SlA.weak {S S' : Nat → Prop} {w : World} {v : Value} {l : List At} (h : SlA S w v l) (hs : ∀ b, b < w.heap.size → S b → S' b) : SlA S' w v l := by
  obtain ⟨a, c, h1, h2, h3, h4⟩ := h
  exact ⟨a, c, h1, h2, h3, h4.weak hs⟩
theorem SlA.keep {S : Nat → Prop} {w w' : World} {v : Value} {l : List At} (h : SlA S w v l) (hk : ∀ b, S b → b < w.heap.size → w'.heap[b]? = w.heap[b]?) : SlA S w' v l := by
  obtain ⟨a, c, h1, h2, h3, h4⟩ := h
  exact ⟨a, c, h1, h2, h3, h4.keep hk⟩
theorem SlA.below {S : Nat → Prop} {w w' : World} {v : Value} {l : List At} (h : SlA S w v l) (hb : Below w.heap.size w w') : SlA S w' v l := h.keep fun b _ hlt => hb.block b hlt
theorem SlA.own {w : World} {B : Nat} {T : TypeId} {v : Value} {l : List At} (h : w.ownsRow B T 2 v l.length (cellsA l)) : SlA (fun b => B ≤ b) w v l := by
  rcases h.2 with ⟨rfl, h0⟩ | ⟨g, cap, cur, rfl, hb, hg, hn, hc, hs, ht⟩
  · obtain rfl := List.length_eq_zero_iff.1 h0
    exact SlA.nil _ _
  · refine ⟨_, _, rfl, hn, hc, fun i hi => ⟨g, 0, rfl, hb, ?_, ?_⟩⟩
    · have := (cellsA_at hi).1
      rw [← ht, List.getElem?_take] at this
      rw [Lib.cell_of_heap hg, Nat.zero_add]
      split at this
      · simpa using this
      · cases this
    · have := (cellsA_at hi).2
      rw [← ht, List.getElem?_take] at this
      rw [Lib.cell_of_heap hg, Nat.zero_add]
      split at this
      · simpa using this
      · cases this
theorem infoAttr : (Tryz.prog.info? 64).map (fun i => (i.zero, i.size, i.bytes)) = some (some (.agg #[.string ⟨#[]⟩, .string ⟨#[]⟩]), 2, 32) := by kernel_rfl
theorem infoElem : (Tryz.prog.info? 30).map (fun i => (i.zero, i.size, i.bytes)) = some (some (.agg #[.string ⟨#[]⟩, .string ⟨#[]⟩, .slice none 0 0, .string ⟨#[]⟩, .slice none 0 0]), 5, 96) := by kernel_rfl

/-! ### Elements in blocks of a set -/
inductive InS (S : Nat → Prop) (w : World) : El → Value → Prop
  | mk (sp nm : ByteArray) (atr : List At) (tx : ByteArray) (ks : List El) (a : Value) (aK : Option Addr) (cK : Nat) (V : Nat → Nat → Value) :
      Szd sp nm tx atr → SlA S w a atr → ks.length ≤ maxLen →
      (∀ i, i < ks.length → ∃ b o, aK = some ⟨b, o, none⟩ ∧ S b ∧ Five w b (o + i * 5) (V i 0) (V i 1) (V i 2) (V i 3) (V i 4)) →
      (∀ i (h : i < ks.length), InS S w ks[i] (.agg #[V i 0, V i 1, V i 2, V i 3, V i 4])) →
      InS S w (.mk sp nm atr tx ks) (.agg #[.string sp, .string nm, a, .string tx, .slice aK ks.length cK])
theorem Five.lt {w : World} {b o : Nat} {v0 v1 v2 v3 v4 : Value} (h : Five w b o v0 v1 v2 v3 v4) : b < w.heap.size := World.block_lt_of_cell? w _ h.1
theorem Five.keep {w w' : World} {b o : Nat} {v0 v1 v2 v3 v4 : Value} (h : Five w b o v0 v1 v2 v3 v4) (hb : w'.heap[b]? = w.heap[b]?) : Five w' b o v0 v1 v2 v3 v4 :=
  ⟨(World.cell?_of_block (a := ⟨b, o, none⟩) hb).trans h.1, (World.cell?_of_block (a := ⟨b, o + 1, none⟩) hb).trans h.2.1, (World.cell?_of_block (a := ⟨b, o + 2, none⟩) hb).trans h.2.2.1, (World.cell?_of_block (a := ⟨b, o + 3, none⟩) hb).trans h.2.2.2.1, (World.cell?_of_block (a := ⟨b, o + 4, none⟩) hb).trans h.2.2.2.2⟩
theorem InS.keep {S : Nat → Prop} {w w' : World} {e : El} {v : Value} (h : InS S w e v) (hk : ∀ b, S b → b < w.heap.size → w'.heap[b]? = w.heap[b]?) : InS S w' e v := by
  induction h with
  | mk sp nm atr tx ks a aK cK V h0 h1 h2 h3 _ ih =>
    refine .mk sp nm atr tx ks a aK cK V h0 (h1.keep hk) h2 (fun i hi => ?_) ih
    obtain ⟨b, o, ha, hS, hf⟩ := h3 i hi
    exact ⟨b, o, ha, hS, hf.keep (hk b hS hf.lt)⟩
theorem InS.weak {S S' : Nat → Prop} {w : World} {e : El} {v : Value} (h : InS S w e v) (hs : ∀ b, b < w.heap.size → S b → S' b) : InS S' w e v := by
  induction h with
  | mk sp nm atr tx ks a aK cK V h0 h1 h2 h3 _ ih =>
    refine .mk sp nm atr tx ks a aK cK V h0 (h1.weak hs) h2 (fun i hi => ?_) ih
    obtain ⟨b, o, ha, hS, hf⟩ := h3 i hi
    exact ⟨b, o, ha, hs b hf.lt hS, hf⟩
theorem AtS.atIn {S : Nat → Prop} {w : World} {a : Option Addr} {l : List At} (h : AtS S w a l) : AtIn w.heap.size w a l := fun i hi => by
  obtain ⟨b, o, ha, _, h1, h2⟩ := h i hi
  exact ⟨b, o, ha, World.block_lt_of_cell? w _ h1, h1, h2⟩
/-- As layer 5 has it. -/
theorem InS.toIn {S : Nat → Prop} {w : World} {e : El} {v : Value} (h : InS S w e v) : In w.heap.size w e v := by
  induction h with
  | mk sp nm atr tx ks a aK cK V h0 h1 h2 h3 _ ih =>
    obtain ⟨aA, cA, rfl, q1, q2, q3⟩ := h1
    refine .mk sp nm atr tx ks aA cA aK cK V h0 ⟨q1, q2⟩ h2 q3.atIn (fun i hi => ?_) ih
    obtain ⟨b, o, ha, _, hf⟩ := h3 i hi
    exact ⟨b, o, ha, hf.lt, hf⟩
theorem szd0 : Szd ⟨#[]⟩ ⟨#[]⟩ ⟨#[]⟩ [] := ⟨⟨by decide, by decide, by decide, by decide⟩, fun a h => by cases h⟩
theorem InS.zero (S : Nat → Prop) (w : World) : InS S w (.mk ⟨#[]⟩ ⟨#[]⟩ [] ⟨#[]⟩ []) (.agg #[.string ⟨#[]⟩, .string ⟨#[]⟩, .slice none 0 0, .string ⟨#[]⟩, .slice none 0 0]) :=
  .mk _ _ _ _ [] _ _ _ (fun _ _ => .bool false) szd0 (SlA.nil _ _) (Nat.zero_le _) (fun i h => by cases h) (fun i h => by cases h)

theorem own_keep {w w' : World} {N n s : Nat} {T : TypeId} {v : Value} {xs : List Value} (h : w.ownsRow N T s v n xs) (hk : ∀ b, v.ownBlock = some b → w'.heap[b]? = w.heap[b]?) : w'.ownsRow N T s v n xs := by
  refine ⟨h.1, ?_⟩
  rcases h.2 with h3 | ⟨g, cap, cur, rfl, q1, q2, q3⟩
  · exact .inl h3
  · exact .inr ⟨g, cap, cur, rfl, q1, (hk g rfl).trans q2, q3⟩
/-- A row's block, and its type. -/
theorem own_heap {w : World} {N n s : Nat} {T : TypeId} {v : Value} {xs : List Value} (h : w.ownsRow N T s v n xs) {b : Nat} (hb : v.ownBlock = some b) : N ≤ b ∧ ∃ cur, w.heap[b]? = some (.cells cur T (0, 0)) := by
  rcases h.2 with ⟨rfl, _⟩ | ⟨g, cap, cur, rfl, q1, q2, q3⟩
  · cases hb
  · cases hb
    exact ⟨q1, cur, q2⟩
theorem lit_ne {a : ByteArray} {l : List UInt8} (h : a.data.toList ≠ l) : (¬ a.toList = l) ∧ (a.toList == l) = false := by rw [ByteArray.toList_eq]; exact ⟨h, by simpa using h⟩
theorem lit_eq {a : ByteArray} {l : List UInt8} (h : a.data.toList = l) : (a.toList == l) = true := by rw [ByteArray.toList_eq]; simpa using h
theorem nil_ne {a : ByteArray} (h : a.data.toList ≠ []) : a.toList.isEmpty = false ∧ ¬ a.toList = [] ∧ (a.toList != []) = true := by
  rw [ByteArray.toList_eq]
  exact ⟨by simpa using h, h, by simpa using h⟩

theorem InS.stay {S : Nat → Prop} {w w' : World} {e : El} {v : Value} (h : InS S w e v) (hb : Below w.heap.size w w') : InS S w' e v := h.keep fun b _ hlt => hb.block b hlt
/-! ### Kids -/
/-- Behind an address the kids l, in blocks of S. -/
def KsS (S : Nat → Prop) (w : World) (a : Option Addr) (l : List El) : Prop :=
  ∀ i (h : i < l.length), ∃ b o v0 v1 v2 v3 v4, a = some ⟨b, o, none⟩ ∧ S b ∧ Five w b (o + i * 5) v0 v1 v2 v3 v4 ∧ InS S w l[i] (.agg #[v0, v1, v2, v3, v4])
theorem KsS.nil (S : Nat → Prop) (w : World) (a : Option Addr) : KsS S w a [] := fun i h => by cases h
theorem KsS.keep {S : Nat → Prop} {w w' : World} {a : Option Addr} {l : List El} (h : KsS S w a l) (hk : ∀ b, S b → b < w.heap.size → w'.heap[b]? = w.heap[b]?) : KsS S w' a l := fun i hi => by
  obtain ⟨b, o, v0, v1, v2, v3, v4, ha, hS, hf, hin⟩ := h i hi
  exact ⟨b, o, v0, v1, v2, v3, v4, ha, hS, hf.keep (hk b hS hf.lt), hin.keep hk⟩
theorem KsS.weak {S S' : Nat → Prop} {w : World} {a : Option Addr} {l : List El} (h : KsS S w a l) (hs : ∀ b, b < w.heap.size → S b → S' b) : KsS S' w a l := fun i hi => by
  obtain ⟨b, o, v0, v1, v2, v3, v4, ha, hS, hf, hin⟩ := h i hi
  exact ⟨b, o, v0, v1, v2, v3, v4, ha, hs b hf.lt hS, hf, hin.weak hs⟩
theorem KsS.below {S : Nat → Prop} {w w' : World} {a : Option Addr} {l : List El} (h : KsS S w a l) (hb : Below w.heap.size w w') : KsS S w' a l := h.keep fun b _ hlt => hb.block b hlt
/-- A slice that holds the kids l, in blocks of S. -/
def SlK (S : Nat → Prop) (w : World) (v : Value) (l : List El) : Prop := ∃ a c, v = .slice a l.length c ∧ l.length ≤ c ∧ c ≤ maxLen ∧ KsS S w a l
theorem SlK.nil (S : Nat → Prop) (w : World) : SlK S w (.slice none 0 0) [] := ⟨none, 0, rfl, Nat.le_refl _, Nat.zero_le _, KsS.nil _ _ _⟩
theorem SlK.keep {S : Nat → Prop} {w w' : World} {v : Value} {l : List El} (h : SlK S w v l) (hk : ∀ b, S b → b < w.heap.size → w'.heap[b]? = w.heap[b]?) : SlK S w' v l := by
  obtain ⟨a, c, h1, h2, h3, h4⟩ := h
  exact ⟨a, c, h1, h2, h3, h4.keep hk⟩
theorem SlK.weak {S S' : Nat → Prop} {w : World} {v : Value} {l : List El} (h : SlK S w v l) (hs : ∀ b, b < w.heap.size → S b → S' b) : SlK S' w v l := by
  obtain ⟨a, c, h1, h2, h3, h4⟩ := h
  exact ⟨a, c, h1, h2, h3, h4.weak hs⟩
theorem SlK.below {S : Nat → Prop} {w w' : World} {v : Value} {l : List El} (h : SlK S w v l) (hb : Below w.heap.size w w') : SlK S w' v l := h.keep fun b _ hlt => hb.block b hlt
/-- An element out of its parts. -/
theorem InS.make {S : Nat → Prop} {w : World} {sp nm tx : ByteArray} {atr : List At} {ks : List El} {a k : Value} (hz : Szd sp nm tx atr) (ha : SlA S w a atr) (hk : SlK S w k ks) :
    InS S w (.mk sp nm atr tx ks) (.agg #[.string sp, .string nm, a, .string tx, k]) := by
  obtain ⟨aK, cK, rfl, h1, h2, h3⟩ := hk
  have h4 : ∀ i, ∃ u : Nat → Value, i < ks.length → ∃ b o, aK = some ⟨b, o, none⟩ ∧ S b ∧ Five w b (o + i * 5) (u 0) (u 1) (u 2) (u 3) (u 4) ∧ ∀ h : i < ks.length, InS S w ks[i] (.agg #[u 0, u 1, u 2, u 3, u 4]) := by
    intro i
    by_cases hi : i < ks.length
    · obtain ⟨b, o, v0, v1, v2, v3, v4, q1, q2, q3, q4⟩ := h3 i hi
      exact ⟨fun j => match j with | 0 => v0 | 1 => v1 | 2 => v2 | 3 => v3 | _ => v4, fun _ => ⟨b, o, q1, q2, q3, fun _ => q4⟩⟩
    · exact ⟨fun _ => .bool false, fun h => absurd h hi⟩
  obtain ⟨V, hV⟩ := Classical.skolem.1 h4
  refine .mk sp nm atr tx ks a aK cK V hz ha (Nat.le_trans h1 h2) (fun i hi => ?_) (fun i hi => ?_)
  · obtain ⟨b, o, q1, q2, q3, _⟩ := hV i hi
    exact ⟨b, o, q1, q2, q3⟩
  · obtain ⟨b, o, _, _, _, q4⟩ := hV i hi
    exact q4 hi
/-- The kids of an element that lies in memory, as layer 5 has them. -/
theorem KsS.ksIn {S : Nat → Prop} {w : World} {a : Option Addr} {l : List El} (h : KsS S w a l) : KsIn w.heap.size w a l := fun i hi => by
  obtain ⟨b, o, v0, v1, v2, v3, v4, ha, hS, hf, hin⟩ := h i hi
  obtain ⟨a1, c1, a2, c2, hv⟩ := hin.toIn.form
  simp only [Value.agg.injEq, Array.mk.injEq, List.cons.injEq, and_true] at hv
  obtain ⟨rfl, rfl, rfl, rfl, rfl⟩ := hv
  exact ⟨b, o, _, _, _, _, ha, hf.lt, hf, hin.toIn⟩
/-- What an element in memory is. -/
theorem InS.out {S : Nat → Prop} {w : World} {e : El} {v : Value} (h : InS S w e v) : ∃ aA cA aK cK, v = .agg #[.string e.sp, .string e.nm, .slice aA e.atr.length cA, .string e.tx, .slice aK e.ks.length cK] := by
  exact h.toIn.form
/-- A row that a call owns: five cells a kid, in blocks of S. -/
def KRow (N : Nat) (S : Nat → Prop) (w : World) (k : Value) (ks : List El) : Prop :=
  ∃ xs, w.ownsRow N 30 5 k ks.length xs ∧ ∀ i (h : i < ks.length), ∃ v0 v1 v2 v3 v4, xs[i * 5]? = some v0 ∧ xs[i * 5 + 1]? = some v1 ∧ xs[i * 5 + 2]? = some v2 ∧ xs[i * 5 + 3]? = some v3 ∧ xs[i * 5 + 4]? = some v4 ∧ InS S w ks[i] (.agg #[v0, v1, v2, v3, v4])
theorem KRow.nil (N : Nat) (S : Nat → Prop) (w : World) : KRow N S w (.slice none 0 0) [] := ⟨[], World.ownsRow_nil _ _ _ _, fun i h => by cases h⟩
theorem KRow.form {N : Nat} {S : Nat → Prop} {w : World} {k : Value} {ks : List El} (h : KRow N S w k ks) : ∃ a c, k = .slice a ks.length c ∧ (a = none ∨ ∃ g, a = some ⟨g, 0, none⟩ ∧ N ≤ g ∧ g < w.heap.size) := by
  obtain ⟨xs, h, _⟩ := h
  rcases h.2 with ⟨h1, h0⟩ | ⟨g, cap, cur, hv, hb, hg, _⟩
  · exact ⟨none, 0, by rw [h1, h0], .inl rfl⟩
  · exact ⟨_, _, hv, .inr ⟨g, rfl, hb, heap_lt hg⟩⟩
theorem KRow.keep {N : Nat} {S S' : Nat → Prop} {w w' : World} {k : Value} {ks : List El} (h : KRow N S w k ks) (hs : ∀ b, b < w.heap.size → S b → S' b) (hk : ∀ b, S b → b < w.heap.size → w'.heap[b]? = w.heap[b]?) (hr : ∀ b, k.ownBlock = some b → w'.heap[b]? = w.heap[b]?) : KRow N S' w' k ks := by
  obtain ⟨xs, h1, h2⟩ := h
  refine ⟨xs, own_keep h1 hr, fun i hi => ?_⟩
  obtain ⟨v0, v1, v2, v3, v4, q0, q1, q2, q3, q4, q5⟩ := h2 i hi
  refine ⟨v0, v1, v2, v3, v4, q0, q1, q2, q3, q4, ?_⟩
  have q6 : InS (fun b => S b ∧ b < w.heap.size) w ks[i] _ := q5.weak fun b hb hS => ⟨hS, hb⟩
  exact (q6.keep fun b hb _ => hk b hb.1 hb.2).weak fun b _ hb => hs b hb.2 hb.1
theorem KRow.below {N : Nat} {S : Nat → Prop} {w w' : World} {k : Value} {ks : List El} (h : KRow N S w k ks) (hb : Below w.heap.size w w') : KRow N S w' k ks := by
  have h' := h
  refine h'.keep (fun _ _ h => h) (fun b _ hlt => hb.block b hlt) fun b e => ?_
  obtain ⟨xs, h1, _⟩ := h
  obtain ⟨_, cur, hc⟩ := own_heap h1 e
  exact hb.block b (heap_lt hc)
/-- One kid more. -/
theorem KRow.snoc {N g cap : Nat} {S : Nat → Prop} {w : World} {ks : List El} {e : El} {xs : List Value} {v0 v1 v2 v3 v4 : Value} (h : w.ownsRow N 30 5 (.slice (some ⟨g, 0, none⟩) (ks.length + 1) cap) (ks.length + 1) (xs ++ [v0, v1, v2, v3, v4]))
    (hl : xs.length = ks.length * 5) (hx : ∀ i (h : i < ks.length), ∃ v0 v1 v2 v3 v4, xs[i * 5]? = some v0 ∧ xs[i * 5 + 1]? = some v1 ∧ xs[i * 5 + 2]? = some v2 ∧ xs[i * 5 + 3]? = some v3 ∧ xs[i * 5 + 4]? = some v4 ∧ InS S w ks[i] (.agg #[v0, v1, v2, v3, v4]))
    (he : InS S w e (.agg #[v0, v1, v2, v3, v4])) : KRow N S w (.slice (some ⟨g, 0, none⟩) (ks.length + 1) cap) (ks ++ [e]) := by
  refine ⟨xs ++ [v0, v1, v2, v3, v4], by simpa using h, fun i hi => ?_⟩
  by_cases hlt : i < ks.length
  · obtain ⟨u0, u1, u2, u3, u4, q0, q1, q2, q3, q4, q5⟩ := hx i hlt
    have k : ∀ j, j < 5 → (xs ++ [v0, v1, v2, v3, v4])[i * 5 + j]? = xs[i * 5 + j]? := fun j hj => List.getElem?_append_left (by omega)
    refine ⟨u0, u1, u2, u3, u4, (k 0 (by decide)).trans q0, (k 1 (by decide)).trans q1, (k 2 (by decide)).trans q2, (k 3 (by decide)).trans q3, (k 4 (by decide)).trans q4, ?_⟩
    rw [List.getElem_append_left hlt]; exact q5
  · have hi2 : i = ks.length := by simp at hi; omega
    subst hi2
    have k : ∀ j, (xs ++ [v0, v1, v2, v3, v4])[ks.length * 5 + j]? = [v0, v1, v2, v3, v4][j]? := fun j => by rw [List.getElem?_append_right (by omega), hl]; congr 1; omega
    refine ⟨v0, v1, v2, v3, v4, k 0, k 1, k 2, k 3, k 4, ?_⟩
    rw [List.getElem_append_right (Nat.le_refl _)]
    simpa using he
/-- A row that is owned holds its kids. -/
theorem KRow.slK {N : Nat} {S : Nat → Prop} {w : World} {k : Value} {ks : List El} (h : KRow N S w k ks) : SlK (fun b => N ≤ b ∨ S b) w k ks := by
  obtain ⟨xs, h1, h2⟩ := h
  rcases h1.2 with ⟨rfl, h0⟩ | ⟨g, cap, cur, rfl, hb, hg, hn, hc, hs, ht⟩
  · obtain rfl := List.length_eq_zero_iff.1 h0
    exact SlK.nil _ _
  · refine ⟨_, _, rfl, hn, hc, fun i hi => ?_⟩
    obtain ⟨v0, v1, v2, v3, v4, q0, q1, q2, q3, q4, q5⟩ := h2 i hi
    have k : ∀ j v, xs[i * 5 + j]? = some v → w.cell? ⟨g, 0 + i * 5 + j, none⟩ = some v := fun j v hv => by
      rw [← ht, List.getElem?_take] at hv
      rw [Lib.cell_of_heap hg, Nat.zero_add]
      split at hv
      · simpa using hv
      · cases hv
    exact ⟨g, 0, v0, v1, v2, v3, v4, rfl, .inl hb, ⟨k 0 v0 q0, k 1 v1 q1, k 2 v2 q2, k 3 v3 q3, k 4 v4 q4⟩, q5.weak fun _ _ h => .inr h⟩

end Go.Proofs.YtlklmoohoobjjaaGreatDoor

namespace Go.Proofs.YtlklmoohoobjjaaGreatDoor
open Go.RowKit Go.Lib Go.Shelf Tg

theorem attr_any (n v : ByteArray) (w : World) (hn : n.size ≤ 1048576) (hv : v.size ≤ 1048576) :
    Calls Tryz.prog 49 #[.string n, .string v] w fun r w' => r = .returned (.agg #[.string n, .string v]) ∧ Below w.heap.size w w' := by
  have C1 := Lib.hid (fun W => clone_any n W (by omega))
  have C2 := Lib.hid (fun W => clone_any v W (by omega))
  have HW0 : Hid (Below w.heap.size w (w.alloc (.cells #[.string ⟨#[]⟩, .string ⟨#[]⟩] 64))) := (Below.refl _ w).alloc (Nat.le_refl _) _
  have HX0 := Lib.hid (box_new w #[.string ⟨#[]⟩, .string ⟨#[]⟩] 64)
  clear hn hv
  go_enter Tryz.func49, Tryz.ntmps49
  go_wp2_with fail
  refine (C1.out _).mono ?_
  rintro r w1 ⟨rfl, hb⟩
  have HB1 := Lib.hid (more HW0.out (Nat.le_refl _) hb)
  have HX1 := Lib.hid ((hb.block _ (heap_lt HX0.out)).trans HX0.out)
  clear hb HX0 HW0
  go_wp2_with fail
  refine (C2.out _).mono ?_
  rintro r w2 ⟨rfl, hb⟩
  have HB2 := Lib.hid (more HB1.out (Nat.le_refl _) hb)
  have HX2 := (hb.block _ (heap_lt HX1.out)).trans HX1.out
  have c0 : w2.cell? ⟨w.heap.size, 0, none⟩ = some (.string ⟨#[]⟩) := by rw [Lib.cell_of_heap HX2]; rfl
  have c1 : w2.cell? ⟨w.heap.size, 1, none⟩ = some (.string ⟨#[]⟩) := by rw [Lib.cell_of_heap HX2]; rfl
  have f0 : w2.frozen? ⟨w.heap.size, 0, none⟩ = false := Lib.frozen_of_heap HX2 0
  have f1 : w2.frozen? ⟨w.heap.size, 1, none⟩ = false := Lib.frozen_of_heap HX2 1
  clear hb HX1 HX2
  go_wp2_with fail
  exact bodyPost_ret (v := .agg #[.string n, .string v]) (by simp [results, Tryz.results49, go_sem, c0, c1]) rfl ⟨rfl, ((HB2.out.setCell (Nat.le_refl _) _).setCell (Nat.le_refl _) _)⟩
theorem cell_later8 {w w' : World} {b o : Nat} {v : Value} (hb : Below w.heap.size w w') (h : w.cell? ⟨b, o, none⟩ = some v) : w'.cell? ⟨b, o, none⟩ = some v := (hb.cell (p := ⟨b, o, none⟩) (World.block_lt_of_cell? _ _ h)).trans h
theorem tw_keep {N : Nat} {a b c : Value} {W W' : World} (hb : Below W.heap.size W W') (h : W.cell? ⟨N, 0, none⟩ = some a ∧ W.cell? ⟨N, 1, none⟩ = some b ∧ W.cell? ⟨N, 3, none⟩ = some c) :
    W'.cell? ⟨N, 0, none⟩ = some a ∧ W'.cell? ⟨N, 1, none⟩ = some b ∧ W'.cell? ⟨N, 3, none⟩ = some c :=
  ⟨cell_later8 hb h.1, cell_later8 hb h.2.1, cell_later8 hb h.2.2⟩
theorem tw_alloc {N : Nat} {a b c : Value} {W : World} (o : Obj) (h : W.cell? ⟨N, 0, none⟩ = some a ∧ W.cell? ⟨N, 1, none⟩ = some b ∧ W.cell? ⟨N, 3, none⟩ = some c) : (W.alloc o).cell? ⟨N, 0, none⟩ = some a ∧ (W.alloc o).cell? ⟨N, 1, none⟩ = some b ∧ (W.alloc o).cell? ⟨N, 3, none⟩ = some c := tw_keep ((Below.refl _ _).alloc (Nat.le_refl _) o) h
theorem tw_re {N : Nat} {a b c : Value} {W : World} {o o' : Obj} (hN : N < W.heap.size) (h : (W.alloc o).cell? ⟨N, 0, none⟩ = some a ∧ (W.alloc o).cell? ⟨N, 1, none⟩ = some b ∧ (W.alloc o).cell? ⟨N, 3, none⟩ = some c) : (W.alloc o').cell? ⟨N, 0, none⟩ = some a ∧ (W.alloc o').cell? ⟨N, 1, none⟩ = some b ∧ (W.alloc o').cell? ⟨N, 3, none⟩ = some c := by
  have k : ∀ (j : Nat), (W.alloc o').cell? ⟨N, j, none⟩ = (W.alloc o).cell? ⟨N, j, none⟩ := fun j =>
    (World.cell?_of_block (a := ⟨N, j, none⟩) (Below.heap_alloc W o' N hN)).trans (World.cell?_of_block (a := ⟨N, j, none⟩) (Below.heap_alloc W o N hN)).symm
  exact ⟨(k 0).trans h.1, (k 1).trans h.2.1, (k 3).trans h.2.2⟩
theorem tw_lt {N : Nat} {a b c : Value} {W W' : World} (hb : Below W.heap.size W W') (h : W.cell? ⟨N, 0, none⟩ = some a ∧ W.cell? ⟨N, 1, none⟩ = some b ∧ W.cell? ⟨N, 3, none⟩ = some c) : N < W'.heap.size := Nat.lt_of_lt_of_le (World.block_lt_of_cell? W _ h.1) hb.size
theorem tw_allocd {N : Nat} {a b c : Value} {W : World} (o : Obj) (h : W.cell? ⟨N, 0, none⟩ = some a ∧ W.cell? ⟨N, 1, none⟩ = some b ∧ W.cell? ⟨N, 3, none⟩ = some c) : (W.alloc o).drew.cell? ⟨N, 0, none⟩ = some a ∧ (W.alloc o).drew.cell? ⟨N, 1, none⟩ = some b ∧ (W.alloc o).drew.cell? ⟨N, 3, none⟩ = some c := tw_alloc o h
theorem tw_set {N T i : Nat} {a b c u : Value} {W : World} (hT : N ≠ T) (h : W.cell? ⟨N, 0, none⟩ = some a ∧ W.cell? ⟨N, 1, none⟩ = some b ∧ W.cell? ⟨N, 3, none⟩ = some c) : (W.setCell ⟨T, i, none⟩ u).cell? ⟨N, 0, none⟩ = some a ∧ (W.setCell ⟨T, i, none⟩ u).cell? ⟨N, 1, none⟩ = some b ∧ (W.setCell ⟨T, i, none⟩ u).cell? ⟨N, 3, none⟩ = some c := by
  have k : ∀ (j : Nat), (W.setCell ⟨T, i, none⟩ u).cell? ⟨N, j, none⟩ = W.cell? ⟨N, j, none⟩ := fun j => World.cell?_setCell_other _ _ _ _ (fun e2 => hT (by cases e2; rfl))
  exact ⟨(k 0).trans h.1, (k 1).trans h.2.1, (k 3).trans h.2.2⟩
/-- An empty box in block T. -/
def TZ (T : Nat) (W : World) : Prop := W.heap[T]? = some (.cells #[.string ⟨#[]⟩, .string ⟨#[]⟩, .slice none 0 0, .string ⟨#[]⟩, .slice none 0 0] 30 (0, 0))
theorem tz_new {W w' : World} (hb : Below (W.alloc (.cells #[.string ⟨#[]⟩, .string ⟨#[]⟩, .slice none 0 0, .string ⟨#[]⟩, .slice none 0 0] 30)).heap.size (W.alloc (.cells #[.string ⟨#[]⟩, .string ⟨#[]⟩, .slice none 0 0, .string ⟨#[]⟩, .slice none 0 0] 30)) w') : TZ W.heap.size w' :=
  (hb.block _ (by simp)).trans (box_new W _ _)
theorem tz_drew {W w' : World} (hb : Below (W.alloc (.cells #[.string ⟨#[]⟩, .string ⟨#[]⟩, .slice none 0 0, .string ⟨#[]⟩, .slice none 0 0] 30)).drew.heap.size (W.alloc (.cells #[.string ⟨#[]⟩, .string ⟨#[]⟩, .slice none 0 0, .string ⟨#[]⟩, .slice none 0 0] 30)).drew w') : TZ W.heap.size w' :=
  (hb.block _ (by show _ < (W.alloc _).heap.size; simp)).trans (box_new W _ _)
theorem tz_keep {T : Nat} {W w' : World} (h : TZ T W) (hb : Below W.heap.size W w') : TZ T w' := (hb.block _ (heap_lt h)).trans h
theorem tz_cells {T : Nat} {w' : World} (h : TZ T w') : w'.cell? ⟨T, 0, none⟩ = some (.string ⟨#[]⟩) ∧ w'.cell? ⟨T, 1, none⟩ = some (.string ⟨#[]⟩) ∧ w'.cell? ⟨T, 2, none⟩ = some (.slice none 0 0) ∧ w'.cell? ⟨T, 3, none⟩ = some (.string ⟨#[]⟩) ∧ w'.cell? ⟨T, 4, none⟩ = some (.slice none 0 0) ∧ (w'.frozen? ⟨T, 0, none⟩ = false ∧ w'.frozen? ⟨T, 1, none⟩ = false ∧ w'.frozen? ⟨T, 2, none⟩ = false ∧ w'.frozen? ⟨T, 3, none⟩ = false ∧ w'.frozen? ⟨T, 4, none⟩ = false) := by
  obtain ⟨h0, h1, h2, h3, h4⟩ := bx5 h
  exact ⟨h0, h1, h2, h3, h4, Lib.frozen_of_heap h 0, Lib.frozen_of_heap h 1, Lib.frozen_of_heap h 2, Lib.frozen_of_heap h 3, Lib.frozen_of_heap h 4⟩
/-- What twin keeps: all that w held, its argument's box, its result's. -/
structure Tw (C : Array Value) (w W : World) : Prop where
  bel : Below w.heap.size w W
  eb : W.heap[w.heap.size]? = some (.cells C 30 (0, 0))
  rb : W.heap[w.heap.size + 1]? = some (.cells #[.string ⟨#[]⟩, .string ⟨#[]⟩, .slice none 0 0, .string ⟨#[]⟩, .slice none 0 0] 30 (0, 0))
theorem Tw.st {C : Array Value} {w W w' : World} (h : Tw C w W) (hb : Below W.heap.size W w') : Tw C w w' := ⟨h.bel.trans (hb.mono h.bel.size), (hb.block _ (heap_lt h.eb)).trans h.eb, (hb.block _ (heap_lt h.rb)).trans h.rb⟩
theorem Tw.al {C : Array Value} {w W : World} (h : Tw C w W) (o : Obj) : Tw C w (W.alloc o) := h.st ((Below.refl _ W).alloc (Nat.le_refl _) o)
theorem Tw.stA {C : Array Value} {w W w' : World} {o : Obj} (h : Tw C w W) (hb : Below (W.alloc o).heap.size (W.alloc o) w') : Tw C w w' := (h.al o).st hb
theorem Tw.dr {C : Array Value} {w W : World} (h : Tw C w W) : Tw C w W.drew := ⟨h.bel.drew, h.eb, h.rb⟩
theorem Tw.stD {C : Array Value} {w W w' : World} (h : Tw C w W) (hb : Below W.drew.heap.size W.drew w') : Tw C w w' := h.dr.st hb
theorem Tw.stAD {C : Array Value} {w W w' : World} {o : Obj} (h : Tw C w W) (hb : Below (W.alloc o).drew.heap.size (W.alloc o).drew w') : Tw C w w' := (h.al o).dr.st hb
/-- The copy's block, made behind the calls. -/
theorem tw_fin1 {C : Array Value} {sp nm tx : ByteArray} {w W : World} (h : Tw C w W) : Tw C w (W.alloc (.cells #[.string sp, .string nm, .slice none 0 0, .string tx, .slice none 0 0] 30)) ∧ (W.alloc (.cells #[.string sp, .string nm, .slice none 0 0, .string tx, .slice none 0 0] 30)).heap[W.heap.size]? = some (.cells #[.string sp, .string nm, .slice none 0 0, .string tx, .slice none 0 0] 30 (0, 0)) ∧ w.heap.size + 1 < W.heap.size := ⟨h.al _, box_new W _ _, heap_lt h.rb⟩
/-- The copy's block, made ahead of them. -/
theorem tw_fin2 {C : Array Value} {sp nm tx : ByteArray} {w W : World} {T : Nat} (h : Tw C w W) (t : TZ T W) (hT : w.heap.size + 1 < T) :
    Tw C w (((((W.setCell ⟨T, 0, none⟩ (.string sp)).setCell ⟨T, 1, none⟩ (.string nm)).setCell ⟨T, 2, none⟩ (.slice none 0 0)).setCell ⟨T, 3, none⟩ (.string tx)).setCell ⟨T, 4, none⟩ (.slice none 0 0)) ∧
    (((((W.setCell ⟨T, 0, none⟩ (.string sp)).setCell ⟨T, 1, none⟩ (.string nm)).setCell ⟨T, 2, none⟩ (.slice none 0 0)).setCell ⟨T, 3, none⟩ (.string tx)).setCell ⟨T, 4, none⟩ (.slice none 0 0)).heap[T]? = some (.cells #[.string sp, .string nm, .slice none 0 0, .string tx, .slice none 0 0] 30 (0, 0)) ∧ w.heap.size + 1 < T := by
  have hle : w.heap.size ≤ T := by omega
  have t' : W.heap[T]? = _ := t
  refine ⟨⟨((((h.bel.setCell (p := ⟨T, 0, none⟩) hle _).setCell (p := ⟨T, 1, none⟩) hle _).setCell (p := ⟨T, 2, none⟩) hle _).setCell (p := ⟨T, 3, none⟩) hle _).setCell (p := ⟨T, 4, none⟩) hle _, ?_, ?_⟩, ?_, hT⟩
  · have k : ∀ (W : World) (i : Nat) (u : Value), (W.setCell ⟨T, i, none⟩ u).heap[w.heap.size]? = W.heap[w.heap.size]? := fun W i u => Below.heap_setCell W ⟨T, i, none⟩ u _ (by show w.heap.size ≠ T; omega)
    rw [k, k, k, k, k]; exact h.eb
  · have k : ∀ (W : World) (i : Nat) (u : Value), (W.setCell ⟨T, i, none⟩ u).heap[w.heap.size + 1]? = W.heap[w.heap.size + 1]? := fun W i u => Below.heap_setCell W ⟨T, i, none⟩ u _ (by show w.heap.size + 1 ≠ T; omega)
    rw [k, k, k, k, k]; exact h.rb
  · simp [World.setCell, Array.getElem?_modify, t']
/-- What twin keeps in its loops: its argument's box, its result's, the copy so far. -/
structure Tq (C : Array Value) (sp nm tx : ByteArray) (w : World) (T : Nat) (av kv : Value) (W : World) : Prop where
  bel : Below w.heap.size w W
  eb : W.heap[w.heap.size]? = some (.cells C 30 (0, 0))
  rb : W.heap[w.heap.size + 1]? = some (.cells #[.string ⟨#[]⟩, .string ⟨#[]⟩, .slice none 0 0, .string ⟨#[]⟩, .slice none 0 0] 30 (0, 0))
  tb : W.heap[T]? = some (.cells #[.string sp, .string nm, av, .string tx, kv] 30 (0, 0))
  lt : w.heap.size + 1 < T
theorem Tq.st {C : Array Value} {sp nm tx : ByteArray} {w W w' : World} {T : Nat} {av kv : Value} (h : Tq C sp nm tx w T av kv W) (hb : Below W.heap.size W w') : Tq C sp nm tx w T av kv w' :=
  ⟨h.bel.trans (hb.mono h.bel.size), (hb.block _ (heap_lt h.eb)).trans h.eb, (hb.block _ (heap_lt h.rb)).trans h.rb, (hb.block _ (heap_lt h.tb)).trans h.tb, h.lt⟩
theorem Tq.al {C : Array Value} {sp nm tx : ByteArray} {w W : World} {T : Nat} {av kv : Value} (h : Tq C sp nm tx w T av kv W) (o : Obj) : Tq C sp nm tx w T av kv (W.alloc o) := h.st ((Below.refl _ W).alloc (Nat.le_refl _) o)
theorem Tq.dr {C : Array Value} {sp nm tx : ByteArray} {w W : World} {T : Nat} {av kv : Value} (h : Tq C sp nm tx w T av kv W) : Tq C sp nm tx w T av kv W.drew := ⟨h.bel.drew, h.eb, h.rb, h.tb, h.lt⟩
theorem Tq.gr {C : Array Value} {sp nm tx : ByteArray} {w W w' : World} {T : Nat} {av kv : Value} {ob : Option Nat} (h : Tq C sp nm tx w T av kv W) (hg : W.grownBy w' ob) (ho : ∀ b, ob = some b → T < b) : Tq C sp nm tx w T av kv w' := by
  have hl := h.lt
  have hne : ∀ b, b ≤ T → some b ≠ ob := fun b hb e => by have := ho b e.symm; omega
  exact ⟨h.bel.grown hg h.bel.size (fun b e => by have := ho b e; omega), (hg.block _ (heap_lt h.eb) (hne _ (by omega))).trans h.eb, (hg.block _ (heap_lt h.rb) (hne _ (by omega))).trans h.rb, (hg.block _ (heap_lt h.tb) (hne _ (Nat.le_refl _))).trans h.tb, h.lt⟩
theorem Tq.putA {C : Array Value} {sp nm tx : ByteArray} {w W : World} {T : Nat} {av kv : Value} (h : Tq C sp nm tx w T av kv W) (u : Value) : Tq C sp nm tx w T u kv (W.setCell ⟨T, 2, none⟩ u) := by
  have hl := h.lt
  exact ⟨h.bel.setCell (by show w.heap.size ≤ T; omega) u, (Below.heap_setCell _ _ _ _ (by show w.heap.size ≠ T; omega)).trans h.eb, (Below.heap_setCell _ _ _ _ (by show w.heap.size + 1 ≠ T; omega)).trans h.rb, by simp [World.setCell, Array.getElem?_modify, h.tb], h.lt⟩
theorem Tq.putK {C : Array Value} {sp nm tx : ByteArray} {w W : World} {T : Nat} {av kv : Value} (h : Tq C sp nm tx w T av kv W) (u : Value) : Tq C sp nm tx w T av u (W.setCell ⟨T, 4, none⟩ u) := by
  have hl := h.lt
  exact ⟨h.bel.setCell (by show w.heap.size ≤ T; omega) u, (Below.heap_setCell _ _ _ _ (by show w.heap.size ≠ T; omega)).trans h.eb, (Below.heap_setCell _ _ _ _ (by show w.heap.size + 1 ≠ T; omega)).trans h.rb, by simp [World.setCell, Array.getElem?_modify, h.tb], h.lt⟩
theorem ow_st {N n s : Nat} {T : TypeId} {v : Value} {xs : List Value} {W W' : World} (h : W.ownsRow N T s v n xs) (hb : Below W.heap.size W W') : W'.ownsRow N T s v n xs :=
  own_keep h fun b e => by obtain ⟨_, cur, hc⟩ := own_heap h e; exact hb.block b (heap_lt hc)
theorem ow_dr {N n s : Nat} {T : TypeId} {v : Value} {xs : List Value} {W : World} (h : W.ownsRow N T s v n xs) : W.drew.ownsRow N T s v n xs := h
theorem ow_alloc {N n s : Nat} {T : TypeId} {v : Value} {xs : List Value} {W : World} (h : W.ownsRow N T s v n xs) (o : Obj) : (W.alloc o).ownsRow N T s v n xs := ow_st h ((Below.refl _ W).alloc (Nat.le_refl _) o)
/-- The attributes so far: a row of the call's own, behind the copy's block. -/
def AR (T : Nat) (l : List At) (a : Option Addr) (c : Nat) (W : World) : Prop := W.ownsRow (T + 1) 64 2 (.slice a l.length c) l.length (cellsA l)
theorem AR.st {T c : Nat} {l : List At} {a : Option Addr} {W W' : World} (h : AR T l a c W) (hb : Below W.heap.size W W') : AR T l a c W' :=
  own_keep h fun b e => by obtain ⟨_, cur, hc⟩ := own_heap h e; exact hb.block b (heap_lt hc)
theorem AR.dr {T c : Nat} {l : List At} {a : Option Addr} {W : World} (h : AR T l a c W) : AR T l a c W.drew := h
theorem AR.lt {T c : Nat} {l : List At} {a : Option Addr} {W : World} (h : AR T l a c W) : ∀ b, (Value.slice a l.length c).ownBlock = some b → T < b := fun _ e => (own_heap h e).1
theorem AR.lt2 {T c : Nat} {l : List At} {a : Option Addr} {W : World} (h : AR T l a c W) : ∀ b, (Value.slice a l.length c).ownBlock = some b → b < W.heap.size := fun _ e => heap_lt (own_heap h e).2.choose_spec
theorem AR.put {T i c : Nat} {l : List At} {a : Option Addr} {W : World} {u : Value} (h : AR T l a c W) : AR T l a c (W.setCell ⟨T, i, none⟩ u) :=
  ownsRow_setCell_other h (fun e => Nat.lt_irrefl _ (h.lt _ e)) u
theorem cellsA_take {l : List At} {k : Nat} (h : k < l.length) : cellsA (l.take k) ++ [.string l[k].1, .string l[k].2] = cellsA (l.take (k + 1)) := by
  rw [List.take_succ_eq_append_getElem h, cellsA_append]; rfl
theorem AR.snoc {T g cap k : Nat} {l : List At} {W : World} (h : k < l.length) (ho : W.ownsRow (T + 1) 64 2 (.slice (some ⟨g, 0, none⟩) (k + 1) cap) (k + 1) (cellsA (l.take k) ++ [.string l[k].1, .string l[k].2])) : AR T (l.take (k + 1)) (some ⟨g, 0, none⟩) cap W := by
  have e : (l.take (k + 1)).length = k + 1 := by simp; omega
  unfold AR
  rw [e, ← cellsA_take h]; exact ho
/-- The kids so far: a row of the call's own; what they hold lies beside it. -/
def KR (N : Nat) (ks : List El) (a : Option Addr) (c : Nat) (W : World) : Prop := KRow N (fun b => N ≤ b ∧ (Value.slice a ks.length c).ownBlock ≠ some b) W (.slice a ks.length c) ks
theorem KR.nil (N : Nat) (W : World) : KR N [] none 0 W := KRow.nil _ _ _
theorem KR.st {N c : Nat} {ks : List El} {a : Option Addr} {W W' : World} (h : KR N ks a c W) (hb : Below W.heap.size W W') : KR N ks a c W' := KRow.below h hb
theorem KR.dr {N c : Nat} {ks : List El} {a : Option Addr} {W : World} (h : KR N ks a c W) : KR N ks a c W.drew := KRow.below h (Below.refl _ _).drew
theorem KR.put {N T i c : Nat} {ks : List El} {a : Option Addr} {W : World} {u : Value} (hT : T < N) (h : KR N ks a c W) : KR N ks a c (W.setCell ⟨T, i, none⟩ u) := by
  have hk : ∀ b, N ≤ b → (W.setCell ⟨T, i, none⟩ u).heap[b]? = W.heap[b]? := fun b hb => Below.heap_setCell _ _ _ _ (by show b ≠ T; omega)
  have h' : KRow N _ W _ ks := h
  refine h'.keep (fun _ _ h => h) (fun b hb _ => hk b hb.1) fun b e => ?_
  obtain ⟨xs, h1, _⟩ := h
  exact hk b (own_heap h1 e).1
theorem KR.own {N c : Nat} {ks : List El} {a : Option Addr} {W : World} (h : KR N ks a c W) : ∃ xs, W.ownsRow N 30 5 (.slice a ks.length c) ks.length xs ∧ ∀ i (h : i < ks.length), ∃ v0 v1 v2 v3 v4, xs[i * 5]? = some v0 ∧ xs[i * 5 + 1]? = some v1 ∧ xs[i * 5 + 2]? = some v2 ∧ xs[i * 5 + 3]? = some v3 ∧ xs[i * 5 + 4]? = some v4 ∧ InS (fun b => N ≤ b ∧ (Value.slice a ks.length c).ownBlock ≠ some b) W ks[i] (.agg #[v0, v1, v2, v3, v4]) := h
/-- One kid more: W, then W1 behind its box, then W2 behind the append. -/
theorem KR.app {N g cap H c : Nat} {ks : List El} {e : El} {a : Option Addr} {W W1 W2 : World} {xs : List Value} {v0 v1 v2 v3 v4 : Value}
    (h : W.ownsRow N 30 5 (.slice a ks.length c) ks.length xs) (hx : ∀ i (h : i < ks.length), ∃ v0 v1 v2 v3 v4, xs[i * 5]? = some v0 ∧ xs[i * 5 + 1]? = some v1 ∧ xs[i * 5 + 2]? = some v2 ∧ xs[i * 5 + 3]? = some v3 ∧ xs[i * 5 + 4]? = some v4 ∧ InS (fun b => N ≤ b ∧ (Value.slice a ks.length c).ownBlock ≠ some b) W ks[i] (.agg #[v0, v1, v2, v3, v4]))
    (hb : Below W.heap.size W W1) (hg : W1.grownBy W2 (Value.slice a ks.length c).ownBlock) (hat : (Value.slice a ks.length c).ownBlock = some g ∨ g = W1.heap.size)
    (hl : ∀ b, (Value.slice a ks.length c).ownBlock = some b → b < H) (hN : N ≤ H) (he : InS (fun b => H ≤ b) W e (.agg #[v0, v1, v2, v3, v4]))
    (ho : W2.ownsRow N 30 5 (.slice (some ⟨g, 0, none⟩) (ks.length + 1) cap) (ks.length + 1) (xs ++ [v0, v1, v2, v3, v4])) :
    KR N (ks ++ [e]) (some ⟨g, 0, none⟩) cap W2 := by
  have hne : ∀ b, b < W.heap.size → (Value.slice a ks.length c).ownBlock ≠ some b → W2.heap[b]? = W.heap[b]? ∧ g ≠ b := by
    intro b hb1 hn
    have h1 : b < W1.heap.size := Nat.lt_of_lt_of_le hb1 hb.size
    refine ⟨(hg.block b h1 (fun e => hn e.symm)).trans (hb.block b hb1), ?_⟩
    rintro rfl
    rcases hat with h2 | h2
    · exact hn h2
    · omega
  unfold KR
  have e1 : (ks ++ [e]).length = ks.length + 1 := by simp
  rw [e1]
  refine KRow.snoc ho (by simpa using h.1) (fun i hi => ?_) ?_
  · obtain ⟨u0, u1, u2, u3, u4, q0, q1, q2, q3, q4, q5⟩ := hx i hi
    refine ⟨u0, u1, u2, u3, u4, q0, q1, q2, q3, q4, ?_⟩
    have q6 : InS (fun b => (N ≤ b ∧ (Value.slice a ks.length c).ownBlock ≠ some b) ∧ b < W.heap.size) W ks[i] _ := q5.weak fun b hb hS => ⟨hS, hb⟩
    exact (q6.keep fun b hb _ => (hne b hb.2 hb.1.2).1).weak fun b _ hb => ⟨hb.1.1, fun e => (hne b hb.2 hb.1.2).2 (by simpa [Value.ownBlock] using e)⟩
  · have q6 : InS (fun b => H ≤ b ∧ b < W.heap.size) W e _ := he.weak fun b hb hS => ⟨hS, hb⟩
    have hn : ∀ b, H ≤ b → (Value.slice a ks.length c).ownBlock ≠ some b := fun b hb e => by have := hl b e; omega
    exact (q6.keep fun b hb _ => (hne b hb.2 (hn b hb.1)).1).weak fun b _ hb => ⟨Nat.le_trans hN hb.1, fun e => (hne b hb.2 (hn b hb.1)).2 (by simpa [Value.ownBlock] using e)⟩
/-- What twin gives: the same element, in new blocks. -/
def TwP (e : El) (w : World) (r : Ending) (w' : World) : Prop := ∃ a1 c1 a2 c2, r = .returned (.agg #[.string e.sp, .string e.nm, .slice a1 e.atr.length c1, .string e.tx, .slice a2 e.ks.length c2]) ∧
  InS (fun b => w.heap.size ≤ b) w' e (.agg #[.string e.sp, .string e.nm, .slice a1 e.atr.length c1, .string e.tx, .slice a2 e.ks.length c2]) ∧ Below w.heap.size w w'
/-- An element out of the rows of its attributes and of its kids. -/
theorem tw_ins {E : El} {T N w0 c1 c2 : Nat} {a1 a2 : Option Addr} {W W' : World} (hz : Szd E.sp E.nm E.tx E.atr) (ha : AR T E.atr a1 c1 W) (hk : KR N E.ks a2 c2 W) (h1 : w0 < T) (h2 : w0 < N) (hW : ∀ b, w0 < b → W'.heap[b]? = W.heap[b]?) :
    InS (fun b => w0 ≤ b) W' E (.agg #[.string E.sp, .string E.nm, .slice a1 E.atr.length c1, .string E.tx, .slice a2 E.ks.length c2]) := by
  have q1 : SlA (fun b => w0 < b) W (.slice a1 E.atr.length c1) E.atr := (SlA.own ha).weak fun b _ h => by omega
  have q2 : SlK (fun b => w0 < b) W (.slice a2 E.ks.length c2) E.ks := (KRow.slK hk).weak fun b _ h => by omega
  have q3 : InS (fun b => w0 < b) W (.mk E.sp E.nm E.atr E.tx E.ks) _ := InS.make hz q1 q2
  rw [← El.eta E] at q3
  exact (q3.keep fun b hb _ => hW b hb).weak fun b _ h => Nat.le_of_lt h
end Go.Proofs.YtlklmoohoobjjaaGreatDoor

namespace Go.Proofs.YtlklmoohoobjjaaGreatDoor
open Go.RowKit Go.Lib Go.Shelf Tg

/-- The value of the first attribute of that name. -/
def attrV (l : List At) (n : ByteArray) : ByteArray := match l with
  | [] => ⟨#[]⟩
  | a :: r => if (a.1.toList == n.toList) = true then a.2 else attrV r n
theorem attrV_drop {l : List At} {k : Nat} (h : k < l.length) (n : ByteArray) : attrV (l.drop k) n = if (l[k].1.toList == n.toList) = true then l[k].2 else attrV (l.drop (k + 1)) n := by
  rw [List.drop_eq_getElem_cons h]; rfl
theorem attrV_size {l : List At} {b : Nat} (h : ∀ a ∈ l, a.2.size ≤ b) (n : ByteArray) : (attrV l n).size ≤ b := by
  induction l with
  | nil => exact Nat.zero_le _
  | cons a r ih =>
    unfold attrV
    split
    · exact h a (List.mem_cons_self ..)
    · exact ih fun x hx => h x (List.mem_cons_of_mem _ hx)
set_option maxRecDepth 100000 in
set_option maxHeartbeats 4000000 in
theorem tAttr_any (sp nm tx n : ByteArray) (l : List At) (aA aK : Option Addr) (cA nK cK B : Nat) (w : World) (hA : AtIn B w aA l) (hB : B ≤ w.heap.size) (hl : l.length ≤ maxLen) (hs : ∀ a ∈ l, a.2.size ≤ 1048576) :
    Calls Tryz.prog 59 #[.agg #[.string sp, .string nm, .slice aA l.length cA, .string tx, .slice aK nK cK], .string n] w fun r w' => r = .returned (.string (attrV l n)) ∧ Below w.heap.size w w' := by
  have HA := Lib.hid hA
  have HB := Lib.hid hB
  have HS := Lib.hid hs
  unfold maxLen at hl
  have HW0 : Hid (Below w.heap.size w (w.alloc (.cells #[.string sp, .string nm, .slice aA l.length cA, .string tx, .slice aK nK cK] 30))) := (Below.refl _ w).alloc (Nat.le_refl _) _
  have HD0 : Hid (attrV (l.drop 0) n = attrV l n) := by show _ = _; rw [List.drop_zero]
  clear hA hB hs
  go_enter Tryz.func59, Tryz.ntmps59
  go_wp2_with fail
  go_loopw [10] (fun i wr => ∃ k : Nat, i = .int .i64 k ∧ k ≤ l.length ∧ Hid (attrV (l.drop k) n = attrV l n) ∧ Hid (Below w.heap.size w wr)) (fun i _ => l.length - (RowKit.intOf i).toNat)
  case atStart => exact ⟨0, rfl, Nat.zero_le _, HD0.out, HW0.out⟩
  case round =>
    obtain ⟨k, rfl, hk, HD, HBW⟩ := hrel
    by_cases hlt : k < l.length
    · obtain ⟨b, o, rfl, hb, y0, y1⟩ := (HA.out.below (HBW.out.mono HB.out)) k hlt
      have hbs : b < wr.heap.size := Nat.lt_of_lt_of_le hb (Nat.le_trans HB.out HBW.out.size)
      have hdv := attrV_drop hlt n
      have C := Lib.hid (fun W => clone_any l[k].2 W (by have := HS.out _ (List.getElem_mem hlt); omega))
      have HBA : Hid (∀ o, Below w.heap.size w (wr.alloc o)) := fun o => HBW.out.alloc HBW.out.size o
      rw [HD.out] at hdv
      generalize hp : l[k] = p at y0 y1 hdv C
      clear hp
      generalize ht : (p.1.toList == n.toList) = t at hdv
      cases t with
      | true =>
        have HE : Hid (attrV l n = p.2) := hdv
        clear hdv HD
        go_wp2_with fail
        refine (C.out _).mono ?_
        rintro r w1 ⟨rfl, hb1⟩
        have HB1 := Lib.hid ((HBA.out _).trans (hb1.mono (HBA.out _).size))
        clear hb1
        go_wp2_with fail
        go_ret
        exact ⟨by rw [HE.out]; rfl, HB1.out⟩
      | false =>
        have HE : Hid (attrV (l.drop (k + 1)) n = attrV l n) := hdv.symm
        clear hdv HD
        go_wp2_with fail
        go_roundw
        case rel => exact ⟨k + 1, by go_num, by omega, HE.out, HBA.out _⟩
        case measure => simp [RowKit.intOf]; omega
    · obtain rfl : k = l.length := by omega
      have HE : Hid (attrV l n = ⟨#[]⟩) := by
        show _ = _
        rw [← HD.out, List.drop_length]; rfl
      go_wp2_with fail
      go_ret
      exact ⟨by rw [HE.out]; rfl, HBW.out⟩
set_option maxRecDepth 100000 in
set_option maxHeartbeats 4000000 in
theorem rAttr_any (sp nm tx n : ByteArray) (l : List At) (aA aK : Option Addr) (cA nK cK B : Nat) (w : World) (hA : AtIn B w aA l) (hB : B ≤ w.heap.size) (hl : l.length ≤ maxLen) :
    Calls Tryz.prog 29 #[.agg #[.string sp, .string nm, .slice aA l.length cA, .string tx, .slice aK nK cK], .string n] w fun r w' => r = .returned (.string (attrV l n)) ∧ Below w.heap.size w w' := by
  have HA := Lib.hid hA
  have HB := Lib.hid hB
  unfold maxLen at hl
  have HW0 : Hid (Below w.heap.size w (w.alloc (.cells #[.string sp, .string nm, .slice aA l.length cA, .string tx, .slice aK nK cK] 30))) := (Below.refl _ w).alloc (Nat.le_refl _) _
  have HX0 := Lib.hid (box_new w #[.string sp, .string nm, .slice aA l.length cA, .string tx, .slice aK nK cK] 30)
  have HD0 : Hid (attrV (l.drop 0) n = attrV l n) := by show _ = _; rw [List.drop_zero]
  clear hA hB
  go_enter Tryz.func29, Tryz.ntmps29
  go_wp2_with fail
  go_loopw [5] (fun i wr => ∃ k : Nat, i = .int .i64 k ∧ k ≤ l.length ∧ Hid (attrV (l.drop k) n = attrV l n) ∧ wr = w.alloc (.cells #[.string sp, .string nm, .slice aA l.length cA, .string tx, .slice aK nK cK] 30)) (fun i _ => l.length - (RowKit.intOf i).toNat)
  case atStart => exact ⟨0, rfl, Nat.zero_le _, HD0.out, rfl⟩
  case round =>
    obtain ⟨k, rfl, hk, HD, rfl⟩ := hrel
    obtain ⟨x0, x1, x2, x3, x4⟩ := bx5 HX0.out
    by_cases hlt : k < l.length
    · obtain ⟨b, o, rfl, hb, y0, y1⟩ := (HA.out.below (HW0.out.mono HB.out)) k hlt
      have hdv := attrV_drop hlt n
      rw [HD.out] at hdv
      generalize hp : l[k] = p at y0 y1 hdv
      clear hp
      generalize ht : (p.1.toList == n.toList) = t at hdv
      generalize w.alloc (.cells #[.string sp, .string nm, .slice (some ⟨b, o, none⟩) l.length cA, .string tx, .slice aK nK cK] 30) = W at *
      cases t with
      | true =>
        have HE : Hid (attrV l n = p.2) := hdv
        clear hdv HD
        go_wp2_with fail
        go_ret
        exact ⟨by rw [HE.out]; rfl, HW0.out⟩
      | false =>
        have HE : Hid (attrV (l.drop (k + 1)) n = attrV l n) := hdv.symm
        clear hdv HD
        go_wp2_with fail
        go_roundw
        case rel => exact ⟨k + 1, by go_num, by omega, HE.out, by trivial⟩
        case measure => simp [RowKit.intOf]; omega
    · obtain rfl : k = l.length := by omega
      have HE : Hid (attrV l n = ⟨#[]⟩) := by
        show _ = _
        rw [← HD.out, List.drop_length]; rfl
      generalize w.alloc (.cells #[.string sp, .string nm, .slice aA l.length cA, .string tx, .slice aK nK cK] 30) = W at *
      go_wp2_with fail
      go_ret
      exact ⟨by rw [HE.out]; rfl, HW0.out⟩

/-! ### Kid -/
/-- The first kid of that space and name. -/
def kidF : List El → ByteArray → ByteArray → Option El
  | [], _, _ => none
  | k :: r, s, n => if (k.sp.toList == s.toList) = true ∧ (k.nm.toList == n.toList) = true then some k else kidF r s n
theorem kidF_drop {l : List El} {k : Nat} (h : k < l.length) (s n : ByteArray) : kidF (l.drop k) s n = if (l[k].sp.toList == s.toList) = true ∧ (l[k].nm.toList == n.toList) = true then some l[k] else kidF (l.drop (k + 1)) s n := by
  rw [List.drop_eq_getElem_cons h, kidF]
theorem kidF_mem {l : List El} {s n : ByteArray} {e : El} (h : kidF l s n = some e) : e ∈ l := by
  induction l with
  | nil => cases h
  | cons k r ih =>
    rw [kidF] at h
    split at h
    · cases h; exact List.mem_cons_self ..
    · exact List.mem_cons_of_mem _ (ih h)
/-- What Kid gives. -/
def KidP (o : Option El) (w : World) (r : Ending) (w' : World) : Prop := match o with
  | some e => ∃ a1 c1 a2 c2, r = .returned (.tuple #[.agg #[.string e.sp, .string e.nm, .slice a1 e.atr.length c1, .string e.tx, .slice a2 e.ks.length c2], .bool true]) ∧
      InS (fun b => w.heap.size ≤ b) w' e (.agg #[.string e.sp, .string e.nm, .slice a1 e.atr.length c1, .string e.tx, .slice a2 e.ks.length c2]) ∧ Below w.heap.size w w'
  | none => r = .returned (.tuple #[.agg #[.string ⟨#[]⟩, .string ⟨#[]⟩, .slice none 0 0, .string ⟨#[]⟩, .slice none 0 0], .bool false]) ∧ Below w.heap.size w w'
end Go.Proofs.YtlklmoohoobjjaaGreatDoor

namespace Go.Proofs.YtlklmoohoobjjaaGreatDoor
open Go.RowKit Go.Lib Go.Shelf Tg

/-- The attributes that these texts tell: a name, its value, the next name. -/
def newA : List ByteArray → List At
  | a :: b :: r => if b.toList.isEmpty = true then newA r else (a, b) :: newA r
  | _ => []
theorem newA_two {l : List ByteArray} : ∀ {k : Nat} (h : k * 2 + 1 < l.length), newA (l.take (k * 2 + 2)) = newA (l.take (k * 2)) ++ (if l[k * 2 + 1].toList.isEmpty = true then [] else [(l[k * 2]'(by omega), l[k * 2 + 1])]) := by
  have main : ∀ (k : Nat) (l : List ByteArray) (h : k * 2 + 1 < l.length), newA (l.take (k * 2 + 2)) = newA (l.take (k * 2)) ++ (if l[k * 2 + 1].toList.isEmpty = true then [] else [(l[k * 2]'(by omega), l[k * 2 + 1])]) := by
    intro k
    induction k with
    | zero =>
      intro l h
      match l, h with
      | a :: b :: r, _ => simp [newA]
    | succ k ih =>
      intro l h
      match l, h with
      | a :: b :: r, h =>
        have h2 : k * 2 + 1 < r.length := by simp at h; omega
        have e1 : (a :: b :: r).take ((k + 1) * 2 + 2) = a :: b :: r.take (k * 2 + 2) := by
          rw [show (k + 1) * 2 + 2 = (k * 2 + 2) + 1 + 1 by omega]; rfl
        have e2 : (a :: b :: r).take ((k + 1) * 2) = a :: b :: r.take (k * 2) := by
          rw [show (k + 1) * 2 = (k * 2) + 1 + 1 by omega]; rfl
        have e3 : (a :: b :: r)[(k + 1) * 2 + 1]'h = r[k * 2 + 1] := by
          have : ∀ (j : Nat) (hj : j < (a :: b :: r).length), j = (k * 2 + 1) + 1 + 1 → (a :: b :: r)[j] = r[k * 2 + 1] := by intro j hj e; subst e; rfl
          exact this _ _ (by omega)
        have e4 : (a :: b :: r)[(k + 1) * 2]'(by omega) = r[k * 2]'(by omega) := by
          have : ∀ (j : Nat) (hj : j < (a :: b :: r).length), j = (k * 2) + 1 + 1 → (a :: b :: r)[j] = r[k * 2]'(by omega) := by intro j hj e; subst e; rfl
          exact this _ _ (by omega)
        rw [e1, e2, e3, e4, newA, newA, ih r h2]
        split <;> simp
  exact fun {k} h => main k l h
theorem newA_len : ∀ l : List ByteArray, (newA l).length ≤ l.length
  | [] => by simp [newA]
  | [_] => by simp [newA]
  | a :: b :: r => by
    rw [newA]
    have := newA_len r
    split
    · simp; omega
    · simp; omega
theorem newA_mem {l : List ByteArray} {a : At} (h : a ∈ newA l) : a.1 ∈ l ∧ a.2 ∈ l := by
  have main : ∀ l : List ByteArray, a ∈ newA l → a.1 ∈ l ∧ a.2 ∈ l := by
    intro l
    induction l using newA.induct with
    | case1 x y r hy ih => intro h; rw [newA, if_pos hy] at h; have := ih h; simp [this.1, this.2]
    | case2 x y r hy ih =>
      intro h
      rw [newA, if_neg hy] at h
      rcases List.mem_cons.1 h with rfl | h
      · simp
      · have := ih h; simp [this.1, this.2]
    | case3 l hl => intro h; unfold newA at h; split at h <;> first | (exact absurd rfl (hl _ _ _)) | cases h
  exact main l h
/-- What New gives. -/
def NewP (sp nm : ByteArray) (l : List ByteArray) (w : World) (r : Ending) (w' : World) : Prop := ∃ a c, r = .returned (.agg #[.string sp, .string nm, .slice a (newA l).length c, .string ⟨#[]⟩, .slice none 0 0]) ∧
  InS (fun b => w.heap.size ≤ b) w' (.mk sp nm (newA l) ⟨#[]⟩ []) (.agg #[.string sp, .string nm, .slice a (newA l).length c, .string ⟨#[]⟩, .slice none 0 0]) ∧ Below w.heap.size w w'
/-- What New keeps: its result's box, the element so far. -/
structure Nw (sp nm : ByteArray) (w : World) (T : Nat) (av : Value) (W : World) : Prop where
  bel : Below w.heap.size w W
  rb : W.heap[w.heap.size]? = some (.cells #[.string ⟨#[]⟩, .string ⟨#[]⟩, .slice none 0 0, .string ⟨#[]⟩, .slice none 0 0] 30 (0, 0))
  tb : W.heap[T]? = some (.cells #[.string sp, .string nm, av, .string ⟨#[]⟩, .slice none 0 0] 30 (0, 0))
  lt : w.heap.size < T
theorem Nw.st {sp nm : ByteArray} {w W w' : World} {T : Nat} {av : Value} (h : Nw sp nm w T av W) (hb : Below W.heap.size W w') : Nw sp nm w T av w' :=
  ⟨h.bel.trans (hb.mono h.bel.size), (hb.block _ (heap_lt h.rb)).trans h.rb, (hb.block _ (heap_lt h.tb)).trans h.tb, h.lt⟩
theorem Nw.al {sp nm : ByteArray} {w W : World} {T : Nat} {av : Value} (h : Nw sp nm w T av W) (o : Obj) : Nw sp nm w T av (W.alloc o) := h.st ((Below.refl _ W).alloc (Nat.le_refl _) o)
theorem Nw.dr {sp nm : ByteArray} {w W : World} {T : Nat} {av : Value} (h : Nw sp nm w T av W) : Nw sp nm w T av W.drew := ⟨h.bel.drew, h.rb, h.tb, h.lt⟩
theorem Nw.gr {sp nm : ByteArray} {w W w' : World} {T : Nat} {av : Value} {ob : Option Nat} (h : Nw sp nm w T av W) (hg : W.grownBy w' ob) (ho : ∀ b, ob = some b → T < b) : Nw sp nm w T av w' := by
  have hl := h.lt
  have hne : ∀ b, b ≤ T → some b ≠ ob := fun b hb e => by have := ho b e.symm; omega
  exact ⟨h.bel.grown hg h.bel.size (fun b e => by have := ho b e; omega), (hg.block _ (heap_lt h.rb) (hne _ (by omega))).trans h.rb, (hg.block _ (heap_lt h.tb) (hne _ (Nat.le_refl _))).trans h.tb, h.lt⟩
theorem Nw.put {sp nm : ByteArray} {w W : World} {T : Nat} {av : Value} (h : Nw sp nm w T av W) (u : Value) : Nw sp nm w T u (W.setCell ⟨T, 2, none⟩ u) := by
  have hl := h.lt
  exact ⟨h.bel.setCell (by show w.heap.size ≤ T; omega) u, (Below.heap_setCell _ _ _ _ (by show w.heap.size ≠ T; omega)).trans h.rb, by simp [World.setCell, Array.getElem?_modify, h.tb], h.lt⟩
set_option maxRecDepth 100000 in
set_option maxHeartbeats 8000000 in
theorem new_any (sp nm : ByteArray) (l : List ByteArray) (a0 : Option Addr) (c0 : Nat) (w : World) (hsp : sp.size ≤ 1048576) (hnm : nm.size ≤ 1048576) (hl : l.length ≤ 1000) (hs : ∀ s ∈ l, s.size ≤ 1048576)
    (hA : ∀ i (h : i < l.length), ∃ S, a0 = some ⟨S, 0, none⟩ ∧ w.cell? ⟨S, i, none⟩ = some (.string l[i])) :
    Calls Tryz.prog 31 #[.string sp, .string nm, .slice a0 l.length c0] w (NewP sp nm l w) := by
  have C1 := Lib.hid (fun W => clone_any sp W (by omega))
  have C2 := Lib.hid (fun W => clone_any nm W (by omega))
  have HW0 : Hid (Below w.heap.size w (w.alloc (.cells #[.string ⟨#[]⟩, .string ⟨#[]⟩, .slice none 0 0, .string ⟨#[]⟩, .slice none 0 0] 30))) := (Below.refl _ w).alloc (Nat.le_refl _) _
  have HX0 := Lib.hid (box_new w #[.string ⟨#[]⟩, .string ⟨#[]⟩, .slice none 0 0, .string ⟨#[]⟩, .slice none 0 0] 30)
  have HA := Lib.hid hA
  have HS := Lib.hid hs
  have HEND : Hid (∀ (r : Ending) (T c : Nat) (a : Option Addr) (W W' : World), r = .returned (.agg #[.string sp, .string nm, .slice a (newA l).length c, .string ⟨#[]⟩, .slice none 0 0]) → AR T (newA l) a c W → w.heap.size < T →
      (∀ b, w.heap.size < b → W'.heap[b]? = W.heap[b]?) → Below w.heap.size w W' → NewP sp nm l w r W') := by
    intro r T c a W W' hr ha hT hW hbel
    have hz : Szd sp nm ⟨#[]⟩ (newA l) := by
      have h1 := newA_len l
      refine ⟨⟨by omega, by omega, by decide, by omega⟩, fun x hx => ?_⟩
      obtain ⟨h2, h3⟩ := newA_mem hx
      have := hs _ h2
      have := hs _ h3
      omega
    have q1 : SlA (fun b => w.heap.size < b) W (.slice a (newA l).length c) (newA l) := (SlA.own ha).weak fun b _ h => by omega
    have q3 := InS.make hz q1 (SlK.nil _ W)
    exact ⟨a, c, hr, (q3.keep fun b hb _ => hW b hb).weak fun b _ h => Nat.le_of_lt h, hbel⟩
  have HR0 : Hid (∀ T W, AR T (newA (l.take (0 * 2))) none 0 W) := fun T W => World.ownsRow_nil _ _ _ _
  generalize hpost : NewP sp nm l w = POST at HEND ⊢
  clear hpost hA hs hsp hnm
  go_enter Tryz.func31, Tryz.ntmps31
  go_wp2_with fail
  refine (C1.out _).mono ?_
  rintro r w1 ⟨rfl, hb⟩
  have HB1 := Lib.hid (more HW0.out (Nat.le_refl _) hb)
  have HX1 := Lib.hid ((hb.block _ (heap_lt HX0.out)).trans HX0.out)
  clear hb HX0 HW0
  go_wp2_with fail
  refine (C2.out _).mono ?_
  rintro r w2 ⟨rfl, hb⟩
  have HB2 := Lib.hid (more HB1.out (Nat.le_refl _) hb)
  have HX2 := Lib.hid ((hb.block _ (heap_lt HX1.out)).trans HX1.out)
  have HQ0 : Hid (Nw sp nm w w2.heap.size (.slice none 0 0) (w2.alloc (.cells #[.string sp, .string nm, .slice none 0 0, .string ⟨#[]⟩, .slice none 0 0] 30))) :=
    ⟨HB2.out.alloc HB2.out.size _, (Below.heap_alloc _ _ _ (heap_lt HX2.out)).trans HX2.out, box_new w2 _ _, heap_lt HX2.out⟩
  clear hb HX1 HB1 C1 C2 HX2 HB2
  go_wp2_with fail
  generalize w2.alloc (.cells #[.string sp, .string nm, .slice none 0 0, .string ⟨#[]⟩, .slice none 0 0] 30) = W0 at HQ0 ⊢
  generalize w2.heap.size = T at HQ0 ⊢
  go_loopw [8] (fun i wr => ∃ (k : Nat) (a : Option Addr) (c n : Nat), i = .int .i64 ((k * 2 + 1 : Nat) : Int) ∧ k * 2 ≤ l.length + 1 ∧ n ≤ 1000 ∧ Hid (n = (newA (l.take (k * 2))).length) ∧ Hid (Nw sp nm w T (.slice a n c) wr) ∧ Hid (AR T (newA (l.take (k * 2))) a c wr)) (fun i _ => l.length + 2 - (RowKit.intOf i).toNat)
  case atStart => exact ⟨0, none, 0, 0, rfl, Nat.zero_le _, Nat.zero_le _, rfl, HQ0.out, HR0.out _ _⟩
  case round =>
    obtain ⟨k, a, c, n, rfl, hk, hn, HN, HQ, HR⟩ := hrel
    clear HQ0 HR0
    by_cases hlt : k * 2 + 1 < l.length
    · obtain ⟨S, rfl, y0⟩ := HA.out (k * 2) (by omega)
      obtain ⟨S', hS', y1⟩ := HA.out (k * 2 + 1) hlt
      cases hS'
      have hSw := World.block_lt_of_cell? _ _ y0
      have s0 : wr.cell? ⟨S, k * 2, none⟩ = some (.string (l[k * 2]'(by omega))) := (HQ.out.bel.cell (p := ⟨S, k * 2, none⟩) hSw).trans y0
      have s1 : wr.cell? ⟨S, k * 2 + 1, none⟩ = some (.string l[k * 2 + 1]) := (HQ.out.bel.cell (p := ⟨S, k * 2 + 1, none⟩) hSw).trans y1
      have z0 := HS.out _ (List.getElem_mem (show k * 2 < l.length by omega))
      have z1 := HS.out _ (List.getElem_mem hlt)
      have htwo := newA_two hlt
      have hi : (((k * 2 + 1 : Nat) : Int) < l.length) := by omega
      have hm : IntKind.i64.wrap ((k : Int) * 2) = (k : Int) * 2 := wrap_in (by omega) (by omega)
      have hi0 : (k : Int) * 2 < l.length := by omega
      have hi1 : (0 : Int) ≤ (k : Int) * 2 := by omega
      have hi2 : ((k : Int) * 2).toNat = k * 2 := by omega
      have hi3 : (0 : Int) ≤ (k : Int) * 2 + 1 := by omega
      have hi4 : ((k : Int) * 2 + 1).toNat = k * 2 + 1 := by omega
      clear y0 y1
      generalize l[k * 2]'(by omega) = p1 at s0 z0 htwo
      generalize l[k * 2 + 1] = p2 at s1 z1 htwo
      by_cases he : p2.toList.isEmpty = true
      · have HT2 : Hid (newA (l.take ((k + 1) * 2)) = newA (l.take (k * 2))) := by
          show _ = _
          rw [show (k + 1) * 2 = k * 2 + 2 by omega, htwo, if_pos he, List.append_nil]
        have he2 : (p2.toList != []) = false := by
          have : p2.toList = [] := List.isEmpty_iff.1 he
          rw [this]; rfl
        clear htwo
        go_wp2_with fail
        go_roundw
        case rel => exact ⟨k + 1, a, c, n, by go_num, by omega, hn, by (show _ = _); rw [HT2.out]; exact HN.out, HQ.out, by (show AR _ _ _ _ _); rw [HT2.out]; exact HR.out⟩
        case measure => simp [RowKit.intOf]; omega
      · have he0 : p2.toList.isEmpty = false := by simpa using he
        have HT2 : Hid (newA (l.take ((k + 1) * 2)) = newA (l.take (k * 2)) ++ [(p1, p2)]) := by
          show _ = _
          rw [show (k + 1) * 2 = k * 2 + 2 by omega, htwo, if_neg he]
        have he2 : (p2.toList != []) = true := by
          rw [bne_iff_ne]; intro h; rw [h] at he0; cases he0
        have CA := Lib.hid (fun W => attr_any p1 p2 W (by omega) (by omega))
        have HR1 : Hid (wr.ownsRow (T + 1) 64 2 (.slice a n c) n (cellsA (newA (l.take (k * 2))))) := by
          have := HR.out
          unfold AR at this
          rw [← HN.out] at this
          exact this
        clear htwo he HR
        have t1 : wr.cell? ⟨T, 2, none⟩ = some (.slice a n c) := (bx5 HQ.out.tb).2.2.1
        have hTl : T < wr.heap.size := heap_lt HQ.out.tb
        go_wp2_with fail
        obtain ⟨i0, hi0, hz0, hz1, hz2⟩ := info_parts infoAttr
        generalize hxs : cellsA (newA (l.take (k * 2))) = xs at HR1
        have HXS := Lib.hid hxs
        clear hxs
        go_region_law (first | (refine step_append_lies _ (by rfl) _ _ _ (by rfl) (T + 1) 64 i0 _ 2 32 Tryz.underlying27 hi0 hz0 hz1 hz2 rfl (by omega) (.slice a n c) n xs (by rfl) (ow_alloc HOW4.out _) ⟨w4.heap.size, 0, none⟩ 1 1 [.string p1, .string p2] (by rfl) (by rfl) (World.news_of_block (cs := #[.string p1, .string p2]) (t := 64) (fr := (0, 0)) (heap_alloc_new w4 _)) (by simp [Value.oneCell']) (by omega) (by unfold maxLen; omega) (by omega) ?hb (w4.heap.size + 1) (by simp) ?_; (case hb => (have := heap_lt HQ4.out.tb; simp; omega)); intro g cap w5 hown hgrow hat hlt5; have HQ5 := Lib.hid ((HQ4.out.al _).gr hgrow (fun b e => (own_heap HOW4.out e).1)); have t5 : w5.cell? ⟨T, 2, none⟩ = some (.slice a n c) := (bx5 HQ5.out.tb).2.2.1; have f5 : w5.frozen? ⟨T, 2, none⟩ = false := Lib.frozen_of_heap HQ5.out.tb 2) | (go_simp; go_at_call 49; (with_reducible refine (CA.out _).mono ?_); rintro e w4 ⟨rfl, hb4⟩; have HQ4 := Lib.hid ((HQ.out.dr).st hb4); have HOW4 := Lib.hid (ow_st (ow_dr HR1.out) hb4); have t4 : w4.cell? ⟨T, 2, none⟩ = some (.slice a n c) := (bx5 HQ4.out.tb).2.2.1; have t4b := cell_alloc t4 (.cells #[.string p1, .string p2] 64)))
        all_goals
          have HLN : Hid (n + 1 = (newA (l.take ((k + 1) * 2))).length) := by show _ = _; rw [HT2.out, List.length_append, ← HN.out]; rfl
          have HRN : Hid (AR T (newA (l.take ((k + 1) * 2))) (some ⟨g, 0, none⟩) cap (w5.setCell ⟨T, 2, none⟩ (.slice (some ⟨g, 0, none⟩) (n + 1) cap))) := by
            refine AR.put ?_
            unfold AR
            rw [← HLN.out, HT2.out, cellsA_append, HXS.out]
            exact hown
          have HQN := Lib.hid (HQ5.out.put (.slice (some ⟨g, 0, none⟩) (n + 1) cap))
          have HNL : Hid (n + 1 ≤ 1000) := by
            have h1 := newA_len (l.take ((k + 1) * 2))
            have h2 := HLN.out
            have h3 : (l.take ((k + 1) * 2)).length ≤ l.length := by rw [List.length_take]; omega
            show _ ≤ _; omega
          clear hown hgrow hat hlt5 t5 f5 HQ5
          generalize w5.setCell ⟨T, 2, none⟩ (.slice (some ⟨g, 0, none⟩) (n + 1) cap) = W6 at HRN HQN ⊢
          go_wp2_with fail
          go_roundw
          case rel => exact ⟨k + 1, _, _, _, by go_num, by omega, HNL.out, HLN.out, HQN.out, HRN.out⟩
          case measure => simp [RowKit.intOf]; omega
    · have HT2 : Hid (newA (l.take (k * 2)) = newA l) := by
        show _ = _
        by_cases h2 : l.length ≤ k * 2
        · rw [List.take_of_length_le h2]
        · have h3 : l.length = k * 2 + 1 := by omega
          have main : ∀ (k : Nat) (l : List ByteArray), l.length = k * 2 + 1 → newA (l.take (k * 2)) = newA l := by
            intro k
            induction k with
            | zero => intro l h; match l, h with | [x], _ => rfl
            | succ k ih =>
              intro l h
              match l, h with
              | x :: y :: r, h =>
                rw [show (k + 1) * 2 = (k * 2) + 1 + 1 by omega]
                simp only [List.take_succ_cons, newA]
                rw [ih r (by simp at h; omega)]
          exact main k l h3
      obtain ⟨x0, x1, x2, x3, x4⟩ := bx5 HQ.out.tb
      obtain ⟨q0, q1, q2, q3, q4⟩ := bx5 HQ.out.rb
      have p0 := Lib.frozen_of_heap HQ.out.rb 0
      have p1 := Lib.frozen_of_heap HQ.out.rb 1
      have p2 := Lib.frozen_of_heap HQ.out.rb 2
      have p3 := Lib.frozen_of_heap HQ.out.rb 3
      have p4 := Lib.frozen_of_heap HQ.out.rb 4
      have hi : ¬ (((k * 2 + 1 : Nat) : Int) < l.length) := by omega
      have HR2 : Hid (AR T (newA l) a c wr ∧ n = (newA l).length) := ⟨by rw [← HT2.out]; exact HR.out, by rw [← HT2.out]; exact HN.out⟩
      go_wp2_with fail
      exact bodyPost_ret (v := .agg #[.string sp, .string nm, .slice a n c, .string ⟨#[]⟩, .slice none 0 0]) (by simp [results, Tryz.results31, go_sem, q0, q1, q2, q3, q4]) rfl
        (HEND.out _ T c a wr _ (by rw [HR2.out.2]) HR2.out.1 HQ.out.lt (fun b hb => by
          have k : ∀ (W : World) (i : Nat) (u : Value), (W.setCell ⟨w.heap.size, i, none⟩ u).heap[b]? = W.heap[b]? := fun W i u => Below.heap_setCell W ⟨w.heap.size, i, none⟩ u b (by show b ≠ w.heap.size; omega)
          rw [k, k, k, k, k])
          (((((HQ.out.bel.setCell (Nat.le_refl _) _).setCell (Nat.le_refl _) _).setCell (Nat.le_refl _) _).setCell (Nat.le_refl _) _).setCell (Nat.le_refl _) _))

end Go.Proofs.YtlklmoohoobjjaaGreatDoor
