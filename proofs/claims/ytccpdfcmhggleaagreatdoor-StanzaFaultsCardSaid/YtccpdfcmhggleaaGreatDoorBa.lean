/- Elements in memory, in blocks of a set; rows of attributes and of kids that a call owns. No condition. -/
import Derived.Test.YtccpdfcmhggleaaGreatDoorAu
import Derived.Deep.AppendLies
import Derived.Deep.RegionLaw
import Derived.Deep.RegionHeld3
import Derived.Deep.DeepCutAuto
namespace Go.Proofs.YtccpdfcmhggleaaGreatDoor
open Go.RowKit Go.Lib Go.Shelf Tg

abbrev At := ByteArray × ByteArray
/-! ### A list of pairs of texts in memory -/
/-- Behind a lie the pairs l, in blocks of S. -/
def AtS (S : Nat → Prop) (w : World) (a : Option Addr) (l : List At) : Prop :=
  ∀ i (h : i < l.length), ∃ b o, a = some ⟨b, o, none⟩ ∧ S b ∧ w.cell? ⟨b, o + i * 2, none⟩ = some (.string l[i].1) ∧ w.cell? ⟨b, o + i * 2 + 1, none⟩ = some (.string l[i].2)
theorem AtS.weak {S S' : Nat → Prop} {w : World} {a : Option Addr} {l : List At} (h : AtS S w a l) (hs : ∀ b, b < w.heap.size → S b → S' b) : AtS S' w a l := fun i hi => by
  obtain ⟨b, o, ha, hS, h1, h2⟩ := h i hi
  exact ⟨b, o, ha, hs b (World.block_lt_of_cell? w _ h1) hS, h1, h2⟩
/-- What keeps the blocks of S keeps the pairs. -/
theorem AtS.keep {S : Nat → Prop} {w w' : World} {a : Option Addr} {l : List At} (h : AtS S w a l) (hk : ∀ b, S b → b < w.heap.size → w'.heap[b]? = w.heap[b]?) : AtS S w' a l := fun i hi => by
  obtain ⟨b, o, ha, hS, h1, h2⟩ := h i hi
  have hb := hk b hS (World.block_lt_of_cell? w _ h1)
  exact ⟨b, o, ha, hS, (World.cell?_of_block (a := ⟨b, o + i * 2, none⟩) hb).trans h1, (World.cell?_of_block (a := ⟨b, o + i * 2 + 1, none⟩) hb).trans h2⟩
theorem AtS.below {S : Nat → Prop} {w w' : World} {a : Option Addr} {l : List At} (h : AtS S w a l) (hb : Below w.heap.size w w') : AtS S w' a l := h.keep fun b _ hlt => hb.block b hlt
/-! ### Rows of pairs -/
def cellsA (l : List At) : List Value := l.flatMap fun a => [.string a.1, .string a.2]
theorem cellsA_append (l m : List At) : cellsA (l ++ m) = cellsA l ++ cellsA m := by simp [cellsA]
theorem cellsA_one (a : At) : cellsA [a] = [.string a.1, .string a.2] := rfl
theorem cellsA_len (l : List At) : (cellsA l).length = l.length * 2 := by
  induction l with
  | nil => rfl
  | cons a r ih => simp only [cellsA, List.flatMap_cons, List.length_append, List.length_cons, List.length_nil] at ih ⊢; omega
theorem cellsA_at {l : List At} {i : Nat} (h : i < l.length) : (cellsA l)[i * 2]? = some (.string l[i].1) ∧ (cellsA l)[i * 2 + 1]? = some (.string l[i].2) := by
  induction l generalizing i with
  | nil => cases h
  | cons a r ih =>
    have e : cellsA (a :: r) = .string a.1 :: .string a.2 :: cellsA r := rfl
    cases i with
    | zero => rw [e]; exact ⟨rfl, rfl⟩
    | succ i =>
      obtain ⟨h1, h2⟩ := ih (i := i) (by simpa using h)
      rw [e, show (i + 1) * 2 = i * 2 + 1 + 1 by omega]
      exact ⟨by simpa using h1, by simpa using h2⟩
/-- A slice that holds the pairs l, in blocks of S. -/
def SlA (S : Nat → Prop) (w : World) (v : Value) (l : List At) : Prop := ∃ a c, v = .slice a l.length c ∧ l.length ≤ c ∧ c ≤ maxLen ∧ AtS S w a l
theorem SlA.nil (S : Nat → Prop) (w : World) : SlA S w (.slice none 0 0) [] := ⟨none, 0, rfl, Nat.le_refl _, Nat.zero_le _, fun i h => by cases h⟩
theorem SlA.weak {S S' : Nat → Prop} {w : World} {v : Value} {l : List At} (h : SlA S w v l) (hs : ∀ b, b < w.heap.size → S b → S' b) : SlA S' w v l := by
  obtain ⟨a, c, h1, h2, h3, h4⟩ := h
  exact ⟨a, c, h1, h2, h3, h4.weak hs⟩
theorem SlA.keep {S : Nat → Prop} {w w' : World} {v : Value} {l : List At} (h : SlA S w v l) (hk : ∀ b, S b → b < w.heap.size → w'.heap[b]? = w.heap[b]?) : SlA S w' v l := by
  obtain ⟨a, c, h1, h2, h3, h4⟩ := h
  exact ⟨a, c, h1, h2, h3, h4.keep hk⟩
theorem SlA.below {S : Nat → Prop} {w w' : World} {v : Value} {l : List At} (h : SlA S w v l) (hb : Below w.heap.size w w') : SlA S w' v l := h.keep fun b _ hlt => hb.block b hlt
theorem SlA.own {w : World} {B : Nat} {T : TypeId} {v : Value} {l : List At} (h : w.ownsRow B T 2 v l.length (cellsA l)) : SlA (fun b => B ≤ b) w v l := by
  rcases h.2 with ⟨rfl, h0⟩ | ⟨g, cap, cur, rfl, hb, hg, hn, hc, hs, ht⟩
  · obtain rfl := List.length_eq_zero_iff.1 h0
    exact SlA.nil _ _
  · refine ⟨_, _, rfl, hn, hc, fun i hi => ⟨g, 0, rfl, hb, ?_, ?_⟩⟩
    · have := (cellsA_at hi).1
      rw [← ht, List.getElem?_take] at this
      rw [Lib.cell_of_heap hg, Nat.zero_add]
      split at this
      · simpa using this
      · cases this
    · have := (cellsA_at hi).2
      rw [← ht, List.getElem?_take] at this
      rw [Lib.cell_of_heap hg, Nat.zero_add]
      split at this
      · simpa using this
      · cases this
theorem infoAttr : (Tryz.prog.info? 49).map (fun i => (i.zero, i.size, i.bytes)) = some (some (.agg #[.string ⟨#[]⟩, .string ⟨#[]⟩]), 2, 32) := by kernel_rfl
theorem infoElem : (Tryz.prog.info? 29).map (fun i => (i.zero, i.size, i.bytes)) = some (some (.agg #[.string ⟨#[]⟩, .string ⟨#[]⟩, .slice none 0 0, .string ⟨#[]⟩, .slice none 0 0]), 5, 96) := by kernel_rfl

/-! ### Elements in blocks of a set -/
inductive InS (S : Nat → Prop) (w : World) : El → Value → Prop
  | mk (sp nm : ByteArray) (atr : List At) (tx : ByteArray) (ks : List El) (a : Value) (aK : Option Addr) (cK : Nat) (V : Nat → Nat → Value) :
      Szd sp nm tx atr → SlA S w a atr → ks.length ≤ maxLen →
      (∀ i, i < ks.length → ∃ b o, aK = some ⟨b, o, none⟩ ∧ S b ∧ Five w b (o + i * 5) (V i 0) (V i 1) (V i 2) (V i 3) (V i 4)) →
      (∀ i (h : i < ks.length), InS S w ks[i] (.agg #[V i 0, V i 1, V i 2, V i 3, V i 4])) →
      InS S w (.mk sp nm atr tx ks) (.agg #[.string sp, .string nm, a, .string tx, .slice aK ks.length cK])
theorem Five.lt {w : World} {b o : Nat} {v0 v1 v2 v3 v4 : Value} (h : Five w b o v0 v1 v2 v3 v4) : b < w.heap.size := World.block_lt_of_cell? w _ h.1
theorem Five.keep {w w' : World} {b o : Nat} {v0 v1 v2 v3 v4 : Value} (h : Five w b o v0 v1 v2 v3 v4) (hb : w'.heap[b]? = w.heap[b]?) : Five w' b o v0 v1 v2 v3 v4 :=
  ⟨(World.cell?_of_block (a := ⟨b, o, none⟩) hb).trans h.1, (World.cell?_of_block (a := ⟨b, o + 1, none⟩) hb).trans h.2.1, (World.cell?_of_block (a := ⟨b, o + 2, none⟩) hb).trans h.2.2.1, (World.cell?_of_block (a := ⟨b, o + 3, none⟩) hb).trans h.2.2.2.1, (World.cell?_of_block (a := ⟨b, o + 4, none⟩) hb).trans h.2.2.2.2⟩
theorem InS.keep {S : Nat → Prop} {w w' : World} {e : El} {v : Value} (h : InS S w e v) (hk : ∀ b, S b → b < w.heap.size → w'.heap[b]? = w.heap[b]?) : InS S w' e v := by
  induction h with
  | mk sp nm atr tx ks a aK cK V h0 h1 h2 h3 _ ih =>
    refine .mk sp nm atr tx ks a aK cK V h0 (h1.keep hk) h2 (fun i hi => ?_) ih
    obtain ⟨b, o, ha, hS, hf⟩ := h3 i hi
    exact ⟨b, o, ha, hS, hf.keep (hk b hS hf.lt)⟩
theorem InS.weak {S S' : Nat → Prop} {w : World} {e : El} {v : Value} (h : InS S w e v) (hs : ∀ b, b < w.heap.size → S b → S' b) : InS S' w e v := by
  induction h with
  | mk sp nm atr tx ks a aK cK V h0 h1 h2 h3 _ ih =>
    refine .mk sp nm atr tx ks a aK cK V h0 (h1.weak hs) h2 (fun i hi => ?_) ih
    obtain ⟨b, o, ha, hS, hf⟩ := h3 i hi
    exact ⟨b, o, ha, hs b hf.lt hS, hf⟩
theorem AtS.atIn {S : Nat → Prop} {w : World} {a : Option Addr} {l : List At} (h : AtS S w a l) : AtIn w.heap.size w a l := fun i hi => by
  obtain ⟨b, o, ha, _, h1, h2⟩ := h i hi
  exact ⟨b, o, ha, World.block_lt_of_cell? w _ h1, h1, h2⟩
/-- As layer 5 has it. -/
theorem InS.toIn {S : Nat → Prop} {w : World} {e : El} {v : Value} (h : InS S w e v) : In w.heap.size w e v := by
  induction h with
  | mk sp nm atr tx ks a aK cK V h0 h1 h2 h3 _ ih =>
    obtain ⟨aA, cA, rfl, q1, q2, q3⟩ := h1
    refine .mk sp nm atr tx ks aA cA aK cK V h0 ⟨q1, q2⟩ h2 q3.atIn (fun i hi => ?_) ih
    obtain ⟨b, o, ha, _, hf⟩ := h3 i hi
    exact ⟨b, o, ha, hf.lt, hf⟩
theorem szd0 : Szd ⟨#[]⟩ ⟨#[]⟩ ⟨#[]⟩ [] := ⟨⟨by decide, by decide, by decide, by decide⟩, fun a h => by cases h⟩
theorem InS.zero (S : Nat → Prop) (w : World) : InS S w (.mk ⟨#[]⟩ ⟨#[]⟩ [] ⟨#[]⟩ []) (.agg #[.string ⟨#[]⟩, .string ⟨#[]⟩, .slice none 0 0, .string ⟨#[]⟩, .slice none 0 0]) :=
  .mk _ _ _ _ [] _ _ _ (fun _ _ => .bool false) szd0 (SlA.nil _ _) (Nat.zero_le _) (fun i h => by cases h) (fun i h => by cases h)

theorem own_keep {w w' : World} {N n s : Nat} {T : TypeId} {v : Value} {xs : List Value} (h : w.ownsRow N T s v n xs) (hk : ∀ b, v.ownBlock = some b → w'.heap[b]? = w.heap[b]?) : w'.ownsRow N T s v n xs := by
  refine ⟨h.1, ?_⟩
  rcases h.2 with h3 | ⟨g, cap, cur, rfl, q1, q2, q3⟩
  · exact .inl h3
  · exact .inr ⟨g, cap, cur, rfl, q1, (hk g rfl).trans q2, q3⟩
/-- A row's block, and its type. -/
theorem own_heap {w : World} {N n s : Nat} {T : TypeId} {v : Value} {xs : List Value} (h : w.ownsRow N T s v n xs) {b : Nat} (hb : v.ownBlock = some b) : N ≤ b ∧ ∃ cur, w.heap[b]? = some (.cells cur T (0, 0)) := by
  rcases h.2 with ⟨rfl, _⟩ | ⟨g, cap, cur, rfl, q1, q2, q3⟩
  · cases hb
  · cases hb
    exact ⟨q1, cur, q2⟩
theorem lit_ne {a : ByteArray} {l : List UInt8} (h : a.data.toList ≠ l) : (¬ a.toList = l) ∧ (a.toList == l) = false := by rw [ByteArray.toList_eq]; exact ⟨h, by simpa using h⟩
theorem lit_eq {a : ByteArray} {l : List UInt8} (h : a.data.toList = l) : (a.toList == l) = true := by rw [ByteArray.toList_eq]; simpa using h
theorem nil_ne {a : ByteArray} (h : a.data.toList ≠ []) : a.toList.isEmpty = false ∧ ¬ a.toList = [] ∧ (a.toList != []) = true := by
  rw [ByteArray.toList_eq]
  exact ⟨by simpa using h, h, by simpa using h⟩

theorem InS.stay {S : Nat → Prop} {w w' : World} {e : El} {v : Value} (h : InS S w e v) (hb : Below w.heap.size w w') : InS S w' e v := h.keep fun b _ hlt => hb.block b hlt
/-! ### Kids -/
/-- Behind an address the kids l, in blocks of S. -/
def KsS (S : Nat → Prop) (w : World) (a : Option Addr) (l : List El) : Prop :=
  ∀ i (h : i < l.length), ∃ b o v0 v1 v2 v3 v4, a = some ⟨b, o, none⟩ ∧ S b ∧ Five w b (o + i * 5) v0 v1 v2 v3 v4 ∧ InS S w l[i] (.agg #[v0, v1, v2, v3, v4])
theorem KsS.nil (S : Nat → Prop) (w : World) (a : Option Addr) : KsS S w a [] := fun i h => by cases h
theorem KsS.keep {S : Nat → Prop} {w w' : World} {a : Option Addr} {l : List El} (h : KsS S w a l) (hk : ∀ b, S b → b < w.heap.size → w'.heap[b]? = w.heap[b]?) : KsS S w' a l := fun i hi => by
  obtain ⟨b, o, v0, v1, v2, v3, v4, ha, hS, hf, hin⟩ := h i hi
  exact ⟨b, o, v0, v1, v2, v3, v4, ha, hS, hf.keep (hk b hS hf.lt), hin.keep hk⟩
theorem KsS.weak {S S' : Nat → Prop} {w : World} {a : Option Addr} {l : List El} (h : KsS S w a l) (hs : ∀ b, b < w.heap.size → S b → S' b) : KsS S' w a l := fun i hi => by
  obtain ⟨b, o, v0, v1, v2, v3, v4, ha, hS, hf, hin⟩ := h i hi
  exact ⟨b, o, v0, v1, v2, v3, v4, ha, hs b hf.lt hS, hf, hin.weak hs⟩
theorem KsS.below {S : Nat → Prop} {w w' : World} {a : Option Addr} {l : List El} (h : KsS S w a l) (hb : Below w.heap.size w w') : KsS S w' a l := h.keep fun b _ hlt => hb.block b hlt
/-- A slice that holds the kids l, in blocks of S. -/
def SlK (S : Nat → Prop) (w : World) (v : Value) (l : List El) : Prop := ∃ a c, v = .slice a l.length c ∧ l.length ≤ c ∧ c ≤ maxLen ∧ KsS S w a l
theorem SlK.nil (S : Nat → Prop) (w : World) : SlK S w (.slice none 0 0) [] := ⟨none, 0, rfl, Nat.le_refl _, Nat.zero_le _, KsS.nil _ _ _⟩
theorem SlK.keep {S : Nat → Prop} {w w' : World} {v : Value} {l : List El} (h : SlK S w v l) (hk : ∀ b, S b → b < w.heap.size → w'.heap[b]? = w.heap[b]?) : SlK S w' v l := by
  obtain ⟨a, c, h1, h2, h3, h4⟩ := h
  exact ⟨a, c, h1, h2, h3, h4.keep hk⟩
theorem SlK.weak {S S' : Nat → Prop} {w : World} {v : Value} {l : List El} (h : SlK S w v l) (hs : ∀ b, b < w.heap.size → S b → S' b) : SlK S' w v l := by
  obtain ⟨a, c, h1, h2, h3, h4⟩ := h
  exact ⟨a, c, h1, h2, h3, h4.weak hs⟩
theorem SlK.below {S : Nat → Prop} {w w' : World} {v : Value} {l : List El} (h : SlK S w v l) (hb : Below w.heap.size w w') : SlK S w' v l := h.keep fun b _ hlt => hb.block b hlt
/-- An element out of its parts. -/
theorem InS.make {S : Nat → Prop} {w : World} {sp nm tx : ByteArray} {atr : List At} {ks : List El} {a k : Value} (hz : Szd sp nm tx atr) (ha : SlA S w a atr) (hk : SlK S w k ks) :
    InS S w (.mk sp nm atr tx ks) (.agg #[.string sp, .string nm, a, .string tx, k]) := by
  obtain ⟨aK, cK, rfl, h1, h2, h3⟩ := hk
  have h4 : ∀ i, ∃ u : Nat → Value, i < ks.length → ∃ b o, aK = some ⟨b, o, none⟩ ∧ S b ∧ Five w b (o + i * 5) (u 0) (u 1) (u 2) (u 3) (u 4) ∧ ∀ h : i < ks.length, InS S w ks[i] (.agg #[u 0, u 1, u 2, u 3, u 4]) := by
    intro i
    by_cases hi : i < ks.length
    · obtain ⟨b, o, v0, v1, v2, v3, v4, q1, q2, q3, q4⟩ := h3 i hi
      exact ⟨fun j => match j with | 0 => v0 | 1 => v1 | 2 => v2 | 3 => v3 | _ => v4, fun _ => ⟨b, o, q1, q2, q3, fun _ => q4⟩⟩
    · exact ⟨fun _ => .bool false, fun h => absurd h hi⟩
  obtain ⟨V, hV⟩ := Classical.skolem.1 h4
  refine .mk sp nm atr tx ks a aK cK V hz ha (Nat.le_trans h1 h2) (fun i hi => ?_) (fun i hi => ?_)
  · obtain ⟨b, o, q1, q2, q3, _⟩ := hV i hi
    exact ⟨b, o, q1, q2, q3⟩
  · obtain ⟨b, o, _, _, _, q4⟩ := hV i hi
    exact q4 hi
/-- The kids of an element that lies in memory, as layer 5 has them. -/
theorem KsS.ksIn {S : Nat → Prop} {w : World} {a : Option Addr} {l : List El} (h : KsS S w a l) : KsIn w.heap.size w a l := fun i hi => by
  obtain ⟨b, o, v0, v1, v2, v3, v4, ha, hS, hf, hin⟩ := h i hi
  obtain ⟨a1, c1, a2, c2, hv⟩ := hin.toIn.form
  simp only [Value.agg.injEq, Array.mk.injEq, List.cons.injEq, and_true] at hv
  obtain ⟨rfl, rfl, rfl, rfl, rfl⟩ := hv
  exact ⟨b, o, _, _, _, _, ha, hf.lt, hf, hin.toIn⟩
/-- What an element in memory is. -/
theorem InS.out {S : Nat → Prop} {w : World} {e : El} {v : Value} (h : InS S w e v) : ∃ aA cA aK cK, v = .agg #[.string e.sp, .string e.nm, .slice aA e.atr.length cA, .string e.tx, .slice aK e.ks.length cK] := by
  exact h.toIn.form
/-- A row that a call owns: five cells a kid, in blocks of S. -/
def KRow (N : Nat) (S : Nat → Prop) (w : World) (k : Value) (ks : List El) : Prop :=
  ∃ xs, w.ownsRow N 29 5 k ks.length xs ∧ ∀ i (h : i < ks.length), ∃ v0 v1 v2 v3 v4, xs[i * 5]? = some v0 ∧ xs[i * 5 + 1]? = some v1 ∧ xs[i * 5 + 2]? = some v2 ∧ xs[i * 5 + 3]? = some v3 ∧ xs[i * 5 + 4]? = some v4 ∧ InS S w ks[i] (.agg #[v0, v1, v2, v3, v4])
theorem KRow.nil (N : Nat) (S : Nat → Prop) (w : World) : KRow N S w (.slice none 0 0) [] := ⟨[], World.ownsRow_nil _ _ _ _, fun i h => by cases h⟩
theorem KRow.form {N : Nat} {S : Nat → Prop} {w : World} {k : Value} {ks : List El} (h : KRow N S w k ks) : ∃ a c, k = .slice a ks.length c ∧ (a = none ∨ ∃ g, a = some ⟨g, 0, none⟩ ∧ N ≤ g ∧ g < w.heap.size) := by
  obtain ⟨xs, h, _⟩ := h
  rcases h.2 with ⟨h1, h0⟩ | ⟨g, cap, cur, hv, hb, hg, _⟩
  · exact ⟨none, 0, by rw [h1, h0], .inl rfl⟩
  · exact ⟨_, _, hv, .inr ⟨g, rfl, hb, heap_lt hg⟩⟩
theorem KRow.keep {N : Nat} {S S' : Nat → Prop} {w w' : World} {k : Value} {ks : List El} (h : KRow N S w k ks) (hs : ∀ b, b < w.heap.size → S b → S' b) (hk : ∀ b, S b → b < w.heap.size → w'.heap[b]? = w.heap[b]?) (hr : ∀ b, k.ownBlock = some b → w'.heap[b]? = w.heap[b]?) : KRow N S' w' k ks := by
  obtain ⟨xs, h1, h2⟩ := h
  refine ⟨xs, own_keep h1 hr, fun i hi => ?_⟩
  obtain ⟨v0, v1, v2, v3, v4, q0, q1, q2, q3, q4, q5⟩ := h2 i hi
  refine ⟨v0, v1, v2, v3, v4, q0, q1, q2, q3, q4, ?_⟩
  have q6 : InS (fun b => S b ∧ b < w.heap.size) w ks[i] _ := q5.weak fun b hb hS => ⟨hS, hb⟩
  exact (q6.keep fun b hb _ => hk b hb.1 hb.2).weak fun b _ hb => hs b hb.2 hb.1
theorem KRow.below {N : Nat} {S : Nat → Prop} {w w' : World} {k : Value} {ks : List El} (h : KRow N S w k ks) (hb : Below w.heap.size w w') : KRow N S w' k ks := by
  have h' := h
  refine h'.keep (fun _ _ h => h) (fun b _ hlt => hb.block b hlt) fun b e => ?_
  obtain ⟨xs, h1, _⟩ := h
  obtain ⟨_, cur, hc⟩ := own_heap h1 e
  exact hb.block b (heap_lt hc)
/-- One kid more. -/
theorem KRow.snoc {N g cap : Nat} {S : Nat → Prop} {w : World} {ks : List El} {e : El} {xs : List Value} {v0 v1 v2 v3 v4 : Value} (h : w.ownsRow N 29 5 (.slice (some ⟨g, 0, none⟩) (ks.length + 1) cap) (ks.length + 1) (xs ++ [v0, v1, v2, v3, v4]))
    (hl : xs.length = ks.length * 5) (hx : ∀ i (h : i < ks.length), ∃ v0 v1 v2 v3 v4, xs[i * 5]? = some v0 ∧ xs[i * 5 + 1]? = some v1 ∧ xs[i * 5 + 2]? = some v2 ∧ xs[i * 5 + 3]? = some v3 ∧ xs[i * 5 + 4]? = some v4 ∧ InS S w ks[i] (.agg #[v0, v1, v2, v3, v4]))
    (he : InS S w e (.agg #[v0, v1, v2, v3, v4])) : KRow N S w (.slice (some ⟨g, 0, none⟩) (ks.length + 1) cap) (ks ++ [e]) := by
  refine ⟨xs ++ [v0, v1, v2, v3, v4], by simpa using h, fun i hi => ?_⟩
  by_cases hlt : i < ks.length
  · obtain ⟨u0, u1, u2, u3, u4, q0, q1, q2, q3, q4, q5⟩ := hx i hlt
    have k : ∀ j, j < 5 → (xs ++ [v0, v1, v2, v3, v4])[i * 5 + j]? = xs[i * 5 + j]? := fun j hj => List.getElem?_append_left (by omega)
    refine ⟨u0, u1, u2, u3, u4, (k 0 (by decide)).trans q0, (k 1 (by decide)).trans q1, (k 2 (by decide)).trans q2, (k 3 (by decide)).trans q3, (k 4 (by decide)).trans q4, ?_⟩
    rw [List.getElem_append_left hlt]; exact q5
  · have hi2 : i = ks.length := by simp at hi; omega
    subst hi2
    have k : ∀ j, (xs ++ [v0, v1, v2, v3, v4])[ks.length * 5 + j]? = [v0, v1, v2, v3, v4][j]? := fun j => by rw [List.getElem?_append_right (by omega), hl]; congr 1; omega
    refine ⟨v0, v1, v2, v3, v4, k 0, k 1, k 2, k 3, k 4, ?_⟩
    rw [List.getElem_append_right (Nat.le_refl _)]
    simpa using he
/-- A row that is owned holds its kids. -/
theorem KRow.slK {N : Nat} {S : Nat → Prop} {w : World} {k : Value} {ks : List El} (h : KRow N S w k ks) : SlK (fun b => N ≤ b ∨ S b) w k ks := by
  obtain ⟨xs, h1, h2⟩ := h
  rcases h1.2 with ⟨rfl, h0⟩ | ⟨g, cap, cur, rfl, hb, hg, hn, hc, hs, ht⟩
  · obtain rfl := List.length_eq_zero_iff.1 h0
    exact SlK.nil _ _
  · refine ⟨_, _, rfl, hn, hc, fun i hi => ?_⟩
    obtain ⟨v0, v1, v2, v3, v4, q0, q1, q2, q3, q4, q5⟩ := h2 i hi
    have k : ∀ j v, xs[i * 5 + j]? = some v → w.cell? ⟨g, 0 + i * 5 + j, none⟩ = some v := fun j v hv => by
      rw [← ht, List.getElem?_take] at hv
      rw [Lib.cell_of_heap hg, Nat.zero_add]
      split at hv
      · simpa using hv
      · cases hv
    exact ⟨g, 0, v0, v1, v2, v3, v4, rfl, .inl hb, ⟨k 0 v0 q0, k 1 v1 q1, k 2 v2 q2, k 3 v3 q3, k 4 v4 q4⟩, q5.weak fun _ _ h => .inr h⟩
end Go.Proofs.YtccpdfcmhggleaaGreatDoor
