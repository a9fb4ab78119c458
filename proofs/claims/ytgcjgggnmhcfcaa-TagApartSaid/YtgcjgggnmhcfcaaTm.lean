/- An element as it lies in memory: a value that reads as it in a world, its attributes and its kids in blocks below a number. No condition. -/
import Derived.Test.YtgcjgggnmhcfcaaTk
import Derived.Test.YtgcjgggnmhcfcaaLen
import Derived.Test.YtgcjgggnmhcfcaaBld
namespace Go.Proofs.Ytgcjgggnmhcfcaa
open Go.RowKit Go.Lib Tg

/-- The attributes lie behind the address a, two cells each, below block B. -/
def AtIn (B : Nat) (w : World) (a : Option Addr) (l : List (ByteArray × ByteArray)) : Prop :=
  ∀ i (h : i < l.length), ∃ b o, a = some ⟨b, o, none⟩ ∧ b < B ∧ w.cell? ⟨b, o + i * 2, none⟩ = some (.string l[i].1) ∧ w.cell? ⟨b, o + i * 2 + 1, none⟩ = some (.string l[i].2)
/-- Five cells behind an address. -/
def Five (w : World) (b o : Nat) (v0 v1 v2 v3 v4 : Value) : Prop :=
  w.cell? ⟨b, o, none⟩ = some v0 ∧ w.cell? ⟨b, o + 1, none⟩ = some v1 ∧ w.cell? ⟨b, o + 2, none⟩ = some v2 ∧ w.cell? ⟨b, o + 3, none⟩ = some v3 ∧ w.cell? ⟨b, o + 4, none⟩ = some v4
/-- No text of the element, its kids aside, is longer than a text may be. -/
def Szd (sp nm tx : ByteArray) (atr : List (ByteArray × ByteArray)) : Prop :=
  (sp.size ≤ 140737488351232 ∧ nm.size ≤ 140737488351232 ∧ tx.size ≤ 140737488351232 ∧ atr.length ≤ 140737488351232) ∧ ∀ a ∈ atr, a.1.size ≤ 140737488351232 ∧ a.2.size ≤ 140737488351232
/-- The value v is the element, in the world w, of blocks below B. -/
inductive In (B : Nat) (w : World) : El → Value → Prop
  | mk (sp nm : ByteArray) (atr : List (ByteArray × ByteArray)) (tx : ByteArray) (ks : List El) (aA : Option Addr) (cA : Nat) (aK : Option Addr) (cK : Nat) (V : Nat → Nat → Value) :
      Szd sp nm tx atr → atr.length ≤ cA ∧ cA ≤ maxLen → ks.length ≤ maxLen → AtIn B w aA atr →
      (∀ i, i < ks.length → ∃ b o, aK = some ⟨b, o, none⟩ ∧ b < B ∧ Five w b (o + i * 5) (V i 0) (V i 1) (V i 2) (V i 3) (V i 4)) →
      (∀ i (h : i < ks.length), In B w ks[i] (.agg #[V i 0, V i 1, V i 2, V i 3, V i 4])) →
      In B w (.mk sp nm atr tx ks) (.agg #[.string sp, .string nm, .slice aA atr.length cA, .string tx, .slice aK ks.length cK])

/-- The kids lie behind an address, five cells each. -/
def KsIn (B : Nat) (w : World) (a : Option Addr) (l : List El) : Prop :=
  ∀ i (h : i < l.length), ∃ b o aA cA aK cK, a = some ⟨b, o, none⟩ ∧ b < B ∧ Five w b (o + i * 5) (.string l[i].sp) (.string l[i].nm) (.slice aA l[i].atr.length cA) (.string l[i].tx) (.slice aK l[i].ks.length cK) ∧
    In B w l[i] (.agg #[.string l[i].sp, .string l[i].nm, .slice aA l[i].atr.length cA, .string l[i].tx, .slice aK l[i].ks.length cK])
theorem In.sized {B : Nat} {w : World} {e : El} {v : Value} (h : In B w e v) : Szd e.sp e.nm e.tx e.atr := by
  cases h with
  | mk sp nm atr tx ks aA cA aK cK V h0 => exact h0
theorem In.form {B : Nat} {w : World} {e : El} {v : Value} (h : In B w e v) : ∃ aA cA aK cK, v = .agg #[.string e.sp, .string e.nm, .slice aA e.atr.length cA, .string e.tx, .slice aK e.ks.length cK] := by
  cases h with
  | mk sp nm atr tx ks aA cA aK cK => exact ⟨aA, cA, aK, cK, rfl⟩
theorem In.out {B : Nat} {w : World} {e : El} {v : Value} (h : In B w e v) : ∃ aA cA aK cK, v = .agg #[.string e.sp, .string e.nm, .slice aA e.atr.length cA, .string e.tx, .slice aK e.ks.length cK] ∧
    (e.atr.length ≤ cA ∧ cA ≤ maxLen) ∧ e.ks.length ≤ maxLen ∧ AtIn B w aA e.atr ∧ KsIn B w aK e.ks := by
  cases h with
  | mk sp nm atr tx ks aA cA aK cK V h0 h1 h2 h3 h4 h5 =>
    refine ⟨aA, cA, aK, cK, rfl, h1, h2, h3, fun i hi => ?_⟩
    obtain ⟨b, o, ha, hb, hf⟩ := h4 i hi
    have hin := h5 i hi
    obtain ⟨a1, c1, a2, c2, hv⟩ := hin.form
    simp only [Value.agg.injEq, Array.mk.injEq, List.cons.injEq, and_true] at hv
    obtain ⟨e0, e1, e2, e3, e4⟩ := hv
    rw [e0, e1, e2, e3, e4] at hf hin
    exact ⟨b, o, _, _, _, _, ha, hb, hf, hin⟩
theorem Five.below {B : Nat} {w w' : World} (h : Below B w w') {b o : Nat} (hb : b < B) {v0 v1 v2 v3 v4 : Value} (f : Five w b o v0 v1 v2 v3 v4) : Five w' b o v0 v1 v2 v3 v4 :=
  ⟨(h.cell (p := ⟨b, o, none⟩) hb).trans f.1, (h.cell (p := ⟨b, o + 1, none⟩) hb).trans f.2.1, (h.cell (p := ⟨b, o + 2, none⟩) hb).trans f.2.2.1, (h.cell (p := ⟨b, o + 3, none⟩) hb).trans f.2.2.2.1, (h.cell (p := ⟨b, o + 4, none⟩) hb).trans f.2.2.2.2⟩
theorem AtIn.below {B : Nat} {w w' : World} {a : Option Addr} {l : List (ByteArray × ByteArray)} (h : AtIn B w a l) (hb : Below B w w') : AtIn B w' a l := by
  intro i hi
  obtain ⟨b, o, ha, hlt, h1, h2⟩ := h i hi
  exact ⟨b, o, ha, hlt, (hb.cell (p := ⟨b, o + i * 2, none⟩) hlt).trans h1, (hb.cell (p := ⟨b, o + i * 2 + 1, none⟩) hlt).trans h2⟩
/-- What stays below B leaves an element what it is. -/
theorem In.stay {B : Nat} {w w' : World} {e : El} {v : Value} (h : In B w e v) (hb : Below B w w') : In B w' e v := by
  induction h with
  | mk sp nm atr tx ks aA cA aK cK V h0 h1 h2 h3 h4 _ ih =>
    refine .mk sp nm atr tx ks aA cA aK cK V h0 h1 h2 (h3.below hb) (fun i hi => ?_) ih
    obtain ⟨b, o, ha, hlt, hf⟩ := h4 i hi
    exact ⟨b, o, ha, hlt, hf.below hb hlt⟩
theorem In.mono {B B' : Nat} {w : World} {e : El} {v : Value} (h : In B w e v) (hb : B ≤ B') : In B' w e v := by
  induction h with
  | mk sp nm atr tx ks aA cA aK cK V h0 h1 h2 h3 h4 _ ih =>
    refine .mk sp nm atr tx ks aA cA aK cK V h0 h1 h2 (fun i hi => ?_) (fun i hi => ?_) ih
    · obtain ⟨b, o, ha, hlt, hf⟩ := h3 i hi
      exact ⟨b, o, ha, Nat.lt_of_lt_of_le hlt hb, hf⟩
    · obtain ⟨b, o, ha, hlt, hf⟩ := h4 i hi
      exact ⟨b, o, ha, Nat.lt_of_lt_of_le hlt hb, hf⟩
theorem KsIn.below {B : Nat} {w w' : World} {a : Option Addr} {l : List El} (h : KsIn B w a l) (hb : Below B w w') : KsIn B w' a l := by
  intro i hi
  obtain ⟨b, o, a1, c1, a2, c2, ha, hlt, hf, hin⟩ := h i hi
  exact ⟨b, o, a1, c1, a2, c2, ha, hlt, hf.below hb hlt, hin.stay hb⟩
/-- A box of five cells in a block of its own. -/
theorem five_box (w : World) (v0 v1 v2 v3 v4 : Value) (t : TypeId) : Five (w.alloc (.cells #[v0, v1, v2, v3, v4] t)) w.heap.size 0 v0 v1 v2 v3 v4 := by
  refine ⟨?_, ?_, ?_, ?_, ?_⟩ <;> simp
theorem five_of {w : World} {b : Nat} {v0 v1 v2 v3 v4 : Value} {t : TypeId} {fz : Nat × Nat} (h : w.heap[b]? = some (.cells #[v0, v1, v2, v3, v4] t fz)) : Five w b 0 v0 v1 v2 v3 v4 := by
  refine ⟨?_, ?_, ?_, ?_, ?_⟩ <;> (rw [Lib.cell_of_heap h]; rfl)
theorem bcell {W w1 : World} (hb : Below W.heap.size W w1) : (∀ b o, b < W.heap.size → w1.cell? ⟨b, o, none⟩ = W.cell? ⟨b, o, none⟩) ∧ (∀ b o, b < W.heap.size → w1.frozen? ⟨b, o, none⟩ = W.frozen? ⟨b, o, none⟩) :=
  ⟨fun b o h => hb.cell (p := ⟨b, o, none⟩) h, fun b o h => hb.frozen (p := ⟨b, o, none⟩) h⟩
theorem more {w w1 w2 : World} {B : Nat} (h : Below B w w1) (hw : B ≤ w.heap.size) (h2 : Below w1.heap.size w1 w2) : Below B w w2 := h.trans (h2.mono (Nat.le_trans hw h.size))
end Go.Proofs.Ytgcjgggnmhcfcaa
