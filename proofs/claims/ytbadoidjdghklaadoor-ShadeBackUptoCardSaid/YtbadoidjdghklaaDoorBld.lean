/- strings.Builder's contracts at this program's numbers: a builder that the call itself made is grown, written byte by byte, read. Condition: what is written takes at most 2^47 bytes. -/
import Derived.Test.YtbadoidjdghklaaDoorShelf
import Derived.Test.YtbadoidjdghklaaDoorBy
import Derived.WalkKit
import Derived.WalkSpells
import Derived.WalkLawsBesides
import Derived.BigQuiet
import Derived.Lib.Hide
import Derived.Shelf.Strings.BuilderK
import Derived.Shelf.Strings.BuilderF
namespace Go.Proofs.YtbadoidjdghklaaDoor
open Go.RowKit Go.Lib Go.Shelf

def ren166 : Ren := ⟨fun | 166 => 27 | 240 => 38 | 276 => 45 | n => n, fun | 0 => 0 | 3 => 3 | 4 => 4 | 5 => 5 | 9 => 9 | 20 => 20 | 37 => 39 | 70 => 38 | 72 => 41 | 75 => 45 | 80 => 48 | 164 => 67 | n => n, fun | n => n⟩
theorem lays166 : Lays.n166 Tryd.prog ren166 := {
  mixed := by kernel_rfl
  f166 := Tryd.func27.trans (congrArg some (by kernel_rfl))
  f240 := Tryd.func38.trans (congrArg some (by kernel_rfl))
  f276 := Tryd.func45.trans (congrArg some (by kernel_rfl))
  t0 := Tryd.underlying0
  a0 := Tryd.isAgg0
  z0 := Tryd.sizeOf0
  v0 := Tryd.zeroValue0
  t3 := Tryd.underlying3
  a3 := Tryd.isAgg3
  z3 := Tryd.sizeOf3
  v3 := Tryd.zeroValue3
  t4 := Tryd.underlying4
  a4 := Tryd.isAgg4
  z4 := Tryd.sizeOf4
  v4 := Tryd.zeroValue4
  t9 := Tryd.underlying9
  a9 := Tryd.isAgg9
  z9 := Tryd.sizeOf9
  v9 := Tryd.zeroValue9
  t20 := Tryd.underlying20
  a20 := Tryd.isAgg20
  z20 := Tryd.sizeOf20
  v20 := Tryd.zeroValue20
  t37 := Tryd.underlying39
  a37 := Tryd.isAgg39
  z37 := Tryd.sizeOf39
  v37 := Tryd.zeroValue39
  t70 := Tryd.underlying38
  a70 := Tryd.isAgg38
  z70 := Tryd.sizeOf38
  v70 := Tryd.zeroValue38
  t72 := Tryd.underlying41
  a72 := Tryd.isAgg41
  z72 := Tryd.sizeOf41
  v72 := Tryd.zeroValue41
  t75 := Tryd.underlying45
  a75 := Tryd.isAgg45
  z75 := Tryd.sizeOf45
  v75 := Tryd.zeroValue45
  t164 := Tryd.underlying67
  a164 := Tryd.isAgg67
  z164 := Tryd.sizeOf67
  v164 := Tryd.zeroValue67 }
theorem x72_166 : Builder.X72 Tryd.prog ren166 := ⟨by kernel_rfl, by kernel_rfl⟩
theorem x166 : Builder.Extra Tryd.prog ren166 := { x72_166 with t5 := Tryd.underlying5, a5 := Tryd.isAgg5, z5 := Tryd.sizeOf5, v5 := Tryd.zeroValue5, infoByte := by kernel_rfl, cellsByte := by kernel_rfl, sizeByte := by kernel_rfl, neB5 := by decide }
theorem x169 : Builder.Extra Tryd.prog Tryd.lays169_ren := { sizeBuilder := by kernel_rfl, liesBuilder := by kernel_rfl, t5 := Tryd.underlying5, a5 := Tryd.isAgg5, z5 := Tryd.sizeOf5, v5 := Tryd.zeroValue5, infoByte := by kernel_rfl, cellsByte := by kernel_rfl, sizeByte := by kernel_rfl, neB5 := by decide }

/-- Block b, the call's own (from B on), is a builder that holds these bytes. -/
def Bd (B b : Nat) (l : List UInt8) (w : World) : Prop := Lib.IsBuilder 41 5 B b (Lib.byteCells l) w
theorem At.below {T e : TypeId} {B b : Nat} {p : Value} {bs : List Value} {w w' : World} (h : Lib.BuilderAt T e B b p bs w) (hb : Below w.heap.size w w') : Lib.BuilderAt T e B b p bs w' := by
  have hlt := Lib.BuilderAt.lt h
  obtain ⟨hB, v, hbk, hown, hne⟩ := h
  refine ⟨hB, v, (hb.block b hlt).trans hbk, ?_, hne⟩
  have hg : w.grownBy w' none := ⟨hb.os, hb.tape, hb.output, hb.size, fun k hk _ => hb.block k hk⟩
  refine hown.kept hg ?_
  cases hv : v.ownBlock with
  | none => exact .inl rfl
  | some k => exact .inr (by simp)
/-- What leaves the old blocks leaves a builder. -/
theorem Bd.below {B b : Nat} {l : List UInt8} {w w' : World} (h : Bd B b l w) (hb : Below w.heap.size w w') : Bd B b l w' :=
  h.elim (fun x => .inl (At.below x hb)) (fun x => .inr (At.below x hb))
theorem Bd.lt {B b : Nat} {l : List UInt8} {w : World} (h : Bd B b l w) : b < w.heap.size := h.elim Lib.BuilderAt.lt Lib.BuilderAt.lt
theorem bd_string {B b : Nat} {l : List UInt8} (w : World) (h : Bd B b l w) (hB : B ≤ w.heap.size) :
    Calls Tryd.prog 28 #[.pointer (some ⟨b, 0, none⟩)] w fun e w' => e = .returned (.string ⟨l.toArray⟩) ∧ Below B w w' :=
  (Any.Builder_String_any Tryd.lays169 x169 B b l w h hB).mono fun _ _ ⟨he, hb⟩ => ⟨he, hb⟩

theorem bd_new (w : World) : Bd w.heap.size w.heap.size [] (w.alloc (.cells #[.pointer none, .slice none 0 0] 41)) := Lib.fresh_isBuilder _ _ w
theorem bd_str {B b : Nat} {l : List UInt8} (s : ByteArray) (w : World) (h : Bd B b l w) (hl : l.length + s.size ≤ 140737488355328) (hB : B ≤ w.heap.size) :
    Calls Tryd.prog 27 #[.pointer (some ⟨b, 0, none⟩), .string s] w fun e w' => e = .returned (.tuple #[.int .i64 s.size, .nilIface]) ∧ Bd B b (l ++ s.data.toList) w' ∧ Below B w w' :=
  (Any.Builder_WriteString lays166 x166 B b (Lib.byteCells l) s w h (by rw [Lib.byteCells_length]; exact hl) hB).mono
    fun e w' ⟨he, hb, hB⟩ => ⟨he, .inr (by
      have e1 : Lib.byteCells (l ++ s.data.toList) = Lib.byteCells l ++ Lib.strCells s := by
        simp [Lib.byteCells, Lib.strCells]
      rw [e1]; exact hb), hB⟩

/-! ### A builder beside other blocks of the call's own: what is no row of bytes and not the builder's block stays -/
/-- Block O, the call's own (from B on), is a builder that holds these bytes, one that may have been read. -/
def Bf (B O : Nat) (l : List UInt8) (w : World) : Prop := Lib.IsBuilderF 41 5 B O (Lib.byteCells l) w
/-- What a call that writes into the builder O alone leaves: all below B; each other block that is no row of bytes. -/
structure Kp (B O : Nat) (w w' : World) : Prop where
  below : Below B w w'
  oth : Lib.OthersKept 5 (some O) w w'
theorem Kp.refl (B O : Nat) (w : World) : Kp B O w w := ⟨Below.refl _ _, Lib.OthersKept.refl _ _ _⟩
theorem Kp.trans {B O : Nat} {a b c : World} (h : Kp B O a b) (k : Kp B O b c) : Kp B O a c := ⟨h.below.trans k.below, h.oth.trans k.oth⟩
theorem Kp.alloc {B O : Nat} {a w : World} (h : Kp B O a w) (hB : B ≤ w.heap.size) (o : Obj) : Kp B O a (w.alloc o) := ⟨h.below.alloc hB o, h.oth.alloc o⟩
theorem Kp.drew {B O : Nat} {a w : World} (h : Kp B O a w) : Kp B O a w.drew := ⟨h.below.drew, h.oth.drew⟩
/-- What makes memory of its own alone keeps all. -/
theorem Kp.of {B O : Nat} {w w' : World} (h : Below w.heap.size w w') (hB : B ≤ w.heap.size) : Kp B O w w' :=
  ⟨h.mono hB, fun k _ hk _ _ => (h.block k (Array.getElem?_eq_some_iff.1 hk).1).trans hk⟩
theorem Kp.block {B O : Nat} {w w' : World} (h : Kp B O w w') {k : Nat} {cs : Array Value} {T : TypeId} {fz : Nat × Nat} (hk : w.heap[k]? = some (.cells cs T fz)) (hO : k ≠ O) (hT : T ≠ 5) : w'.heap[k]? = some (.cells cs T fz) :=
  h.oth k _ hk (fun e => hO (Option.some.inj e)) (fun c f e => by cases e; exact hT rfl)
theorem Kp.size {B O : Nat} {w w' : World} (h : Kp B O w w') : w.heap.size ≤ w'.heap.size := h.below.size
theorem Bf.of {B O : Nat} {l : List UInt8} {w : World} (h : Bd B O l w) : Bf B O l w := Lib.IsBuilderF.of h
theorem Bf.alloc {B O : Nat} {l : List UInt8} {w : World} (h : Bf B O l w) (o : Obj) : Bf B O l (w.alloc o) := Lib.IsBuilderF.alloc h o
theorem bfAt_below {T e : TypeId} {B b : Nat} {p : Value} {bs : List Value} {w w' : World} (h : Lib.BuilderAtF T e B b p bs w) (hb : Below w.heap.size w w') : Lib.BuilderAtF T e B b p bs w' := by
  have hlt := Lib.BuilderAtF.lt h
  obtain ⟨hB, v, hbk, hown, hne⟩ := h
  refine ⟨hB, v, (hb.block b hlt).trans hbk, ⟨hown.1, ?_⟩, hne⟩
  rcases hown.2 with hn | ⟨g, cap, cur, fz, hv, hbg, hg, rest⟩
  · exact .inl hn
  · exact .inr ⟨g, cap, cur, fz, hv, hbg, (hb.block g (Array.getElem?_eq_some_iff.1 hg).1).trans hg, rest⟩
theorem Bf.below {B O : Nat} {l : List UInt8} {w w' : World} (h : Bf B O l w) (hb : Below w.heap.size w w') : Bf B O l w' :=
  h.elim (fun x => .inl (bfAt_below x hb)) (fun x => .inr (bfAt_below x hb))
theorem Bf.lt {B O : Nat} {l : List UInt8} {w : World} (h : Bf B O l w) : O < w.heap.size := h.elim Lib.BuilderAtF.lt Lib.BuilderAtF.lt
theorem bf_str {B O : Nat} {l : List UInt8} (s : ByteArray) (w : World) (h : Bf B O l w) (hl : l.length + s.size ≤ 140737488355328) (hB : B ≤ w.heap.size) :
    Calls Tryd.prog 27 #[.pointer (some ⟨O, 0, none⟩), .string s] w fun e w' => e = .returned (.tuple #[.int .i64 s.size, .nilIface]) ∧ Bf B O (l ++ s.data.toList) w' ∧ Kp B O w w' :=
  (Any.Builder_WriteString_k lays166 x166 B O (Lib.byteCells l) s w h (by rw [Lib.byteCells_length]; exact hl) hB).mono
    fun e w' ⟨he, hb, hB, ho⟩ => ⟨he, .inr (by
      have e1 : Lib.byteCells (l ++ s.data.toList) = Lib.byteCells l ++ Lib.strCells s := by
        simp [Lib.byteCells, Lib.strCells]
      rw [e1]; exact hb), ⟨hB, ho⟩⟩
theorem bf_string {B O : Nat} {l : List UInt8} (w : World) (h : Bf B O l w) (hB : B ≤ w.heap.size) :
    Calls Tryd.prog 28 #[.pointer (some ⟨O, 0, none⟩)] w fun e w' => e = .returned (.string ⟨l.toArray⟩) ∧ Kp B O w w' := by
  by_cases h0 : l = []
  · subst h0
    exact (Any.Builder_String_empty_k Tryd.lays169 x169 B O w h hB).mono fun e w' ⟨he, _, h2, h3⟩ => ⟨he, h2, h3⟩
  · exact (Any.Builder_String_k Tryd.lays169 x169 B O l w h h0).mono fun e w' ⟨he, _, h2, h3⟩ => ⟨he, h2, h3⟩
theorem bf_len {B O : Nat} {l : List UInt8} (w : World) (h : Bf B O l w) : Calls Tryd.prog 26 #[.pointer (some ⟨O, 0, none⟩)] w fun e w' => e = .returned (.int .i64 l.length) ∧ w' = w :=
  (Any.Builder_Len_f Tryd.lays170 B O (Lib.byteCells l) w h).mono fun e w' ⟨he, hw⟩ => ⟨by rw [he, Lib.byteCells_length], hw⟩
end Go.Proofs.YtbadoidjdghklaaDoor
