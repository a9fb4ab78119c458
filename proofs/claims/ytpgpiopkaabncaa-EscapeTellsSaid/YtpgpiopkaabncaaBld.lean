/- strings.Builder's contracts at this program's numbers: a builder that the call itself made is grown, written byte by byte, read. Condition: what is written takes at most 2^47 bytes. -/
import Derived.Test.YtpgpiopkaabncaaShelf
import Derived.Test.YtpgpiopkaabncaaBy
import Derived.WalkKit
import Derived.WalkSpells
import Derived.WalkLawsBesides
import Derived.BigQuiet
import Derived.Lib.Hide
namespace Go.Proofs.Ytpgpiopkaabncaa
open Go.RowKit Go.Lib Go.Shelf

def ren167 : Ren := ⟨fun | 167 => 19 | 240 => 28 | 276 => 33 | n => n, fun | 0 => 0 | 4 => 4 | 5 => 5 | 9 => 9 | 20 => 20 | 37 => 33 | 70 => 32 | 72 => 35 | 75 => 39 | 80 => 42 | 164 => 52 | n => n, fun | n => n⟩
theorem lays167 : Lays.n167 Try.prog ren167 := {
  mixed := by kernel_rfl
  f167 := Try.func19.trans (congrArg some (by kernel_rfl))
  f240 := Try.func28.trans (congrArg some (by kernel_rfl))
  f276 := Try.func33.trans (congrArg some (by kernel_rfl))
  t0 := Try.underlying0
  a0 := Try.isAgg0
  z0 := Try.sizeOf0
  v0 := Try.zeroValue0
  t4 := Try.underlying4
  a4 := Try.isAgg4
  z4 := Try.sizeOf4
  v4 := Try.zeroValue4
  t5 := Try.underlying5
  a5 := Try.isAgg5
  z5 := Try.sizeOf5
  v5 := Try.zeroValue5
  t9 := Try.underlying9
  a9 := Try.isAgg9
  z9 := Try.sizeOf9
  v9 := Try.zeroValue9
  t20 := Try.underlying20
  a20 := Try.isAgg20
  z20 := Try.sizeOf20
  v20 := Try.zeroValue20
  t37 := Try.underlying33
  a37 := Try.isAgg33
  z37 := Try.sizeOf33
  v37 := Try.zeroValue33
  t70 := Try.underlying32
  a70 := Try.isAgg32
  z70 := Try.sizeOf32
  v70 := Try.zeroValue32
  t72 := Try.underlying35
  a72 := Try.isAgg35
  z72 := Try.sizeOf35
  v72 := Try.zeroValue35
  t75 := Try.underlying39
  a75 := Try.isAgg39
  z75 := Try.sizeOf39
  v75 := Try.zeroValue39
  t164 := Try.underlying52
  a164 := Try.isAgg52
  z164 := Try.sizeOf52
  v164 := Try.zeroValue52 }
theorem x72_167 : Builder.X72 Try.prog ren167 := ⟨by kernel_rfl, by kernel_rfl⟩
theorem x167 : Builder.Extra Try.prog ren167 := { x72_167 with t5 := Try.underlying5, a5 := Try.isAgg5, z5 := Try.sizeOf5, v5 := Try.zeroValue5, infoByte := by kernel_rfl, cellsByte := by kernel_rfl, sizeByte := by kernel_rfl, neB5 := by decide }
theorem x165 : Builder.Extra Try.prog Try.lays165_ren := { sizeBuilder := by kernel_rfl, liesBuilder := by kernel_rfl, t5 := Try.underlying5, a5 := Try.isAgg5, z5 := Try.sizeOf5, v5 := Try.zeroValue5, infoByte := by kernel_rfl, cellsByte := by kernel_rfl, sizeByte := by kernel_rfl, neB5 := by decide }
theorem x169 : Builder.Extra Try.prog Try.lays169_ren := { sizeBuilder := by kernel_rfl, liesBuilder := by kernel_rfl, t5 := Try.underlying5, a5 := Try.isAgg5, z5 := Try.sizeOf5, v5 := Try.zeroValue5, infoByte := by kernel_rfl, cellsByte := by kernel_rfl, sizeByte := by kernel_rfl, neB5 := by decide }

/-- Block b, the call's own (from B on), is a builder that holds these bytes. -/
def Bd (B b : Nat) (l : List UInt8) (w : World) : Prop := Lib.IsBuilder 35 5 B b (Lib.byteCells l) w
theorem At.below {T e : TypeId} {B b : Nat} {p : Value} {bs : List Value} {w w' : World} (h : Lib.BuilderAt T e B b p bs w) (hb : Below w.heap.size w w') : Lib.BuilderAt T e B b p bs w' := by
  have hlt := Lib.BuilderAt.lt h
  obtain ⟨hB, v, hbk, hown, hne⟩ := h
  refine ⟨hB, v, (hb.block b hlt).trans hbk, ?_, hne⟩
  have hg : w.grownBy w' none := ⟨hb.os, hb.tape, hb.output, hb.size, fun k hk _ => hb.block k hk⟩
  refine hown.kept hg ?_
  cases hv : v.ownBlock with
  | none => exact .inl rfl
  | some k => exact .inr (by simp)
/-- What leaves the old blocks leaves a builder. -/
theorem Bd.below {B b : Nat} {l : List UInt8} {w w' : World} (h : Bd B b l w) (hb : Below w.heap.size w w') : Bd B b l w' :=
  h.elim (fun x => .inl (At.below x hb)) (fun x => .inr (At.below x hb))
theorem Bd.lt {B b : Nat} {l : List UInt8} {w : World} (h : Bd B b l w) : b < w.heap.size := h.elim Lib.BuilderAt.lt Lib.BuilderAt.lt
theorem bd_grow (n : Nat) (w : World) (hn : n ≤ 281474976710656) :
    Calls Try.prog 16 #[.pointer (some ⟨w.heap.size, 0, none⟩), .int .i64 n] (w.alloc (.cells #[.pointer none, .slice none 0 0] 35)) fun e w' => e = .returned (.tuple #[]) ∧ Bd w.heap.size w.heap.size [] w' ∧ Below w.heap.size w w' :=
  (Any.Builder_Grow_fresh Try.lays165 x165 w.heap.size w.heap.size n (w.alloc (.cells #[.pointer none, .slice none 0 0] 35)) (Nat.le_refl _) (heap_alloc_new w _) (by simp) hn).mono
    fun e w' ⟨he, hb, hB⟩ => ⟨he, .inr hb, ((Below.refl _ w).alloc (Nat.le_refl _) _).trans hB⟩
theorem bd_write {B b : Nat} {l : List UInt8} (c : Nat) (w : World) (hc : c < 256) (h : Bd B b l w) (hl : l.length + 1 ≤ 140737488355328) (hB : B ≤ w.heap.size) :
    Calls Try.prog 19 #[.pointer (some ⟨b, 0, none⟩), .int .u8 c] w fun e w' => e = .returned .nilIface ∧ Bd B b (l ++ [By.u c]) w' ∧ Below B w w' :=
  (Any.Builder_WriteByte lays167 x167 B b (Lib.byteCells l) c w h (by rw [Lib.byteCells_length]; exact hl) hB).mono
    fun e w' ⟨he, hb, hB⟩ => ⟨he, .inr (by
      have e1 : Lib.byteCells (l ++ [By.u c]) = Lib.byteCells l ++ [Value.int .u8 (c : Int)] := by
        simp [Lib.byteCells, By.u_nat hc]
      rw [e1]; exact hb), hB⟩
theorem bd_string {B b : Nat} {l : List UInt8} (w : World) (h : Bd B b l w) (hB : B ≤ w.heap.size) :
    Calls Try.prog 20 #[.pointer (some ⟨b, 0, none⟩)] w fun e w' => e = .returned (.string ⟨l.toArray⟩) ∧ Below B w w' :=
  (Any.Builder_String_any Try.lays169 x169 B b l w h hB).mono fun _ _ ⟨he, hb⟩ => ⟨he, hb⟩
end Go.Proofs.Ytpgpiopkaabncaa
