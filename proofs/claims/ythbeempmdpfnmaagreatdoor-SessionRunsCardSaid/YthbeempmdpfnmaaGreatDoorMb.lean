/- Contracts: parts of package digest, and of the document's own. Conditions: those of each theorem's head. -/
import Derived.Test.YthbeempmdpfnmaaGreatDoorMa
import Derived.Test.YthbeempmdpfnmaaGreatDoorProg
import Derived.Test.YthbeempmdpfnmaaGreatDoorShelf
import Derived.WalkKit
import Derived.WalkSpells
import Derived.WalkLawsBesides
import Derived.BigQuiet
import Derived.Deep.QuietTactic
import Derived.Great.BuildSlice
import Derived.Lib.Hide
import Derived.Deep.Quiet
import Derived.StillTail
import Derived.Laws.Rows
import Derived.Laws.CopyOwn

namespace Go.Proofs.YthbeempmdpfnmaaGreatDoor.M
open Go.RowKit Go.Lib By Dg
theorem below_drewN (w : World) (n : Nat) : Below w.heap.size w (w.drewN n) := by
  induction n with
  | zero => exact Below.refl _ _
  | succ n ih => exact ih.drew
theorem bel_one (w : World) (o : Obj) (n : Nat) : Below w.heap.size w ((w.alloc o).drewN n) :=
  ((Below.refl _ w).alloc (Nat.le_refl _) o).trans ((below_drewN _ n).mono (by simp))
theorem shift_any (g : Bool) (i n : Nat) (w : World) (hi : i < n) (hn : n ≤ 8) : Calls Tryz.prog 89 #[.int .i64 (og g), .int .i64 i, .int .i64 n] w fun e w' => e = .returned (.int .i64 (sh g i n : Nat)) ∧ w = w' := by
  cases g with
  | false =>
    have E : Hid (8 * (i : Int) = (sh false i n : Nat)) := by show _ = _; simp [sh]
    have hi2 : (i : Int) < 8 := by omega
    have H : og false = 0 := rfl
    rw [H]
    clear H hi hn
    go_enter Tryz.func89, Tryz.ntmps89
    go_wp2
    go_ret
    exact ⟨by rw [← E.out]; rfl, rfl⟩
  | true =>
    obtain ⟨k, hk⟩ : ∃ k, k = n - 1 - i := ⟨_, rfl⟩
    have E : Hid (8 * ((n : Int) - 1 - i) = (sh true i n : Nat)) := by show _ = _; simp [sh]; omega
    have hi2 : (i : Int) < n := by omega
    have hn2 : (n : Int) ≤ 8 := by omega
    have H : og true = 1 := rfl
    rw [H]
    clear H hi hn hk
    go_enter Tryz.func89, Tryz.ntmps89
    go_wp2
    go_ret
    exact ⟨by rw [← E.out]; rfl, rfl⟩
theorem u64_31 {n : Nat} (hn : n < 32) : bits .and .u64 (n : Int) 31 = n := by
  have := u64_and_nat n 31 (by omega) (by omega)
  rw [show n &&& 31 = n by have := Nat.and_two_pow_sub_one_eq_mod n 5; rw [show (2 : Nat) ^ 5 - 1 = 31 by decide] at this; rw [this]; omega] at this
  exact this
theorem rot_any (x : Int) (n : Nat) (hn : n < 32) (w : World) : Calls Tryz.prog 88 #[.int .u32 x, .int .i64 n] w fun e w' => e = .returned (.int .u32 (rl x n)) ∧ w = w' := by
  have hb := u64_31 hn
  go_enter Tryz.func88, Tryz.ntmps88
  go_wp2
  go_ret
  exact ⟨rfl, rfl⟩
theorem turn_any (x : Int) (n : Nat) (hn : n < 32) (w : World) : Calls Tryz.prog 74 #[.int .u32 x, .int .i64 n] w fun e w' => e = .returned (.int .u32 (rl x n)) ∧ w' = w.drew := by
  go_enter Tryz.func74, Tryz.ntmps74
  go_wp2
  go_region
  go_wp2
  go_ret
  exact ⟨rfl, rfl⟩
theorem div_eq {i c k : Nat} (h : i / k = c) : ((i : Int) / (k : Int) == (c : Int)) = true := by rw [beq_iff_eq]; exact_mod_cast congrArg Nat.cast h
theorem div_ne {i c k : Nat} (h : i / k ≠ c) : ((i : Int) / (k : Int) == (c : Int)) = false := by rw [beq_eq_false_iff_ne]; exact_mod_cast h
theorem md5Mix_any (i : Nat) (a b c d : Int) (w : World) (hi : i < 64) : Calls Tryz.prog 87 #[.int .i64 i, .agg #[.int .u32 a, .int .u32 b, .int .u32 c, .int .u32 d]] w fun e w' => e = .returned (.tuple #[.int .u32 (mf i b c d), .int .i64 (mg i : Nat)]) ∧ Below w.heap.size w w' := by
  have hs : IntKind.u32.signed = false := rfl
  have hi2 : (i : Int) < 64 := by omega
  have HB := Lib.hid (fun n => bel_one w (Obj.cells #[.int .u32 a, .int .u32 b, .int .u32 c, .int .u32 d] 100) n)
  by_cases c0 : i / 16 = 0
  · have E : Hid (mf i b c d = io (an b c) (an (nt b) d) ∧ mg i = i) := by constructor <;> simp [mf, mg, c0]
    have f0 := div_eq c0
    clear c0 hi
    go_enter Tryz.func87, Tryz.ntmps87
    go_wp2
    go_quiet (fail)
    go_wp2
    go_ret2
    exact ⟨by rw [E.out.1, E.out.2]; rfl, HB.out _⟩
  have f0 := div_ne c0
  by_cases c1 : i / 16 = 1
  · have E : Hid (mf i b c d = io (an d b) (an (nt d) c) ∧ ((mg i : Nat) : Int) = (5 * (i : Int) + 1) % 16) := by constructor <;> simp [mf, mg, c1]
    have f1 := div_eq c1
    clear c0 c1 hi
    go_enter Tryz.func87, Tryz.ntmps87
    go_wp2
    go_quiet (fail)
    go_wp2
    go_ret2
    exact ⟨by rw [E.out.1, E.out.2]; rfl, HB.out _⟩
  have f1 := div_ne c1
  by_cases c2 : i / 16 = 2
  · have E : Hid (mf i b c d = xo (xo b c) d ∧ ((mg i : Nat) : Int) = (3 * (i : Int) + 5) % 16) := by constructor <;> simp [mf, mg, c2]
    have f2 := div_eq c2
    clear c0 c1 c2 hi
    go_enter Tryz.func87, Tryz.ntmps87
    go_wp2
    go_quiet (fail)
    go_wp2
    go_ret2
    exact ⟨by rw [E.out.1, E.out.2]; rfl, HB.out _⟩
  have f2 := div_ne c2
  have E : Hid (mf i b c d = xo c (io b (nt d)) ∧ ((mg i : Nat) : Int) = (7 * (i : Int)) % 16) := by constructor <;> simp [mf, mg, c0, c1, c2]
  clear c0 c1 c2 hi
  go_enter Tryz.func87, Tryz.ntmps87
  go_wp2
  go_quiet (fail)
  go_wp2
  go_ret2
  exact ⟨by rw [E.out.1, E.out.2]; rfl, HB.out _⟩
end Go.Proofs.YthbeempmdpfnmaaGreatDoor.M

namespace Go.Proofs.YthbeempmdpfnmaaGreatDoor.M
open Go.RowKit Go.Lib By Dg
theorem turns_at {j : Nat} (hj : j < 16) : ([Value.int .i64 7, Value.int .i64 12, Value.int .i64 17, Value.int .i64 22, Value.int .i64 5, Value.int .i64 9, Value.int .i64 14, Value.int .i64 20, Value.int .i64 4, Value.int .i64 11, Value.int .i64 16, Value.int .i64 23, Value.int .i64 6, Value.int .i64 10, Value.int .i64 15, Value.int .i64 21] : List Value)[j]? = some (.int .i64 ((turnsL.getD j 0 : Nat) : Int)) := by
  have : j = 0 ∨ j = 1 ∨ j = 2 ∨ j = 3 ∨ j = 4 ∨ j = 5 ∨ j = 6 ∨ j = 7 ∨ j = 8 ∨ j = 9 ∨ j = 10 ∨ j = 11 ∨ j = 12 ∨ j = 13 ∨ j = 14 ∨ j = 15 := by omega
  rcases this with rfl | rfl | rfl | rfl | rfl | rfl | rfl | rfl | rfl | rfl | rfl | rfl | rfl | rfl | rfl | rfl <;> rfl
theorem turns_any (i : Nat) (w : World) (hi : i < 64) : Calls Tryz.prog 75 #[.int .i64 i] w fun e w' => e = .returned (.int .i64 (rr i : Nat)) ∧ Below w.heap.size w w' := by
  have hi2 : (i : Int) < 64 := by omega
  have hx : ([Value.int .i64 7, Value.int .i64 12, Value.int .i64 17, Value.int .i64 22, Value.int .i64 5, Value.int .i64 9, Value.int .i64 14, Value.int .i64 20, Value.int .i64 4, Value.int .i64 11, Value.int .i64 16, Value.int .i64 23, Value.int .i64 6, Value.int .i64 10, Value.int .i64 15, Value.int .i64 21] : List Value)[i / 16 * 4 + i % 4]? = some (.int .i64 ((rr i : Nat) : Int)) := turns_at (by omega)
  have HB := Lib.hid (fun o => (Below.refl _ w).alloc (Nat.le_refl _) o)
  generalize hr : rr i = r at hx
  clear hr
  go_enter Tryz.func75, Tryz.ntmps75
  go_wp2
  go_ret
  exact ⟨rfl, HB.out _⟩
/-- The document's table: a new slice of its 64 numbers. -/
def TabP (w : World) (e : Ending) (w' : World) : Prop := ∃ B, e = .returned (.slice (some ⟨B, 0, none⟩) 64 64) ∧ w'.heap[B]? = some (.cells (sines.map (Value.int .u32)).toArray 91 (0, 0)) ∧ w.heap.size ≤ B ∧ Below w.heap.size w w'
theorem tab_end (w : World) : TabP w (.returned (.slice (some ⟨w.heap.size, 0, none⟩) 64 64)) (w.alloc (.cells (sines.map (Value.int .u32)).toArray 91)) :=
  ⟨_, rfl, heap_alloc_new w _, Nat.le_refl _, (Below.refl _ w).alloc (Nat.le_refl _) _⟩
theorem table_any (w : World) : Calls Tryz.prog 71 #[] w (TabP w) := by
  go_enter Tryz.func71, Tryz.ntmps71
  go_wp2_with (refine wpList_buildFlat rfl 92 91 64 _ rfl .u32 sines Tryz.underlying92 (by kernel_rfl) (by kernel_rfl) rfl (by decide) (by decide) (by kernel_rfl) ?_)
  go_ret
  exact tab_end w
theorem word_any (g : Bool) (l : List UInt8) (B p c : Nat) (w : World) (hp : p + 4 ≤ l.length) (hB : ∀ j, j < l.length → w.cell? ⟨B, j, none⟩ = some (.int .u8 (nb l j : Nat))) : Calls Tryz.prog 73 #[.slice (some ⟨B, p, none⟩) 4 c, .bool (!g)] w fun e w' => e = .returned (.int .u32 (wd g l p)) ∧ Below w.heap.size w w' := by
  have h0 := hB p (by omega)
  have h1 := hB (p + 1) (by omega)
  have h2 := hB (p + 2) (by omega)
  have h3 := hB (p + 3) (by omega)
  have b0 := nb_lt l p
  have b1 := nb_lt l (p + 1)
  have b2 := nb_lt l (p + 2)
  have b3 := nb_lt l (p + 3)
  have HB := Lib.hid (below_drewN w)
  cases g with
  | false =>
    have E : Hid (w4 (nb l p) (nb l (p + 1)) (nb l (p + 2)) (nb l (p + 3)) = wd false l p) := by
      show _ = _
      simp only [wd, Bool.false_eq_true, if_false]
    generalize wd false l p = x at E
    generalize nb l p = y0 at h0 b0 E
    generalize nb l (p + 1) = y1 at h1 b1 E
    generalize nb l (p + 2) = y2 at h2 b2 E
    generalize nb l (p + 3) = y3 at h3 b3 E
    clear hB hp
    show Calls _ _ #[_, .bool true] _ _
    go_enter Tryz.func73, Tryz.ntmps73
    go_wp2_with fail
    go_quiet (fail)
    go_wp2_with fail
    go_ret
    exact ⟨by rw [← E.out]; rfl, HB.out _⟩
  | true =>
    have E : Hid (w4 (nb l (p + 3)) (nb l (p + 2)) (nb l (p + 1)) (nb l p) = wd true l p) := by
      show _ = _
      simp only [wd, if_true]
    generalize wd true l p = x at E
    generalize nb l p = y0 at h0 b0 E
    generalize nb l (p + 1) = y1 at h1 b1 E
    generalize nb l (p + 2) = y2 at h2 b2 E
    generalize nb l (p + 3) = y3 at h3 b3 E
    clear hB hp
    show Calls _ _ #[_, .bool false] _ _
    go_enter Tryz.func73, Tryz.ntmps73
    go_wp2_with fail
    go_quiet (fail)
    go_wp2_with fail
    go_ret
    exact ⟨by rw [← E.out]; rfl, HB.out _⟩
end Go.Proofs.YthbeempmdpfnmaaGreatDoor.M

namespace Go.Proofs.YthbeempmdpfnmaaGreatDoor.M
open Go.RowKit Go.Lib Go.Shelf
def ren167 : Ren := ⟨fun | 167 => 99 | 240 => 100 | 276 => 108 | n => n, fun | 0 => 0 | 4 => 4 | 5 => 5 | 9 => 9 | 20 => 20 | 37 => 89 | 70 => 118 | 72 => 120 | 75 => 122 | 80 => 125 | 164 => 140 | n => n, fun | n => n⟩
theorem lays167 : Lays.n167 Tryz.prog ren167 := {
  mixed := by kernel_rfl
  f167 := Tryz.func99.trans (congrArg some (by kernel_rfl))
  f240 := Tryz.func100.trans (congrArg some (by kernel_rfl))
  f276 := Tryz.func108.trans (congrArg some (by kernel_rfl))
  t0 := Tryz.underlying0
  a0 := Tryz.isAgg0
  z0 := Tryz.sizeOf0
  v0 := Tryz.zeroValue0
  t4 := Tryz.underlying4
  a4 := Tryz.isAgg4
  z4 := Tryz.sizeOf4
  v4 := Tryz.zeroValue4
  t5 := Tryz.underlying5
  a5 := Tryz.isAgg5
  z5 := Tryz.sizeOf5
  v5 := Tryz.zeroValue5
  t9 := Tryz.underlying9
  a9 := Tryz.isAgg9
  z9 := Tryz.sizeOf9
  v9 := Tryz.zeroValue9
  t20 := Tryz.underlying20
  a20 := Tryz.isAgg20
  z20 := Tryz.sizeOf20
  v20 := Tryz.zeroValue20
  t37 := Tryz.underlying89
  a37 := Tryz.isAgg89
  z37 := Tryz.sizeOf89
  v37 := Tryz.zeroValue89
  t70 := Tryz.underlying118
  a70 := Tryz.isAgg118
  z70 := Tryz.sizeOf118
  v70 := Tryz.zeroValue118
  t72 := Tryz.underlying120
  a72 := Tryz.isAgg120
  z72 := Tryz.sizeOf120
  v72 := Tryz.zeroValue120
  t75 := Tryz.underlying122
  a75 := Tryz.isAgg122
  z75 := Tryz.sizeOf122
  v75 := Tryz.zeroValue122
  t164 := Tryz.underlying140
  a164 := Tryz.isAgg140
  z164 := Tryz.sizeOf140
  v164 := Tryz.zeroValue140 }
def ren166 : Ren := ⟨fun | 166 => 90 | 240 => 100 | 276 => 108 | n => n, fun | 0 => 0 | 3 => 3 | 4 => 4 | 5 => 5 | 9 => 9 | 20 => 20 | 37 => 89 | 70 => 118 | 72 => 120 | 75 => 122 | 80 => 125 | 164 => 140 | n => n, fun | n => n⟩
theorem lays166 : Lays.n166 Tryz.prog ren166 := {
  mixed := by kernel_rfl
  f166 := Tryz.func90.trans (congrArg some (by kernel_rfl))
  f240 := Tryz.func100.trans (congrArg some (by kernel_rfl))
  f276 := Tryz.func108.trans (congrArg some (by kernel_rfl))
  t0 := Tryz.underlying0
  a0 := Tryz.isAgg0
  z0 := Tryz.sizeOf0
  v0 := Tryz.zeroValue0
  t3 := Tryz.underlying3
  a3 := Tryz.isAgg3
  z3 := Tryz.sizeOf3
  v3 := Tryz.zeroValue3
  t4 := Tryz.underlying4
  a4 := Tryz.isAgg4
  z4 := Tryz.sizeOf4
  v4 := Tryz.zeroValue4
  t9 := Tryz.underlying9
  a9 := Tryz.isAgg9
  z9 := Tryz.sizeOf9
  v9 := Tryz.zeroValue9
  t20 := Tryz.underlying20
  a20 := Tryz.isAgg20
  z20 := Tryz.sizeOf20
  v20 := Tryz.zeroValue20
  t37 := Tryz.underlying89
  a37 := Tryz.isAgg89
  z37 := Tryz.sizeOf89
  v37 := Tryz.zeroValue89
  t70 := Tryz.underlying118
  a70 := Tryz.isAgg118
  z70 := Tryz.sizeOf118
  v70 := Tryz.zeroValue118
  t72 := Tryz.underlying120
  a72 := Tryz.isAgg120
  z72 := Tryz.sizeOf120
  v72 := Tryz.zeroValue120
  t75 := Tryz.underlying122
  a75 := Tryz.isAgg122
  z75 := Tryz.sizeOf122
  v75 := Tryz.zeroValue122
  t164 := Tryz.underlying140
  a164 := Tryz.isAgg140
  z164 := Tryz.sizeOf140
  v164 := Tryz.zeroValue140 }
theorem x72_166 : Builder.X72 Tryz.prog ren166 := ⟨by kernel_rfl, by kernel_rfl⟩
theorem x166 : Builder.Extra Tryz.prog ren166 := { x72_166 with t5 := Tryz.underlying5, a5 := Tryz.isAgg5, z5 := Tryz.sizeOf5, v5 := Tryz.zeroValue5, infoByte := by kernel_rfl, cellsByte := by kernel_rfl, sizeByte := by kernel_rfl, neB5 := by decide }
theorem x72_167 : Builder.X72 Tryz.prog ren167 := ⟨by kernel_rfl, by kernel_rfl⟩
theorem x167 : Builder.Extra Tryz.prog ren167 := { x72_167 with t5 := Tryz.underlying5, a5 := Tryz.isAgg5, z5 := Tryz.sizeOf5, v5 := Tryz.zeroValue5, infoByte := by kernel_rfl, cellsByte := by kernel_rfl, sizeByte := by kernel_rfl, neB5 := by decide }
theorem x169 : Builder.Extra Tryz.prog Tryz.lays169_ren := { sizeBuilder := by kernel_rfl, liesBuilder := by kernel_rfl, t5 := Tryz.underlying5, a5 := Tryz.isAgg5, z5 := Tryz.sizeOf5, v5 := Tryz.zeroValue5, infoByte := by kernel_rfl, cellsByte := by kernel_rfl, sizeByte := by kernel_rfl, neB5 := by decide }
/-- Block b, the call's own (from B on), is a builder that holds these bytes. -/
def Bd (B b : Nat) (l : List UInt8) (w : World) : Prop := Lib.IsBuilder 120 5 B b (Lib.byteCells l) w
theorem At.below {T e : TypeId} {B b : Nat} {p : Value} {bs : List Value} {w w' : World} (h : Lib.BuilderAt T e B b p bs w) (hb : Below w.heap.size w w') : Lib.BuilderAt T e B b p bs w' := by
  have hlt := Lib.BuilderAt.lt h
  obtain ⟨hB, v, hbk, hown, hne⟩ := h
  refine ⟨hB, v, (hb.block b hlt).trans hbk, ?_, hne⟩
  have hg : w.grownBy w' none := ⟨hb.os, hb.tape, hb.output, hb.size, fun k hk _ => hb.block k hk⟩
  refine hown.kept hg ?_
  cases hv : v.ownBlock with
  | none => exact .inl rfl
  | some k => exact .inr (by simp)
/-- What leaves the old blocks leaves a builder. -/
theorem Bd.below {B b : Nat} {l : List UInt8} {w w' : World} (h : Bd B b l w) (hb : Below w.heap.size w w') : Bd B b l w' :=
  h.elim (fun x => .inl (At.below x hb)) (fun x => .inr (At.below x hb))
theorem Bd.lt {B b : Nat} {l : List UInt8} {w : World} (h : Bd B b l w) : b < w.heap.size := h.elim Lib.BuilderAt.lt Lib.BuilderAt.lt
theorem bd_write {B b : Nat} {l : List UInt8} (c : Nat) (w : World) (hc : c < 256) (h : Bd B b l w) (hl : l.length + 1 ≤ 140737488355328) (hB : B ≤ w.heap.size) :
    Calls Tryz.prog 99 #[.pointer (some ⟨b, 0, none⟩), .int .u8 c] w fun e w' => e = .returned .nilIface ∧ Bd B b (l ++ [By.u c]) w' ∧ Below B w w' :=
  (Any.Builder_WriteByte lays167 x167 B b (Lib.byteCells l) c w h (by rw [Lib.byteCells_length]; exact hl) hB).mono
    fun e w' ⟨he, hb, hB⟩ => ⟨he, .inr (by
      have e1 : Lib.byteCells (l ++ [By.u c]) = Lib.byteCells l ++ [Value.int .u8 (c : Int)] := by
        simp [Lib.byteCells, By.u_nat hc]
      rw [e1]; exact hb), hB⟩
theorem bd_string {B b : Nat} {l : List UInt8} (w : World) (h : Bd B b l w) (hB : B ≤ w.heap.size) :
    Calls Tryz.prog 91 #[.pointer (some ⟨b, 0, none⟩)] w fun e w' => e = .returned (.string ⟨l.toArray⟩) ∧ Below B w w' :=
  (Any.Builder_String_any Tryz.lays169 x169 B b l w h hB).mono fun _ _ ⟨he, hb⟩ => ⟨he, hb⟩
theorem bd_new (w : World) : Bd w.heap.size w.heap.size [] (w.alloc (.cells #[.pointer none, .slice none 0 0] 120)) := Lib.fresh_isBuilder _ _ w
theorem bd_str {B b : Nat} {l : List UInt8} (s : ByteArray) (w : World) (h : Bd B b l w) (hl : l.length + s.size ≤ 140737488355328) (hB : B ≤ w.heap.size) :
    Calls Tryz.prog 90 #[.pointer (some ⟨b, 0, none⟩), .string s] w fun e w' => e = .returned (.tuple #[.int .i64 s.size, .nilIface]) ∧ Bd B b (l ++ s.data.toList) w' ∧ Below B w w' :=
  (Any.Builder_WriteString lays166 x166 B b (Lib.byteCells l) s w h (by rw [Lib.byteCells_length]; exact hl) hB).mono
    fun e w' ⟨he, hb, hB⟩ => ⟨he, .inr (by
      have e1 : Lib.byteCells (l ++ s.data.toList) = Lib.byteCells l ++ Lib.strCells s := by
        simp [Lib.byteCells, Lib.strCells]
      rw [e1]; exact hb), hB⟩
end Go.Proofs.YthbeempmdpfnmaaGreatDoor.M

namespace Go.Proofs.YthbeempmdpfnmaaGreatDoor.M
open Go.RowKit Go.Lib By Dg
def pbk (g : Bool) (x n k : Nat) : List UInt8 := (List.range k).map fun i => u (x / 2 ^ sh g i n % 256)
theorem pbk_succ (g : Bool) (x n k : Nat) : pbk g x n (k + 1) = pbk g x n k ++ [u (x / 2 ^ sh g k n % 256)] := by
  simp [pbk, List.range_succ]
theorem pbk_length (g : Bool) (x n k : Nat) : (pbk g x n k).length = k := by simp [pbk]
theorem sh_lt {g : Bool} {i n : Nat} (hi : i < n) (hn : n ≤ 8) : sh g i n < 64 := by unfold sh; split <;> omega
theorem put_any (g : Bool) (x n : Nat) (w : World) (hn : n ≤ 8) (hx : x < 18446744073709551616) : Calls Tryz.prog 86 #[.int .i64 (og g), .int .u64 x, .int .i64 n] w fun e w' => e = .returned (.string ⟨(pb g x n).toArray⟩) ∧ Below w.heap.size w w' := by
  have HD0 := Lib.hid (bd_new w)
  have HB0 := Lib.hid (fun o => (Below.refl _ w).alloc (Nat.le_refl _) o)
  have HS := Lib.hid (fun k W (hk : k < n) => shift_any g k n W hk hn)
  have hn2 : (n : Int) ≤ 8 := by omega
  generalize og g = o at HS
  have HX := Lib.hid hx
  clear hx
  go_enter Tryz.func86, Tryz.ntmps86
  go_wp2_with fail
  go_loopw [10] (fun i wr => ∃ k : Nat, i = .int .i64 k ∧ k ≤ n ∧ Hid (Bd w.heap.size w.heap.size (pbk g x n k) wr) ∧ Hid (Below w.heap.size w wr)) (fun i _ => n - (RowKit.intOf i).toNat)
  case atStart => exact ⟨0, rfl, by omega, HD0.out, HB0.out _⟩
  case round =>
    obtain ⟨k, rfl, hk, HD, HB⟩ := hrel
    by_cases hlt : k < n
    · have HS1 := Lib.hid (HS.out k · hlt)
      have s64 := sh_lt (g := g) hlt hn
      have HP : Hid (pbk g x n (k + 1) = pbk g x n k ++ [u (x / 2 ^ sh g k n % 256)]) := pbk_succ g x n k
      generalize sh g k n = s at HS1 s64 HP
      have hq : (x : Int) / 2 ^ s % 256 = ((x / 2 ^ s % 256 : Nat) : Int) := by simp
      have hy : x / 2 ^ s % 256 < 256 := by omega
      generalize x / 2 ^ s % 256 = y at hq hy HP
      go_wp2_with fail
      refine (HS1.out _).mono ?_
      rintro r w2 ⟨rfl, rfl⟩
      go_wp2_with fail
      refine (bd_write y _ hy HD.out (by rw [pbk_length]; omega) HB.out.size).mono ?_
      rintro r w3 ⟨rfl, hd3, hb3⟩
      have HD3 := Lib.hid hd3
      have HB3 := Lib.hid (HB.out.trans hb3)
      clear hd3 hb3
      go_wp2_with fail
      exact ⟨⟨k + 1, by go_num, by omega, by rw [HP.out]; exact HD3.out, HB3.out⟩, by simp [RowKit.intOf]; omega⟩
    · obtain rfl : k = n := by omega
      have HE : Hid (pbk g x k k = pb g x k) := rfl
      go_wp2_with fail
      refine (bd_string _ HD.out HB.out.size).mono ?_
      rintro r w3 ⟨rfl, hb3⟩
      have HB3 := Lib.hid (HB.out.trans hb3)
      clear hb3
      go_wp2_with fail
      go_ret
      exact ⟨by rw [← HE.out]; rfl, HB3.out⟩
theorem outp_take (g : Bool) (l : List Int) {k : Nat} (h : k < l.length) : outp g (l.take (k + 1)) = outp g (l.take k) ++ pb g (l.getD k 0).toNat 4 := by
  rw [List.take_succ_eq_append_getElem h, outp, List.flatMap_append, List.getD_eq_getElem?_getD, List.getElem?_eq_getElem h]
  simp [outp]
theorem putWords_any (g : Bool) (l : List Int) (B c : Nat) (w : World) (hl : l.length ≤ 100) (hW : ∀ x ∈ l, W32 x) (hB : ∀ j, j < l.length → w.cell? ⟨B, j, none⟩ = some (.int .u32 (l.getD j 0))) (hlt : B < w.heap.size) :
    Calls Tryz.prog 82 #[.int .i64 (og g), .slice (some ⟨B, 0, none⟩) l.length c] w fun e w' => e = .returned (.string ⟨(outp g l).toArray⟩) ∧ Below w.heap.size w w' := by
  have HD0 := Lib.hid (bd_new w)
  have HB0 := Lib.hid (fun o => (Below.refl _ w).alloc (Nat.le_refl _) o)
  have HS := Lib.hid (fun x W (hx : x < 18446744073709551616) => put_any g x 4 W (by omega) hx)
  have HC := Lib.hid hB
  have HW := Lib.hid hW
  have hn2 : (l.length : Int) ≤ 100 := by omega
  have HBlt := Lib.hid hlt
  generalize og g = o at HS
  obtain ⟨n, hn⟩ : ∃ n, n = l.length := ⟨_, rfl⟩
  have HN := Lib.hid hn
  rw [← hn] at hn2 ⊢
  clear hB hW hlt hl hn
  go_enter Tryz.func82, Tryz.ntmps82
  go_wp2_with fail
  go_loopw [10] (fun i wr => ∃ k : Nat, i = .int .i64 k ∧ k ≤ n ∧ Hid (Bd w.heap.size w.heap.size (outp g (l.take k)) wr) ∧ Hid (Below w.heap.size w wr)) (fun i _ => n - (RowKit.intOf i).toNat)
  case atStart => exact ⟨0, rfl, by omega, HD0.out, HB0.out _⟩
  case round =>
    obtain ⟨k, rfl, hk, HD, HB⟩ := hrel
    by_cases hlt : k < n
    · have hkl : k < l.length := by rw [← HN.out]; exact hlt
      have hc := (HB.out.cell (p := ⟨B, k, none⟩) HBlt.out).trans (HC.out k hkl)
      have hw : W32 (l.getD k 0) := HW.out _ (by rw [List.getD_eq_getElem?_getD, List.getElem?_eq_getElem hkl]; exact List.getElem_mem _)
      have HO : Hid (outp g (l.take (k + 1)) = outp g (l.take k) ++ pb g (l.getD k 0).toNat 4) := outp_take g l hkl
      have HL : Hid ((outp g (l.take k)).length ≤ 400 ∧ (⟨(pb g (l.getD k 0).toNat 4).toArray⟩ : ByteArray).size = 4) := ⟨by rw [outp_length, List.length_take]; omega, by rw [Lib.size_eq]; exact pb_length _ _ _⟩
      generalize l.getD k 0 = x at hc hw HO HL
      obtain ⟨X, rfl⟩ := Int.eq_ofNat_of_zero_le hw.1
      have hX : (X : Int) < 4294967296 := hw.2
      have hP := Lib.hid (HS.out X · (by omega))
      rw [Int.toNat_natCast] at HO HL
      clear hw hkl
      go_wp2_with fail
      refine (hP.out _).mono ?_
      rintro r w2 ⟨rfl, hb2⟩
      have HD2 := Lib.hid (HD.out.below hb2)
      have HB2 := Lib.hid (HB.out.trans (hb2.mono HB.out.size))
      clear hb2
      go_wp2_with fail
      refine (bd_str _ _ HD2.out (by rw [HL.out.2]; have := HL.out.1; omega) HB2.out.size).mono ?_
      rintro r w3 ⟨rfl, hd3, hb3⟩
      have HD3 := Lib.hid hd3
      have HB3 := Lib.hid (HB2.out.trans hb3)
      clear hd3 hb3
      go_wp2_with fail
      exact ⟨⟨k + 1, by go_num, by omega, by rw [HO.out]; exact HD3.out, HB3.out⟩, by simp [RowKit.intOf]; omega⟩
    · obtain rfl : k = n := by omega
      have HE : Hid (outp g (l.take k) = outp g l) := by show _ = _; rw [HN.out, List.take_length]
      go_wp2_with fail
      refine (bd_string _ HD.out HB.out.size).mono ?_
      rintro r w3 ⟨rfl, hb3⟩
      have HB3 := Lib.hid (HB.out.trans hb3)
      clear hb3
      go_wp2_with fail
      go_ret
      exact ⟨by rw [← HE.out]; rfl, HB3.out⟩
theorem x105 : Builder.Extra Tryz.prog Tryz.lays105_ren := { sizeBuilder := by kernel_rfl, liesBuilder := by kernel_rfl, t5 := Tryz.underlying5, a5 := Tryz.isAgg5, z5 := Tryz.sizeOf5, v5 := Tryz.zeroValue5, infoByte := by kernel_rfl, cellsByte := by kernel_rfl, sizeByte := by kernel_rfl, neB5 := by decide }
theorem zeros_any (c : Nat) (w : World) (hc : c ≤ 63) : Calls Tryz.prog 85 #[.string ⟨#[0]⟩, .int .i64 c] w fun e w' => e = .returned (.string ⟨(List.replicate c (u 0)).toArray⟩) ∧ Below w.heap.size w w' := by
  refine (Any.strings_Repeat Tryz.lays105 x105 ⟨#[0]⟩ c w (by omega) (by rw [show (⟨#[0]⟩ : ByteArray).size = 1 from rfl]; omega)).mono fun e w' ⟨he, hb⟩ => ⟨?_, hb⟩
  rw [he, show (⟨#[0]⟩ : ByteArray).data.toList = List.replicate 1 (u 0) from rfl, Lib.repeatL_replicate, Nat.mul_one]
/-- What stands behind a text of n bytes. -/
def fil (g : Bool) (n : Nat) : ByteArray := ⟨(u 128 :: List.replicate (zn n) (u 0) ++ pb g (n * 8) 8).toArray⟩
theorem filling_any (g : Bool) (n : Nat) (w : World) (hn : n ≤ 100000) : Calls Tryz.prog 79 #[.int .i64 (og g), .int .i64 n] w fun e w' => e = .returned (.string (fil g n)) ∧ Below w.heap.size w w' := by
  have HP := Lib.hid (fun W => put_any g (n * 8) 8 W (by omega) (by omega))
  have HZ := Lib.hid (fun W => zeros_any (zn n) W (zn_le n))
  have hn2 : (n : Int) ≤ 100000 := by omega
  generalize og g = o at HP
  have hp : (n : Int) * 8 = ((n * 8 : Nat) : Int) := by simp
  have HE : Hid ((⟨#[128]⟩ : ByteArray) ++ ⟨(List.replicate (zn n) (u 0)).toArray⟩ ++ ⟨(pb g (n * 8) 8).toArray⟩ = fil g n) := by
    refine bytes_ext ?_
    rw [append_list, append_list]
    rfl
  generalize fil g n = R at HE ⊢
  have s1 : (⟨(List.replicate (zn n) (u 0)).toArray⟩ : ByteArray).size ≤ 63 := by rw [Lib.size_eq]; simpa using zn_le n
  have s2 : (⟨(pb g (n * 8) 8).toArray⟩ : ByteArray).size ≤ 8 := by rw [Lib.size_eq]; simp [pb_length]
  generalize (⟨(List.replicate (zn n) (u 0)).toArray⟩ : ByteArray) = Z at HZ HE s1
  generalize (⟨(pb g (n * 8) 8).toArray⟩ : ByteArray) = Y at HP HE s2
  by_cases hz : n % 64 ≤ 55
  · have hzn : ((zn n : Nat) : Int) = 55 - (n : Int) % 64 := by unfold zn; rw [if_pos hz]; omega
    have f : decide (55 - (n : Int) % 64 < 0) = false := by simp; omega
    have HZN := Lib.hid hzn
    clear hzn hz hn hp
    generalize zn n = z at HZ HZN HE
    go_enter Tryz.func79, Tryz.ntmps79
    go_wp2_with fail
    rw [← HZN.out]
    refine (HZ.out _).mono ?_
    rintro r w2 ⟨rfl, hb2⟩
    have HB2 := Lib.hid hb2
    clear hb2
    go_wp2_with fail
    refine (HP.out _).mono ?_
    rintro r w3 ⟨rfl, hb3⟩
    have HB3 := Lib.hid (HB2.out.trans (hb3.mono HB2.out.size))
    clear hb3
    go_wp2_with fail
    go_ret
    exact ⟨by rw [← HE.out]; rfl, HB3.out⟩
  · have hzn : ((zn n : Nat) : Int) = 55 - (n : Int) % 64 + 64 := by unfold zn; rw [if_neg hz]; omega
    have f : decide (55 - (n : Int) % 64 < 0) = true := by simp; omega
    have HZN := Lib.hid hzn
    clear hzn hz hn hp
    generalize zn n = z at HZ HZN HE
    go_enter Tryz.func79, Tryz.ntmps79
    go_wp2_with fail
    rw [← HZN.out]
    refine (HZ.out _).mono ?_
    rintro r w2 ⟨rfl, hb2⟩
    have HB2 := Lib.hid hb2
    clear hb2
    go_wp2_with fail
    refine (HP.out _).mono ?_
    rintro r w3 ⟨rfl, hb3⟩
    have HB3 := Lib.hid (HB2.out.trans (hb3.mono HB2.out.size))
    clear hb3
    go_wp2_with fail
    go_ret
    exact ⟨by rw [← HE.out]; rfl, HB3.out⟩
end Go.Proofs.YthbeempmdpfnmaaGreatDoor.M

namespace Go.Proofs.YthbeempmdpfnmaaGreatDoor.M
open Go.RowKit Go.Lib
/-- The worlds in which all that lay in w stands as it stood. -/
def Ext (w : World) : Type := { w' : World // Below w.heap.size w w' }
def Ext.to {w : World} (x : Ext w) : World := x.1
theorem Ext.below {w : World} (x : Ext w) : Below w.heap.size w x.to := x.2
instance extSome (w : World) : Nonempty (Ext w) := ⟨⟨w, Below.refl _ _⟩⟩
theorem ext_region {P : Program} {id : Nat} {Q : Exit → Act → World → Prop} {a : Act} {w : World} {l : List Oper} (hm : P.follows .mixedOrders = true) (hB : Region.lexB .any l.toArray = true)
    (h : wpQuiet P l.toArray (fun w' => ∃ x : Ext w, w' = x.to) (fun a' => ∀ w', (∃ x : Ext w, w' = x.to) → Q .normal a' w') l a) : (Code.region id l.toArray true).wp P Q a w :=
  wp_region_quiet (C := fun w' => ∃ x : Ext w, w' = x.to) hm hB ⟨⟨w.drew, (Below.refl _ _).drew⟩, rfl⟩ (by simpa using h)
theorem ext_call {P : Program} {f : FuncId} {args : Array Value} {w : World} (x : Ext w) {v : Value} (h : Calls P f args x.to fun e w' => e = .returned v ∧ Below x.to.heap.size x.to w') :
    Calls P f args x.to fun e w'' => e = .returned v ∧ ∃ y : Ext w, w'' = y.to :=
  h.mono fun _ w'' ⟨he, hb⟩ => ⟨he, ⟨w'', x.below.trans (hb.mono x.below.size)⟩, rfl⟩
theorem ext_same {P : Program} {f : FuncId} {args : Array Value} {w : World} (x : Ext w) {v : Value} (h : Calls P f args x.to fun e w' => e = .returned v ∧ x.to = w') :
    Calls P f args x.to fun e w'' => e = .returned v ∧ ∃ y : Ext w, w'' = y.to :=
  h.mono fun _ _ ⟨he, hb⟩ => ⟨he, x, hb.symm⟩
theorem ext_cell {w : World} (x : Ext w) {p : Addr} {v : Value} (h : w.cell? p = some v) : x.to.cell? p = some v := by
  have hlt := World.block_lt_of_cell? _ _ h
  rw [← h]
  exact x.below.cell hlt
end Go.Proofs.YthbeempmdpfnmaaGreatDoor.M

namespace Go.Proofs.YthbeempmdpfnmaaGreatDoor.M
open Go
section
variable {P : Program} {ops : Array Oper} {md : Region.Mode} {C : World → Prop}
/-- The first n operations, in whatever order; behind them T. -/
def wpHead (P : Program) (md : Region.Mode) (ops : Array Oper) (C : World → Prop) (n : Nat) (T : Array Bool → Act → Prop) : Nat → Array Bool → Act → Prop
  | 0, listed, a => T listed a
  | f + 1, listed, a => Region.ready md ops listed ≠ [] ∧ ∀ i ∈ Region.ready md ops listed, i < n ∧ qOp P ops C i (wpHead P md ops C n T f (listed.setIfInBounds i true)) a
theorem wpAny_head {n g : Nat} {T : Array Bool → Act → Prop} {Q' : Exit → Act → World → Prop} (hT : ∀ listed a w, C w → T listed a → wpAny P md ops Q' g listed a w) :
    ∀ (f : Nat) (listed : Array Bool) (a : Act) (w : World), C w → wpHead P md ops C n T f listed a → wpAny P md ops Q' (f + g) listed a w := by
  intro f
  induction f with
  | zero => intro listed a w hw h; rw [Nat.zero_add]; exact hT _ _ _ hw h
  | succ f ih =>
    intro listed a w hw h
    rw [show f + 1 + g = (f + g) + 1 by omega]
    exact ⟨fun e => absurd e h.1, fun i hi => wpOp_of_qOp hw (fun a' w' hw' h' => ih _ a' w' hw' h') (h.2 i hi).2⟩
/-- Which of the first n comes first makes no difference. -/
theorem wpHead_first {n i : Nat} {oi : Oper} {v : Value} {T : Array Bool → Act → Prop} (hi : ops[i]? = some oi) (hsel : ∀ (j : Nat) (o : Oper) cs b, ops[j]? = some o → o.op ≠ .select cs b)
    (hs : Region.sinkB md ops n = true) (hc : Region.chainB md ops n = true) (hn : n < ops.size) (hin : i < n)
    (hT : ∀ listed a, T listed a → ∀ j ∈ Region.ready md ops listed, n ≤ j) : ∀ (f : Nat) (listed : Array Bool) (a : Act), HeadInv md ops n listed →
      (∀ j oj, ops[j]? = some oj → j ≠ i → listed.getD j true = false → (∀ e ∈ oj.after, Region.binds md e = true → e.on ≠ i) → oi.apart ops oj = true) →
      i ∈ Region.ready md ops listed → YieldsIn P ops C oi v a → wpHead P md ops C n T f (listed.setIfInBounds i true) (a.put oi.dst v) → wpHead P md ops C n T (f + 1) listed a := by
  intro f
  induction f with
  | zero =>
    intro listed a inv _ hr hy H
    refine ⟨List.ne_nil_of_mem hr, fun j hj => ?_⟩
    have hjn : j < n := Nat.lt_of_not_le fun h => tail_waits hs hc hn inv _ i rfl hin (mem_ready.1 hr).1 j h hj
    refine ⟨hjn, ?_⟩
    by_cases e : j = i
    · subst e
      exact hy.qOp hi H
    · have := hT _ _ H j (ready_mono hj e)
      omega
  | succ f ih =>
    intro listed a inv hap hr hy H
    refine ⟨List.ne_nil_of_mem hr, fun j hj => ?_⟩
    have hjn : j < n := Nat.lt_of_not_le fun h => tail_waits hs hc hn inv _ i rfl hin (mem_ready.1 hr).1 j h hj
    refine ⟨hjn, ?_⟩
    by_cases e : j = i
    · subst e
      exact hy.qOp hi H
    · obtain ⟨hju, oj, hoj, hwait⟩ := mem_ready.1 hj
      have hno : ∀ x ∈ oj.after, Region.binds md x = true → x.on ≠ i := by
        intro x hx hb hon
        have h1 := hwait x hx hb
        rw [hon, getD_both (mem_ready.1 hr).1] at h1
        cases h1
      refine qOp_mono (fun a' h3 => ih (listed.setIfInBounds j true) a' (inv.set hj hjn) (fun k ok hk hki hun hnk => ?_) (ready_mono hr (Ne.symm e)) h3.1 ?_)
        (qOp_put hoj (hap j oj hoj e hju hno) (fun cs b => hsel i oi cs b hi) (fun cs b => hsel j oj cs b hoj) hy (H.2 j (ready_mono hj e)).2)
      · refine hap k ok hk hki ?_ hnk
        by_cases ejk : j = k
        · subst ejk; exact hju
        · rwa [getD_set_ne true ejk] at hun
      · have h4 := h3.2
        rwa [Array.setIfInBounds_comm _ _ (Ne.symm e)] at h4
theorem wpHead_lex {n g : Nat} {T : Act → Prop} (hsel : Region.noSelect ops = true) (hs : Region.sinkB md ops n = true) (hc : Region.chainB md ops n = true) (hn : n < ops.size) :
    ∀ (l : List Oper) (k : Nat) (listed : Array Bool) (a : Act), (∀ j, j < l.length → l[j]? = ops[k + j]?) → k + l.length = n → HeadInv md ops n listed →
    Region.lexHead md ops g l.length k listed = true → wpQuiet P ops C T l a → wpHead P md ops C n (fun listed' a' => Region.seqB md ops g n listed' = true ∧ T a') l.length listed a := by
  intro l
  induction l with
  | nil =>
    intro k listed a _ hk _ hB h
    obtain rfl : k = n := by simpa using hk
    exact ⟨by simpa [Region.lexHead] using hB, h⟩
  | cons o l ih =>
    intro k listed a hl hk inv hB h
    have h0 : ops[k]? = some o := by simpa using (hl 0 (by simp)).symm
    simp only [List.length_cons, Region.lexHead, Bool.and_eq_true] at hB
    simp only [List.length_cons] at hk
    have hkn : k < n := by omega
    have hr : k ∈ Region.ready md ops listed := by simpa using hB.1.1
    obtain ⟨v, hy, hK⟩ := yieldsIn_of_qOp (C := C) (P := P) h0 (show qOp P ops C k (wpQuiet P ops C T l) a by unfold qOp; simp only [h0]; exact h)
    exact wpHead_first h0 (Region.noSelect_spec hsel) hs hc hn hkn (fun listed' a' hL => seqB_ready hL.1) l.length listed a inv (Region.free_spec h0 hB.1.2) hr hy
      (ih (k + 1) _ _ (fun j hj => by have := hl (j + 1) (by simp; omega); simpa [Nat.add_assoc, Nat.add_comm 1 j] using this) (by omega) (inv.set hr hkn) hB.2 hK)
end
/-- A region that draws: n operations that are quiet in a class of worlds, then the rest in its order. -/
theorem wp_region_tail {P : Program} {C : World → Prop} {id : Nat} {Q : Exit → Act → World → Prop} {a : Act} {w : World} {l : List Oper} (n : Nat) (hm : P.follows .mixedOrders = true) (hB : Region.lexTailB .any l.toArray n = true)
    (hC : C w.drew) (h : wpQuiet P l.toArray C (fun a' => ∀ w', C w' → wpList P l.toArray Q (l.drop n) a' w') (l.take n) a) : (Code.region id l.toArray true).wp P Q a w := by
  simp only [Region.lexTailB, Bool.and_eq_true, decide_eq_true_eq] at hB
  obtain ⟨⟨⟨⟨hsel, hn⟩, hs⟩, hc⟩, hlex⟩ := hB
  have hn' : n < l.length := by simpa using hn
  have htl : (l.take n).length = n := by simp; omega
  have hdl : (l.drop n).length = l.toArray.size - n := by simp
  have inv0 : HeadInv .any l.toArray n (Array.replicate l.toArray.size false) :=
    ⟨by simp, fun j oj _ hl => (by rw [getD_replicate_false] at hl; cases hl), fun t _ ht => getD_in (by simpa using ht) (getD_replicate_false _ _)⟩
  have H := wpHead_lex (P := P) (C := C) (md := .any) (g := l.toArray.size - n) hsel hs hc hn (l.take n) 0 _ a (fun j hj => by
    have hj' : j < n := by rw [htl] at hj; exact hj
    simp [hj']) (by simpa using htl) inv0 (by rw [htl]; exact hlex) h
  refine wp_region_any hm ?_
  have := wpAny_head (Q' := Q) (g := l.toArray.size - n) (fun listed a' w' hw' hL => by
    have := wpAny_of_seq (md := .any) (Q' := Q) (l.drop n) n listed a' w' (fun j => by simp [List.getElem?_drop]) (by rw [hdl]; exact hL.1) (hL.2 w' hw')
    rwa [hdl] at this) _ _ _ w.drew hC H
  rw [htl, show n + (l.toArray.size - n) = l.toArray.size by omega] at this
  exact this
theorem ext_tail {P : Program} {id : Nat} {Q : Exit → Act → World → Prop} {a : Act} {w : World} {l : List Oper} (n : Nat) (hm : P.follows .mixedOrders = true) (hB : Region.lexTailB .any l.toArray n = true)
    (h : wpQuiet P l.toArray (fun w' => ∃ x : Ext w, w' = x.to) (fun a' => ∀ w', (∃ x : Ext w, w' = x.to) → wpList P l.toArray Q (l.drop n) a' w') (l.take n) a) : (Code.region id l.toArray true).wp P Q a w :=
  wp_region_tail (C := fun w' => ∃ x : Ext w, w' = x.to) n hm hB ⟨⟨w.drew, (RowKit.Below.refl _ _).drew⟩, rfl⟩ h
theorem ext_frozen {w : World} (x : Ext w) {p : Addr} {v : Value} (h : w.cell? p = some v) {b : Bool} (hf : w.frozen? p = b) : x.to.frozen? p = b := by
  have hlt := World.block_lt_of_cell? _ _ h
  rw [← hf]
  exact x.below.frozen hlt
end Go.Proofs.YthbeempmdpfnmaaGreatDoor.M

namespace Go.Proofs.YthbeempmdpfnmaaGreatDoor.M
open Go.RowKit Go.Lib By Dg
/-- Sixteen words as cells. -/
def c16 (m : Nat → Int) : Array Value := #[.int .u32 (m 0), .int .u32 (m 1), .int .u32 (m 2), .int .u32 (m 3), .int .u32 (m 4), .int .u32 (m 5), .int .u32 (m 6), .int .u32 (m 7), .int .u32 (m 8), .int .u32 (m 9), .int .u32 (m 10), .int .u32 (m 11), .int .u32 (m 12), .int .u32 (m 13), .int .u32 (m 14), .int .u32 (m 15)]
theorem c16_at (m : Nat → Int) {j : Nat} (hj : j < 16) : (c16 m)[j]? = some (.int .u32 (m j)) := by
  have : j = 0 ∨ j = 1 ∨ j = 2 ∨ j = 3 ∨ j = 4 ∨ j = 5 ∨ j = 6 ∨ j = 7 ∨ j = 8 ∨ j = 9 ∨ j = 10 ∨ j = 11 ∨ j = 12 ∨ j = 13 ∨ j = 14 ∨ j = 15 := by omega
  rcases this with rfl | rfl | rfl | rfl | rfl | rfl | rfl | rfl | rfl | rfl | rfl | rfl | rfl | rfl | rfl | rfl <;> rfl
theorem c16_size (m : Nat → Int) : (c16 m).size = 16 := rfl
theorem c16_set (m : Nat → Int) {j : Nat} (hj : j < 16) (v : Int) : (c16 m).setIfInBounds j (.int .u32 v) = c16 (fun i => if i = j then v else m i) := by
  apply Array.ext_getElem?
  intro i
  rw [Array.getElem?_setIfInBounds]
  by_cases h : j = i
  · subst h
    rw [if_pos rfl, if_pos (by rw [c16_size]; exact hj), c16_at _ hj, if_pos rfl]
  · rw [if_neg h]
    by_cases hi : i < 16
    · rw [c16_at m hi, c16_at _ hi, if_neg (Ne.symm h)]
    · rw [Array.getElem?_eq_none (by rw [c16_size]; omega), Array.getElem?_eq_none (by rw [c16_size]; omega)]
/-- Word j as far as k bytes are read. -/
def pm (g : Bool) (l : List UInt8) (q k j : Nat) : Int := pw g l (q + 4 * j) (min 4 (k - 4 * j))
theorem pm_zero (g : Bool) (l : List UInt8) (q : Nat) : c16 (pm g l q 0) = #[.int .u32 0, .int .u32 0, .int .u32 0, .int .u32 0, .int .u32 0, .int .u32 0, .int .u32 0, .int .u32 0, .int .u32 0, .int .u32 0, .int .u32 0, .int .u32 0, .int .u32 0, .int .u32 0, .int .u32 0, .int .u32 0] := rfl
theorem pm_end (g : Bool) (l : List UInt8) (q : Nat) : c16 (pm g l q 64) = c16 (fun j => wd g l (q + 4 * j)) := by
  apply Array.ext_getElem?
  intro i
  by_cases hi : i < 16
  · rw [c16_at _ hi, c16_at _ hi, pm, show min 4 (64 - 4 * i) = 4 by omega, pw_four]
  · rw [Array.getElem?_eq_none (by rw [c16_size]; omega), Array.getElem?_eq_none (by rw [c16_size]; omega)]
theorem pm_at (g : Bool) (l : List UInt8) (q k : Nat) : pm g l q k (k / 4) = pw g l (q + 4 * (k / 4)) (k % 4) := by
  rw [pm, show min 4 (k - 4 * (k / 4)) = k % 4 by omega]
theorem pm_next (g : Bool) (l : List UInt8) (q : Nat) {k : Nat} (hk : k < 64) : (c16 (pm g l q k)).setIfInBounds (k / 4) (.int .u32 (io (pw g l (q + 4 * (k / 4)) (k % 4)) ((nb l (q + k) : Int) * 2 ^ sh g (k % 4) 4))) = c16 (pm g l q (k + 1)) := by
  rw [c16_set _ (by omega)]
  apply Array.ext_getElem?
  intro i
  by_cases hi : i < 16
  · rw [c16_at _ hi, c16_at _ hi]
    by_cases h : i = k / 4
    · subst h
      rw [if_pos rfl, pm, show min 4 (k + 1 - 4 * (k / 4)) = k % 4 + 1 by omega, pw, show q + 4 * (k / 4) + k % 4 = q + k by omega]
    · rw [if_neg h, pm, pm, show min 4 (k + 1 - 4 * i) = min 4 (k - 4 * i) by omega]
  · rw [Array.getElem?_eq_none (by rw [c16_size]; omega), Array.getElem?_eq_none (by rw [c16_size]; omega)]
/-- Block B, the call's own, holds these words. -/
def Has (T : TypeId) (cs : Array Value) (B : Nat) (w : World) : Prop := w.heap[B]? = some (.cells cs T (0, 0))
theorem Has.below {T : TypeId} {cs : Array Value} {B : Nat} {w w' : World} (h : Has T cs B w) (hb : Below w.heap.size w w') : Has T cs B w' := (hb.block B (Array.getElem?_eq_some_iff.1 h).1).trans h
theorem Has.lt {T : TypeId} {cs : Array Value} {B : Nat} {w : World} (h : Has T cs B w) : B < w.heap.size := (Array.getElem?_eq_some_iff.1 h).1
theorem Has.set {T : TypeId} {cs : Array Value} {B j : Nat} {w : World} (h : Has T cs B w) (v : Value) : Has T (cs.setIfInBounds j v) B (w.setCell ⟨B, j, none⟩ v) := heap_setCell_same w B j cs T v h
theorem Has.other {T : TypeId} {cs : Array Value} {B : Nat} {w : World} (h : Has T cs B w) {a : Addr} (ha : B ≠ a.block) (v : Value) : Has T cs B (w.setCell a v) := (heap_setCell_other w a B v ha).trans h
theorem Has.cell {T : TypeId} {cs : Array Value} {B j : Nat} {w : World} (h : Has T cs B w) {v : Value} (hv : cs[j]? = some v) : w.cell? ⟨B, j, none⟩ = some v := (cell_of_row w B j cs T (0, 0) h).trans hv
theorem Has.frozen {T : TypeId} {cs : Array Value} {B j : Nat} {w : World} (h : Has T cs B w) : w.frozen? ⟨B, j, none⟩ = false := frozen_of_row w B j cs T h
theorem Has.new (T : TypeId) (cs : Array Value) (w : World) : Has T cs w.heap.size (w.alloc (.cells cs T)) := heap_alloc_new w _
theorem Has.alloc {T : TypeId} {cs : Array Value} {B : Nat} {w : World} (h : Has T cs B w) (o : Obj) : Has T cs B (w.alloc o) := (Below.heap_alloc w o B h.lt).trans h
theorem Has.drewN {T : TypeId} {cs : Array Value} {B : Nat} {w : World} (h : Has T cs B w) (n : Nat) : Has T cs B (w.drewN n) := h.below (below_drewN w n)
theorem Has.row {T : TypeId} {cs : Array Value} {B : Nat} {w : World} (h : Has T cs B w) (cs' : Array Value) : Has T cs' B (w.setRow B cs') := setRow_heap w B cs cs' T (0, 0) h
theorem Has.rowOther {T : TypeId} {cs : Array Value} {B g : Nat} {w : World} (h : Has T cs B w) (hg : B ≠ g) (cs' : Array Value) : Has T cs B (w.setRow g cs') := (setRow_other w g B cs' hg).trans h
theorem c16_one (m : Nat → Int) : (c16 m).all (·.oneCell') = true := by simp [c16, Value.oneCell']
theorem sh_four (g : Bool) {i : Nat} (hi : i < 4) : sh g i 4 = 0 ∨ sh g i 4 = 8 ∨ sh g i 4 = 16 ∨ sh g i 4 = 24 := by unfold sh; split <;> omega
theorem sh_fit {y t : Nat} (hy : y < 256) (ht : t = 0 ∨ t = 8 ∨ t = 16 ∨ t = 24) : (y : Int) * 2 ^ t % 4294967296 = (y : Int) * 2 ^ t := by
  rcases ht with rfl | rfl | rfl | rfl
  · rw [Int.pow_zero]; omega
  · rw [show (2 : Int) ^ 8 = 256 by decide]; omega
  · rw [show (2 : Int) ^ 16 = 65536 by decide]; omega
  · rw [show (2 : Int) ^ 24 = 16777216 by decide]; omega
theorem words_any (g : Bool) (s : ByteArray) (q : Nat) (w : World) (hq : 64 * (q + 1) ≤ s.size) (hs : s.size ≤ 200000) : Calls Tryz.prog 81 #[.int .i64 (og g), .string s, .int .i64 q] w fun e w' => e = .returned (.agg (c16 (fun j => wd g s.data.toList (64 * q + 4 * j)))) ∧ Below w.heap.size w w' := by
  have HS := Lib.hid (fun k W (hk : k < 4) => shift_any g k 4 W hk (by omega))
  have hq2 : 64 * ((q : Int) + 1) ≤ s.size := by omega
  have hs2 : (s.size : Int) ≤ 200000 := by omega
  have H0 : Hid (∀ o1, Has 104 (c16 (pm g s.data.toList (64 * q) 0)) (w.heap.size + 1) ((w.alloc o1).alloc (.cells #[.int .u32 0, .int .u32 0, .int .u32 0, .int .u32 0, .int .u32 0, .int .u32 0, .int .u32 0, .int .u32 0, .int .u32 0, .int .u32 0, .int .u32 0, .int .u32 0, .int .u32 0, .int .u32 0, .int .u32 0, .int .u32 0] 104))) := fun o1 => by
    rw [pm_zero]; exact heap_alloc2_new w o1 _
  have H1 : Hid (∀ o2, Has 104 (c16 (pm g s.data.toList (64 * q) 0)) w.heap.size ((w.alloc (.cells #[.int .u32 0, .int .u32 0, .int .u32 0, .int .u32 0, .int .u32 0, .int .u32 0, .int .u32 0, .int .u32 0, .int .u32 0, .int .u32 0, .int .u32 0, .int .u32 0, .int .u32 0, .int .u32 0, .int .u32 0, .int .u32 0] 104)).alloc o2)) := fun o2 => by
    rw [pm_zero]; exact heap_alloc2_old w _ o2
  have HB0 := Lib.hid (fun o1 o2 => ((Below.refl _ w).alloc (Nat.le_refl _) o1).alloc (by simp) o2)
  have HDr := Lib.hid (fun W n => below_drewN W n)
  generalize og g = o at HS
  go_enter Tryz.func81, Tryz.ntmps81
  go_wp2_with fail
  go_loopw [17] (fun i wr => ∃ k : Nat, i = .int .i64 k ∧ k ≤ 64 ∧ Hid (Has 104 (c16 (pm g s.data.toList (64 * q) k)) (w.heap.size + 1) wr) ∧ Hid (Has 104 (c16 (pm g s.data.toList (64 * q) 0)) w.heap.size wr) ∧ Hid (Below w.heap.size w wr)) (fun i _ => 64 - (RowKit.intOf i).toNat)
  case atStart => exact ⟨0, rfl, by omega, H0.out _, H1.out _, HB0.out _ _⟩
  case round =>
    obtain ⟨k, rfl, hk, HM, HR, HB⟩ := hrel
    by_cases hlt : k < 64
    · have HS1 : Hid (∀ W, Calls Tryz.prog 89 #[.int .i64 o, .int .i64 ((k : Int) % 4), .int .i64 4] W fun e w' => e = .returned (.int .i64 (sh g (k % 4) 4 : Nat)) ∧ W = w') := fun W => by
        rw [show (k : Int) % 4 = ((k % 4 : Nat) : Int) by omega]
        exact HS.out _ W (by omega)
      have ht := sh_four g (show k % 4 < 4 by omega)
      have hx : k < (s.extract (q * 64) ((q + 1) * 64)).size := by rw [ByteArray.size_extract]; omega
      have hb : ((s.extract (q * 64) ((q + 1) * 64))[k]'hx).toNat = nb s.data.toList (64 * q + k) := by
        rw [byte_nb, extract_cut, nb_drop, Nat.mul_comm q 64]
        unfold nb
        rw [List.getD_eq_getElem?_getD, List.getElem?_take_of_lt (by omega), ← List.getD_eq_getElem?_getD]
      have hy := nb_lt s.data.toList (64 * q + k)
      have hc0 := HM.out.cell (j := k / 4) (c16_at _ (by omega))
      have HF : Hid (wr.frozen? ⟨w.heap.size + 1, k / 4, none⟩ = false) := HM.out.frozen (j := k / 4)
      rw [pm_at] at hc0
      have HN : Hid (∀ W, Has 104 (c16 (pm g s.data.toList (64 * q) k)) (w.heap.size + 1) W → Has 104 (c16 (pm g s.data.toList (64 * q) (k + 1))) (w.heap.size + 1) (W.setCell ⟨w.heap.size + 1, k / 4, none⟩ (.int .u32 (io (pw g s.data.toList (64 * q + 4 * (k / 4)) (k % 4)) ((nb s.data.toList (64 * q + k) : Int) * 2 ^ sh g (k % 4) 4))))) := fun W h => by
        rw [← pm_next g _ _ hlt]
        exact h.set _
      generalize nb s.data.toList (64 * q + k) = y at hb hy HN
      generalize pw g s.data.toList (64 * q + 4 * (k / 4)) (k % 4) = z at hc0 HN
      generalize sh g (k % 4) 4 = t at HS1 ht HN
      have s32 : t < 32 := by omega
      rw [← sh_fit hy ht] at HN
      clear ht
      have hc : ∀ x : Ext wr, x.to.cell? ⟨w.heap.size + 1, k / 4, none⟩ = _ := fun x => ext_cell x hc0
      have he := extSome wr
      have HC0 := Lib.hid hc0
      clear hq hc0
      go_wp2_with fail
      refine ext_tail 15 (by kernel_rfl) (by kernel_rfl) ?_
      simp only [List.take_succ_cons, List.take_zero, List.drop_succ_cons, List.drop_zero]
      repeat (go_big_quiet_step ((go_at_call 89; with_reducible exact ext_same _ (HS1.out _))))
      refine wpQuiet_nil ?_
      rintro _ ⟨x, hx⟩
      subst hx
      have hc1 := ext_cell x HC0.out
      have hf1 := ext_frozen x HC0.out HF.out
      have HM1 := Lib.hid (HN.out _ (HM.out.below x.below))
      have HR1 := Lib.hid ((HR.out.below x.below).other (a := ⟨w.heap.size + 1, k / 4, none⟩) (by simp) (.int .u32 (io z ((y : Int) * 2 ^ t % 4294967296))))
      have HB1 := Lib.hid ((HB.out.trans (x.below.mono HB.out.size)).setCell (p := ⟨w.heap.size + 1, k / 4, none⟩) (by simp) (.int .u32 (io z ((y : Int) * 2 ^ t % 4294967296))))
      clear hc he
      generalize x.to = w5 at hc1 hf1 HM1 HR1 HB1 ⊢
      go_wp2_with fail
      exact ⟨⟨k + 1, by go_num, by omega, HM1.out, HR1.out, HB1.out⟩, by simp [RowKit.intOf]; omega⟩
    · obtain rfl : k = 64 := by omega
      have hM := HM.out
      rw [pm_end] at hM
      have HM2 := Lib.hid hM
      have HB2 := Lib.hid (below_setRow HB.out (Nat.le_refl _) (c16 (fun j => wd g s.data.toList (64 * q + 4 * j))))
      have HR2 := Lib.hid (HR.out.row (c16 (fun j => wd g s.data.toList (64 * q + 4 * j))))
      clear HM hM
      generalize hm : (fun j => wd g s.data.toList (64 * q + 4 * j)) = m at HM2 HB2 HR2
      have Hm := Lib.hid hm
      clear hm
      go_wp2_with (first | (refine wpList_load_row rfl 104 _ rfl (w.heap.size + 1) rfl 104 _ (0, 0) _ HM2.out Tryz.underlying104 rfl (by kernel_rfl) ?_) | (refine wpList_store_row rfl 104 _ _ rfl w.heap.size _ rfl rfl 104 _ HR.out (by kernel_rfl) rfl (c16_one _) ?_))
      exact bodyPost_ret (results_cell_row Tryz.results81 _ _ w.heap.size 104 _ (0, 0) _ rfl HR2.out Tryz.underlying104 rfl (by kernel_rfl)) rfl ⟨by rw [← Hm.out], HB2.out⟩
end Go.Proofs.YthbeempmdpfnmaaGreatDoor.M
