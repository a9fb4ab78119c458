/- Notes in memory. Conditions: those of each theorem's head. -/
import Derived.Test.YthbeempmdpfnmaaGreatDoorAc
import Derived.Test.YthbeempmdpfnmaaGreatDoorProg
import Derived.Lib.Strings
import Derived.Laws.Strings
import Derived.WalkKit
import Derived.WalkSpells
import Derived.WalkLawsBesides
import Derived.BigQuiet
import Derived.Lib.Hide
import Derived.LoopN
import Derived.Laws.OwnMore
import Derived.Shelf.Strconv.Clone
import Derived.Shelf.Strings.BuilderK
import Derived.Deep.AppendLies
import Derived.Deep.DeepCutAuto
import Derived.OwnWalk
import Derived.Deep.Quiet
import Derived.StillTail
import Derived.Laws.ResultCell
import Derived.Lib.AppendStr
import Derived.Deep.RegionLaw

set_option maxRecDepth 100000
set_option maxHeartbeats 8000000
namespace Go.Proofs.YthbeempmdpfnmaaGreatDoor.T
open Go Go.Lib By
/-! ### Numbers in bytes -/
/-- The last i bytes of x, the greatest first. -/
def dig (x : Nat) : Nat → List UInt8
  | 0 => []
  | i + 1 => u (x / 256 ^ i % 256) :: dig x i
/-! ### What the calls answer -/
def mk (l : List UInt8) : ByteArray := ⟨l.toArray⟩
theorem mk_self (s : ByteArray) : mk s.data.toList = s := rfl
/-- A value with its type. -/
structure Tv where
  k : Int
  v : ByteArray
def Tv.cells (t : Tv) : List Value := [.int .i64 t.k, .string t.v]
def Tv.put (t : Tv) : List UInt8 := dig t.k.toNat 2 ++ (dig t.v.size 2 ++ t.v.data.toList)
end Go.Proofs.YthbeempmdpfnmaaGreatDoor.T

namespace Go.Proofs.YthbeempmdpfnmaaGreatDoor.T
open Go.RowKit Go.Lib
theorem more {w a b : World} (h : Below w.heap.size w a) (hn : w.heap.size ≤ a.heap.size) (k : Below a.heap.size a b) : Below w.heap.size w b := h.trans (k.mono hn)
/-- What leaves no trace. -/
def Pure (v : Value) (w : World) (e : Ending) (w' : World) : Prop := e = .returned v ∧ w' = w
/-- What makes memory of its own at most. -/
def Gives (v : Value) (w : World) (e : Ending) (w' : World) : Prop := e = .returned v ∧ Below w.heap.size w w'
def byteV (l : List UInt8) : List Value := l.map fun b => .int .u8 (b.toNat : Int)
end Go.Proofs.YthbeempmdpfnmaaGreatDoor.T
namespace Go.Proofs.YthbeempmdpfnmaaGreatDoor.T
open Go.RowKit Go.Lib
end Go.Proofs.YthbeempmdpfnmaaGreatDoor.T

namespace Go.Proofs.YthbeempmdpfnmaaGreatDoor.T
open Go.RowKit Go.Lib
end Go.Proofs.YthbeempmdpfnmaaGreatDoor.T
namespace Go.Proofs.YthbeempmdpfnmaaGreatDoor.T
open Go.RowKit Go.Lib Go.Shelf
theorem heap_lt {w : World} {b : Nat} {o : Obj} (h : w.heap[b]? = some o) : b < w.heap.size := (Array.getElem?_eq_some_iff.1 h).1
theorem box_new (w : World) (cs : Array Value) (t : TypeId) : (w.alloc (.cells cs t)).heap[w.heap.size]? = some (.cells cs t (0, 0)) := heap_alloc_new w _
end Go.Proofs.YthbeempmdpfnmaaGreatDoor.T

namespace Go.Proofs.YthbeempmdpfnmaaGreatDoor.T
open Go.RowKit Go.Lib Go.Shelf
/-- Block b, the call's own (from B on), is a builder that holds these bytes. -/
def Bd (B b : Nat) (l : List UInt8) (w : World) : Prop := Lib.IsBuilder 120 5 B b (Lib.byteCells l) w
theorem At.below {T e : TypeId} {B b : Nat} {p : Value} {bs : List Value} {w w' : World} (h : Lib.BuilderAt T e B b p bs w) (hb : Below w.heap.size w w') : Lib.BuilderAt T e B b p bs w' := by
  have hlt := Lib.BuilderAt.lt h
  obtain ⟨hB, v, hbk, hown, hne⟩ := h
  refine ⟨hB, v, (hb.block b hlt).trans hbk, ?_, hne⟩
  have hg : w.grownBy w' none := ⟨hb.os, hb.tape, hb.output, hb.size, fun k hk _ => hb.block k hk⟩
  refine hown.kept hg ?_
  cases hv : v.ownBlock with
  | none => exact .inl rfl
  | some k => exact .inr (by simp)
/-- What leaves the old blocks leaves a builder. -/
theorem Bd.below {B b : Nat} {l : List UInt8} {w w' : World} (h : Bd B b l w) (hb : Below w.heap.size w w') : Bd B b l w' :=
  h.elim (fun x => .inl (At.below x hb)) (fun x => .inr (At.below x hb))
theorem Bd.lt {B b : Nat} {l : List UInt8} {w : World} (h : Bd B b l w) : b < w.heap.size := h.elim Lib.BuilderAt.lt Lib.BuilderAt.lt
end Go.Proofs.YthbeempmdpfnmaaGreatDoor.T
namespace Go.Proofs.YthbeempmdpfnmaaGreatDoor.T
open Go.RowKit Go.Lib Go.Shelf
/-- Behind an address the values l. -/
def TvS (w : World) (a : Option Addr) (l : List Tv) : Prop :=
  ∀ i (h : i < l.length), ∃ b o, a = some ⟨b, o, none⟩ ∧ w.cell? ⟨b, o + i * 2, none⟩ = some (.int .i64 l[i].k) ∧ w.cell? ⟨b, o + i * 2 + 1, none⟩ = some (.string l[i].v)
theorem TvS.below {w w' : World} {a : Option Addr} {l : List Tv} (h : TvS w a l) (hb : Below w.heap.size w w') : TvS w' a l := fun i hi => by
  obtain ⟨b, o, e, c0, c1⟩ := h i hi
  exact ⟨b, o, e, (hb.cell (p := ⟨b, _, none⟩) (World.block_lt_of_cell? _ _ c0)).trans c0, (hb.cell (p := ⟨b, _, none⟩) (World.block_lt_of_cell? _ _ c1)).trans c1⟩
theorem TvS.nil (w : World) (a : Option Addr) : TvS w a [] := fun i h => by cases h
end Go.Proofs.YthbeempmdpfnmaaGreatDoor.T
namespace Go.Proofs.YthbeempmdpfnmaaGreatDoor.T
open Go.RowKit Go.Lib Go.Shelf
end Go.Proofs.YthbeempmdpfnmaaGreatDoor.T

namespace Go.Proofs.YthbeempmdpfnmaaGreatDoor.T
open Go.RowKit Go.Lib Go.Shelf
theorem own_keep {w w' : World} {N n s : Nat} {T : TypeId} {v : Value} {xs : List Value} (h : w.ownsRow N T s v n xs) (hk : ∀ b, v.ownBlock = some b → w'.heap[b]? = w.heap[b]?) : w'.ownsRow N T s v n xs := by
  refine ⟨h.1, ?_⟩
  rcases h.2 with h3 | ⟨g, cap, cur, rfl, q1, q2, q3⟩
  · exact .inl h3
  · exact .inr ⟨g, cap, cur, rfl, q1, (hk g rfl).trans q2, q3⟩
theorem own_heap {w : World} {N n s : Nat} {T : TypeId} {v : Value} {xs : List Value} (h : w.ownsRow N T s v n xs) {b : Nat} (hb : v.ownBlock = some b) : N ≤ b ∧ ∃ cur, w.heap[b]? = some (.cells cur T (0, 0)) := by
  rcases h.2 with ⟨rfl, _⟩ | ⟨g, cap, cur, rfl, q1, q2, q3⟩
  · cases hb
  · cases hb
    exact ⟨q1, cur, q2⟩
theorem own_below {w w' : World} {N n s : Nat} {T : TypeId} {v : Value} {xs : List Value} (h : w.ownsRow N T s v n xs) (hb : Below w.heap.size w w') : w'.ownsRow N T s v n xs :=
  own_keep h fun b e => by
    obtain ⟨_, cur, hc⟩ := own_heap h e
    exact hb.block _ (heap_lt hc)
end Go.Proofs.YthbeempmdpfnmaaGreatDoor.T
namespace Go.Proofs.YthbeempmdpfnmaaGreatDoor.T
open Go.RowKit Go.Lib Go.Shelf By
end Go.Proofs.YthbeempmdpfnmaaGreatDoor.T

namespace Go.Proofs.YthbeempmdpfnmaaGreatDoor.T.Q
open Go Go.Lib By
structure Sn where
  f : Int
  s : Int
  g : Int
  r : Int
  b : ByteArray
def Sn.cells (t : Sn) : List Value := [.int .i64 t.f, .int .i64 t.s, .int .i64 t.g, .int .i64 t.r, .string t.b]
end Go.Proofs.YthbeempmdpfnmaaGreatDoor.T.Q

namespace Go.Proofs.YthbeempmdpfnmaaGreatDoor.T.Q
open Go.RowKit Go.Lib
theorem heap_lt {w : World} {b : Nat} {o : Obj} (h : w.heap[b]? = some o) : b < w.heap.size := (Array.getElem?_eq_some_iff.1 h).1
theorem box_new (w : World) (cs : Array Value) (t : TypeId) : (w.alloc (.cells cs t)).heap[w.heap.size]? = some (.cells cs t (0, 0)) := heap_alloc_new w _
end Go.Proofs.YthbeempmdpfnmaaGreatDoor.T.Q
namespace Go.Proofs.YthbeempmdpfnmaaGreatDoor.T.Q
open Go.RowKit Go.Lib
end Go.Proofs.YthbeempmdpfnmaaGreatDoor.T.Q
namespace Go.Proofs.YthbeempmdpfnmaaGreatDoor.T.Q
open Go.RowKit Go.Lib
section
variable {w : World} {b : Nat} {v0 v1 v2 v3 : Value} {t : TypeId}
end
end Go.Proofs.YthbeempmdpfnmaaGreatDoor.T.Q

namespace Go.Proofs.YthbeempmdpfnmaaGreatDoor.T
section
open Go.RowKit Go.Lib
/-- The worlds in which all that lay in w stands as it stood. -/
def Ext (w : World) : Type := { w' : World // Below w.heap.size w w' }
def Ext.to {w : World} (x : Ext w) : World := x.1
theorem Ext.below {w : World} (x : Ext w) : Below w.heap.size w x.to := x.2
instance extSome (w : World) : Nonempty (Ext w) := ⟨⟨w, Below.refl _ _⟩⟩
theorem ext_region {P : Program} {id : Nat} {Q : Exit → Act → World → Prop} {a : Act} {w : World} {l : List Oper} (hm : P.follows .mixedOrders = true) (hB : Region.lexB .any l.toArray = true)
    (h : wpQuiet P l.toArray (fun w' => ∃ x : Ext w, w' = x.to) (fun a' => ∀ w', (∃ x : Ext w, w' = x.to) → Q .normal a' w') l a) : (Code.region id l.toArray true).wp P Q a w :=
  wp_region_quiet (C := fun w' => ∃ x : Ext w, w' = x.to) hm hB ⟨⟨w.drew, (Below.refl _ _).drew⟩, rfl⟩ (by simpa using h)
theorem ext_call {P : Program} {f : FuncId} {args : Array Value} {w : World} (x : Ext w) {v : Value} (h : Calls P f args x.to fun e w' => e = .returned v ∧ Below x.to.heap.size x.to w') :
    Calls P f args x.to fun e w'' => e = .returned v ∧ ∃ y : Ext w, w'' = y.to :=
  h.mono fun _ w'' ⟨he, hb⟩ => ⟨he, ⟨w'', x.below.trans (hb.mono x.below.size)⟩, rfl⟩
theorem ext_cell {w : World} (x : Ext w) {p : Addr} {v : Value} (h : w.cell? p = some v) : x.to.cell? p = some v := by
  have hlt := World.block_lt_of_cell? _ _ h
  rw [← h]
  exact x.below.cell hlt
end
section
open Go
section
variable {P : Program} {ops : Array Oper} {md : Region.Mode} {C : World → Prop}
/-- The first n operations, in whatever order; behind them T. -/
def wpHead (P : Program) (md : Region.Mode) (ops : Array Oper) (C : World → Prop) (n : Nat) (T : Array Bool → Act → Prop) : Nat → Array Bool → Act → Prop
  | 0, listed, a => T listed a
  | f + 1, listed, a => Region.ready md ops listed ≠ [] ∧ ∀ i ∈ Region.ready md ops listed, i < n ∧ qOp P ops C i (wpHead P md ops C n T f (listed.setIfInBounds i true)) a
theorem wpAny_head {n g : Nat} {T : Array Bool → Act → Prop} {Q' : Exit → Act → World → Prop} (hT : ∀ listed a w, C w → T listed a → wpAny P md ops Q' g listed a w) :
    ∀ (f : Nat) (listed : Array Bool) (a : Act) (w : World), C w → wpHead P md ops C n T f listed a → wpAny P md ops Q' (f + g) listed a w := by
  intro f
  induction f with
  | zero => intro listed a w hw h; rw [Nat.zero_add]; exact hT _ _ _ hw h
  | succ f ih =>
    intro listed a w hw h
    rw [show f + 1 + g = (f + g) + 1 by omega]
    exact ⟨fun e => absurd e h.1, fun i hi => wpOp_of_qOp hw (fun a' w' hw' h' => ih _ a' w' hw' h') (h.2 i hi).2⟩
/-- Which of the first n comes first makes no difference. -/
theorem wpHead_first {n i : Nat} {oi : Oper} {v : Value} {T : Array Bool → Act → Prop} (hi : ops[i]? = some oi) (hsel : ∀ (j : Nat) (o : Oper) cs b, ops[j]? = some o → o.op ≠ .select cs b)
    (hs : Region.sinkB md ops n = true) (hc : Region.chainB md ops n = true) (hn : n < ops.size) (hin : i < n)
    (hT : ∀ listed a, T listed a → ∀ j ∈ Region.ready md ops listed, n ≤ j) : ∀ (f : Nat) (listed : Array Bool) (a : Act), HeadInv md ops n listed →
      (∀ j oj, ops[j]? = some oj → j ≠ i → listed.getD j true = false → (∀ e ∈ oj.after, Region.binds md e = true → e.on ≠ i) → oi.apart ops oj = true) →
      i ∈ Region.ready md ops listed → YieldsIn P ops C oi v a → wpHead P md ops C n T f (listed.setIfInBounds i true) (a.put oi.dst v) → wpHead P md ops C n T (f + 1) listed a := by
  intro f
  induction f with
  | zero =>
    intro listed a inv _ hr hy H
    refine ⟨List.ne_nil_of_mem hr, fun j hj => ?_⟩
    have hjn : j < n := Nat.lt_of_not_le fun h => tail_waits hs hc hn inv _ i rfl hin (mem_ready.1 hr).1 j h hj
    refine ⟨hjn, ?_⟩
    by_cases e : j = i
    · subst e
      exact hy.qOp hi H
    · have := hT _ _ H j (ready_mono hj e)
      omega
  | succ f ih =>
    intro listed a inv hap hr hy H
    refine ⟨List.ne_nil_of_mem hr, fun j hj => ?_⟩
    have hjn : j < n := Nat.lt_of_not_le fun h => tail_waits hs hc hn inv _ i rfl hin (mem_ready.1 hr).1 j h hj
    refine ⟨hjn, ?_⟩
    by_cases e : j = i
    · subst e
      exact hy.qOp hi H
    · obtain ⟨hju, oj, hoj, hwait⟩ := mem_ready.1 hj
      have hno : ∀ x ∈ oj.after, Region.binds md x = true → x.on ≠ i := by
        intro x hx hb hon
        have h1 := hwait x hx hb
        rw [hon, getD_both (mem_ready.1 hr).1] at h1
        cases h1
      refine qOp_mono (fun a' h3 => ih (listed.setIfInBounds j true) a' (inv.set hj hjn) (fun k ok hk hki hun hnk => ?_) (ready_mono hr (Ne.symm e)) h3.1 ?_)
        (qOp_put hoj (hap j oj hoj e hju hno) (fun cs b => hsel i oi cs b hi) (fun cs b => hsel j oj cs b hoj) hy (H.2 j (ready_mono hj e)).2)
      · refine hap k ok hk hki ?_ hnk
        by_cases ejk : j = k
        · subst ejk; exact hju
        · rwa [getD_set_ne true ejk] at hun
      · have h4 := h3.2
        rwa [Array.setIfInBounds_comm _ _ (Ne.symm e)] at h4
theorem wpHead_lex {n g : Nat} {T : Act → Prop} (hsel : Region.noSelect ops = true) (hs : Region.sinkB md ops n = true) (hc : Region.chainB md ops n = true) (hn : n < ops.size) :
    ∀ (l : List Oper) (k : Nat) (listed : Array Bool) (a : Act), (∀ j, j < l.length → l[j]? = ops[k + j]?) → k + l.length = n → HeadInv md ops n listed →
    Region.lexHead md ops g l.length k listed = true → wpQuiet P ops C T l a → wpHead P md ops C n (fun listed' a' => Region.seqB md ops g n listed' = true ∧ T a') l.length listed a := by
  intro l
  induction l with
  | nil =>
    intro k listed a _ hk _ hB h
    obtain rfl : k = n := by simpa using hk
    exact ⟨by simpa [Region.lexHead] using hB, h⟩
  | cons o l ih =>
    intro k listed a hl hk inv hB h
    have h0 : ops[k]? = some o := by simpa using (hl 0 (by simp)).symm
    simp only [List.length_cons, Region.lexHead, Bool.and_eq_true] at hB
    simp only [List.length_cons] at hk
    have hkn : k < n := by omega
    have hr : k ∈ Region.ready md ops listed := by simpa using hB.1.1
    obtain ⟨v, hy, hK⟩ := yieldsIn_of_qOp (C := C) (P := P) h0 (show qOp P ops C k (wpQuiet P ops C T l) a by unfold qOp; simp only [h0]; exact h)
    exact wpHead_first h0 (Region.noSelect_spec hsel) hs hc hn hkn (fun listed' a' hL => seqB_ready hL.1) l.length listed a inv (Region.free_spec h0 hB.1.2) hr hy
      (ih (k + 1) _ _ (fun j hj => by have := hl (j + 1) (by simp; omega); simpa [Nat.add_assoc, Nat.add_comm 1 j] using this) (by omega) (inv.set hr hkn) hB.2 hK)
end
/-- A region that draws: n operations that are quiet in a class of worlds, then the rest in its order. -/
theorem wp_region_tail {P : Program} {C : World → Prop} {id : Nat} {Q : Exit → Act → World → Prop} {a : Act} {w : World} {l : List Oper} (n : Nat) (hm : P.follows .mixedOrders = true) (hB : Region.lexTailB .any l.toArray n = true)
    (hC : C w.drew) (h : wpQuiet P l.toArray C (fun a' => ∀ w', C w' → wpList P l.toArray Q (l.drop n) a' w') (l.take n) a) : (Code.region id l.toArray true).wp P Q a w := by
  simp only [Region.lexTailB, Bool.and_eq_true, decide_eq_true_eq] at hB
  obtain ⟨⟨⟨⟨hsel, hn⟩, hs⟩, hc⟩, hlex⟩ := hB
  have hn' : n < l.length := by simpa using hn
  have htl : (l.take n).length = n := by simp; omega
  have hdl : (l.drop n).length = l.toArray.size - n := by simp
  have inv0 : HeadInv .any l.toArray n (Array.replicate l.toArray.size false) :=
    ⟨by simp, fun j oj _ hl => (by rw [getD_replicate_false] at hl; cases hl), fun t _ ht => getD_in (by simpa using ht) (getD_replicate_false _ _)⟩
  have H := wpHead_lex (P := P) (C := C) (md := .any) (g := l.toArray.size - n) hsel hs hc hn (l.take n) 0 _ a (fun j hj => by
    have hj' : j < n := by rw [htl] at hj; exact hj
    simp [hj']) (by simpa using htl) inv0 (by rw [htl]; exact hlex) h
  refine wp_region_any hm ?_
  have := wpAny_head (Q' := Q) (g := l.toArray.size - n) (fun listed a' w' hw' hL => by
    have := wpAny_of_seq (md := .any) (Q' := Q) (l.drop n) n listed a' w' (fun j => by simp [List.getElem?_drop]) (by rw [hdl]; exact hL.1) (hL.2 w' hw')
    rwa [hdl] at this) _ _ _ w.drew hC H
  rw [htl, show n + (l.toArray.size - n) = l.toArray.size by omega] at this
  exact this
theorem ext_tail {P : Program} {id : Nat} {Q : Exit → Act → World → Prop} {a : Act} {w : World} {l : List Oper} (n : Nat) (hm : P.follows .mixedOrders = true) (hB : Region.lexTailB .any l.toArray n = true)
    (h : wpQuiet P l.toArray (fun w' => ∃ x : Ext w, w' = x.to) (fun a' => ∀ w', (∃ x : Ext w, w' = x.to) → wpList P l.toArray Q (l.drop n) a' w') (l.take n) a) : (Code.region id l.toArray true).wp P Q a w :=
  wp_region_tail (C := fun w' => ∃ x : Ext w, w' = x.to) n hm hB ⟨⟨w.drew, (RowKit.Below.refl _ _).drew⟩, rfl⟩ h
end
end Go.Proofs.YthbeempmdpfnmaaGreatDoor.T

namespace Go.Proofs.YthbeempmdpfnmaaGreatDoor.T
open Go Go.Lib By
/-! ### A note -/
structure It where
  n : ByteArray
  g : Int
  i : Int
  t : Int
  a : ByteArray
  w : Bool
structure Nt where
  k : Int
  n : ByteArray
  x : ByteArray
  d : ByteArray
  c : Int
  s : Int
  e : Int
  t : Int
  o : Bool
  l : List It
  z : List Int
def It.cells (x : It) : List Value := [.string x.n, .int .i64 x.g, .int .i64 x.i, .int .i64 x.t, .string x.a, .bool x.w]
def zN : Nt := ⟨0, ⟨#[]⟩, ⟨#[]⟩, ⟨#[]⟩, 0, 0, 0, 0, false, [], []⟩
def nK (k : Int) : Nt := ⟨k, ⟨#[]⟩, ⟨#[]⟩, ⟨#[]⟩, 0, 0, 0, 0, false, [], []⟩
/-- A name that may be. -/
def isN (s : ByteArray) : Bool := Hd.nm s.data.toList
/-- A text. -/
noncomputable def isT (s : ByteArray) : Bool := @decide (∃ cs, Sg.IsT s.data.toList cs) (Classical.propDecidable _)
theorem isT_iff {s : ByteArray} : isT s = true ↔ ∃ cs, Sg.IsT s.data.toList cs := by unfold isT; exact @decide_eq_true_iff _ (Classical.propDecidable _)
theorem isT_not {s : ByteArray} : isT s = false ↔ ∀ cs, ¬ Sg.IsT s.data.toList cs := by
  rw [← Bool.not_eq_true, isT_iff]
  exact ⟨fun h cs k => h ⟨cs, k⟩, fun h ⟨cs, k⟩ => h cs k⟩
/-! ### Whether it may be -/
structure Bn where
  nm : Bool
  tx : Int
  fd : Int
  d : Int
  c : Int
  s : Int
  e : Int
  t : Int
  o : Bool
  fi : Int
  i : Int
  fz : Int
  z : Int
def Bn.cells (b : Bn) : List Value := [.bool b.nm, .int .i64 b.tx, .int .i64 b.fd, .int .i64 b.d, .int .i64 b.c, .int .i64 b.s, .int .i64 b.e, .int .i64 b.t, .bool b.o, .int .i64 b.fi, .int .i64 b.i, .int .i64 b.fz, .int .i64 b.z]
def zB : Bn := ⟨false, 0, 0, 0, 0, 0, 0, 0, false, 0, 0, 0, 0⟩
/-- How much the fields of a kind may be. -/
def bndN : Nat → Bn
  | 2 => ⟨false, 0, 1, 256, 0, 0, 0, 0, false, 0, 0, 0, 0⟩
  | 3 => ⟨false, 0, 0, 0, 65535, 0, 0, 0, false, 0, 0, 0, 0⟩
  | 5 => ⟨true, 0, 0, 0, 0, 0, 0, 0, false, 0, 0, 0, 0⟩
  | 6 => ⟨false, 0, 1, 64, 0, 0, 0, 0, false, 0, 0, 0, 0⟩
  | 7 => ⟨true, 0, 16, 16, 0, 0, 0, 0, false, 0, 0, 0, 0⟩
  | 8 => ⟨true, 0, 0, 256, 65535, 0, 0, 0, false, 0, 0, 0, 0⟩
  | 11 => ⟨false, 0, 0, 0, 0, 65535, 0, 0, false, 0, 0, 0, 0⟩
  | 12 => ⟨false, 0, 0, 0, 0, 0, 4294967295, 0, false, 0, 0, 0, 0⟩
  | 13 => ⟨true, 0, 0, 0, 0, 65535, 65535, 0, false, 0, 0, 0, 0⟩
  | 14 => ⟨true, 0, 0, 0, 0, 0, 0, 0, false, 0, 0, 0, 0⟩
  | 15 => ⟨true, 2000, 8, 8, 0, 0, 0, 0, false, 0, 0, 0, 0⟩
  | 16 => ⟨true, 2000, 8, 8, 0, 0, 0, 0, false, 0, 0, 0, 0⟩
  | 17 => ⟨false, 0, 0, 0, 65535, 0, 0, 4294967295, false, 0, 0, 0, 0⟩
  | 18 => ⟨false, 0, 0, 0, 0, 0, 0, 4294967295, false, 0, 100, 0, 0⟩
  | 19 => ⟨false, 0, 0, 0, 65535, 0, 0, 4294967295, false, 0, 0, 0, 0⟩
  | 20 => ⟨false, 0, 0, 0, 0, 0, 0, 0, false, 1, 100, 0, 0⟩
  | 21 => ⟨false, 0, 0, 0, 0, 0, 0, 0, false, 1, 100, 0, 0⟩
  | 22 => ⟨false, 0, 0, 0, 0, 0, 0, 0, false, 1, 100, 0, 0⟩
  | 25 => ⟨false, 0, 0, 0, 0, 0, 0, 0, false, 0, 0, 1, 100⟩
  | 26 => ⟨true, 2000, 0, 0, 0, 0, 0, 0, false, 0, 0, 0, 0⟩
  | 27 => ⟨true, 2000, 0, 0, 0, 0, 0, 0, false, 0, 0, 0, 0⟩
  | 28 => ⟨true, 2000, 0, 0, 0, 0, 0, 0, true, 0, 0, 0, 0⟩
  | 29 => ⟨true, 2000, 0, 0, 0, 0, 0, 0, true, 0, 0, 0, 0⟩
  | _ => zB
def isK (k : Int) : Bool := decide (1 ≤ k) && decide (k ≤ 29)
def bnd (k : Int) : Bn := if isK k = true then bndN k.toNat else zB
def inB (x lo hi : Int) : Bool := decide (lo ≤ x) && decide (x ≤ hi)
def nmB (s : ByteArray) (b : Bool) : Bool := if b = true then isN s else decide (s.size = 0)
noncomputable def txB (s : ByteArray) (m : Int) : Bool := decide ((s.size : Int) ≤ m) && isT s
noncomputable def itB (x : It) : Bool :=
  inB x.g 0 65535 && inB x.i 0 65535 && (if x.t = 0 then isN x.n && txB x.a 64 else if x.t = 1 then txB x.n 64 && decide (x.a.size = 0) && !x.w else false)
noncomputable def hold (b : Bn) (n : Nt) : Bool :=
  nmB n.n b.nm && txB n.x b.tx && inB n.d.size b.fd b.d && inB n.c 0 b.c && inB n.s 0 b.s && inB n.e 0 b.e && inB n.t 0 b.t && (b.o || !n.o) && inB n.l.length b.fi b.i && n.l.all itB && inB n.z.length b.fz b.z && n.z.all (fun c => inB c 0 65535)
def letB (n : Nt) : Bool := xor (decide (n.d.size ≠ 0)) (decide (n.c ≠ 0))
noncomputable def may (n : Nt) : Bool := isK n.k && hold (bnd n.k) n && (!decide (n.k = 8) || letB n)
/-! ### Where it goes -/
def plcN : Nat → Nat × Nat × Nat
  | 1 => (1, 0, 0)
  | 2 => (1, 0, 0)
  | 3 => (4, 0, 0)
  | 4 => (5, 0, 0)
  | 5 => (2, 23, 6)
  | 6 => (2, 23, 7)
  | 7 => (2, 23, 2)
  | 8 => (2, 23, 3)
  | 9 => (2, 1, 3)
  | 10 => (2, 1, 2)
  | 11 => (2, 1, 30)
  | 12 => (2, 1, 17)
  | 13 => (2, 3, 11)
  | 14 => (2, 3, 12)
  | 15 => (2, 4, 6)
  | 16 => (2, 4, 7)
  | 17 => (2, 19, 5)
  | 18 => (2, 19, 6)
  | 19 => (2, 19, 15)
  | 20 => (2, 19, 8)
  | 21 => (2, 19, 9)
  | 22 => (2, 19, 10)
  | 23 => (2, 19, 17)
  | 24 => (2, 19, 18)
  | 25 => (2, 19, 14)
  | 26 => (2, 19, 24)
  | 27 => (2, 19, 25)
  | 28 => (2, 19, 26)
  | 29 => (2, 19, 27)
  | _ => (0, 0, 0)
/-! ### Its bytes -/
/-! ### How bytes are read -/
end Go.Proofs.YthbeempmdpfnmaaGreatDoor.T

namespace Go.Proofs.YthbeempmdpfnmaaGreatDoor.T
open Go.RowKit Go.Lib
theorem setCell_other {W : World} {P i b : Nat} {u : Value} (h : b ≠ P) : (W.setCell ⟨P, i, none⟩ u).heap[b]? = W.heap[b]? := Below.heap_setCell _ _ _ _ h
theorem setI {W : World} {P : Nat} {cs : Array Value} {t : TypeId} (h : W.heap[P]? = some (.cells cs t (0, 0))) (i : Nat) (u : Value) : (W.setCell ⟨P, i, none⟩ u).heap[P]? = some (.cells (cs.setIfInBounds i u) t (0, 0)) := by
  simp [World.setCell, Array.getElem?_modify, h]
/-- What may change while the writer at R works. -/
structure Ch (N R : Nat) (w w' : World) : Prop where
  os : w'.os = w.os
  tape : w'.tape = w.tape
  output : w'.output = w.output
  size : w.heap.size ≤ w'.heap.size
  block : ∀ b, b < w.heap.size → w'.heap[b]? = w.heap[b]? ∨ (N ≤ b ∧ (b = R ∨ ∃ cur, w.heap[b]? = some (.cells cur 5 (0, 0))))
theorem Ch.refl (N R : Nat) (w : World) : Ch N R w w := ⟨rfl, rfl, rfl, Nat.le_refl _, fun _ _ => .inl rfl⟩
theorem Ch.trans {N R : Nat} {a b c : World} (h : Ch N R a b) (k : Ch N R b c) : Ch N R a c :=
  ⟨k.os.trans h.os, k.tape.trans h.tape, k.output.trans h.output, Nat.le_trans h.size k.size, fun i hi => by
    rcases h.block i hi with h1 | h1
    · rcases k.block i (Nat.lt_of_lt_of_le hi h.size) with k1 | ⟨k0, k1⟩
      · exact .inl (k1.trans h1)
      · exact .inr ⟨k0, by rw [h1] at k1; exact k1⟩
    · exact .inr h1⟩
theorem Ch.below {N R : Nat} {a w w' : World} (h : Ch N R a w) (hb : Below w.heap.size w w') : Ch N R a w' :=
  h.trans ⟨hb.os, hb.tape, hb.output, hb.size, fun b hb2 => .inl (hb.block b hb2)⟩
theorem Ch.alloc {N R : Nat} {a w : World} (h : Ch N R a w) (o : Obj) : Ch N R a (w.alloc o) := h.below ((Below.refl _ w).alloc (Nat.le_refl _) o)
theorem Ch.drew {N R : Nat} {a w : World} (h : Ch N R a w) : Ch N R a w.drew := ⟨h.os, h.tape, h.output, h.size, h.block⟩
theorem Ch.set {N R : Nat} {a w : World} (h : Ch N R a w) (hN : N ≤ R) (i : Nat) (u : Value) : Ch N R a (w.setCell ⟨R, i, none⟩ u) := by
  have k := (Below.refl R w).setCell (p := ⟨R, i, none⟩) (Nat.le_refl _) u
  refine h.trans ⟨k.os, k.tape, k.output, k.size, fun b _ => ?_⟩
  by_cases e : b = R
  · exact .inr ⟨by omega, .inl e⟩
  · exact .inl (setCell_other e)
/-- At P is a box whose first cell is a row of bytes of its own, and whose others are r; N: all that is its own is made no earlier. -/
structure Wr (N P : Nat) (T : TypeId) (r : List Value) (w : World) (l : List UInt8) : Prop where
  le : N ≤ P
  own : ∃ v, w.heap[P]? = some (.cells (v :: r).toArray T (0, 0)) ∧ w.ownsRow N 5 1 v l.length (byteV l)
section
variable {N P : Nat} {T : TypeId} {r : List Value} {w w' : World} {l : List UInt8}
theorem Wr.lt (h : Wr N P T r w l) : P < w.heap.size := by
  obtain ⟨v, h1, _⟩ := h.own
  exact heap_lt h1
theorem Wr.below (h : Wr N P T r w l) (hb : Below w.heap.size w w') : Wr N P T r w' l := by
  obtain ⟨v, h1, h2⟩ := h.own
  exact ⟨h.le, v, (hb.block _ (heap_lt h1)).trans h1, own_below h2 hb⟩
theorem Wr.drew (h : Wr N P T r w l) : Wr N P T r w.drew l := h.below (Below.refl _ _).drew
/-- A block that is no row of bytes, and not the writer's own, stays. -/
theorem Ch.keep (h : Ch N P w w') {b : Nat} {cs : Array Value} {t : TypeId} {f : Nat × Nat} (hb : w.heap[b]? = some (.cells cs t f)) (ht : t ≠ 5) (hP : b ≠ P) : w'.heap[b]? = some (.cells cs t f) := by
  rcases h.block b (heap_lt hb) with h1 | ⟨_, h1 | ⟨c, h1⟩⟩
  · exact h1.trans hb
  · exact absurd h1 hP
  · rw [h1] at hb
    injection hb with hb
    injection hb with _ hb _
    exact absurd hb.symm ht
end
end Go.Proofs.YthbeempmdpfnmaaGreatDoor.T

namespace Go.Proofs.YthbeempmdpfnmaaGreatDoor.T
open Go.RowKit Go.Lib
section
variable {N P : Nat} {w w' : World} {l : List UInt8} {k c s e t : Int} {a x d : ByteArray} {o : Bool} {vi vz : Value}
/-- Behind an address the items l; the numbers l. -/
def ItS (w : World) (a : Option Addr) (l : List It) : Prop :=
  ∀ i (h : i < l.length), ∃ b o, a = some ⟨b, o, none⟩ ∧ w.cell? ⟨b, o + i * 6, none⟩ = some (.string l[i].n) ∧ w.cell? ⟨b, o + i * 6 + 1, none⟩ = some (.int .i64 l[i].g) ∧ w.cell? ⟨b, o + i * 6 + 2, none⟩ = some (.int .i64 l[i].i) ∧ w.cell? ⟨b, o + i * 6 + 3, none⟩ = some (.int .i64 l[i].t) ∧ w.cell? ⟨b, o + i * 6 + 4, none⟩ = some (.string l[i].a) ∧ w.cell? ⟨b, o + i * 6 + 5, none⟩ = some (.bool l[i].w)
def CdS (w : World) (a : Option Addr) (l : List Int) : Prop := ∀ i (h : i < l.length), ∃ b o, a = some ⟨b, o, none⟩ ∧ w.cell? ⟨b, o + i, none⟩ = some (.int .i64 l[i])
theorem keep_cell {N : Nat} {w w' : World} (hb : Below N w w') {b o : Nat} {v : Value} (h : w.cell? ⟨b, o, none⟩ = some v) (hN : b < N) : w'.cell? ⟨b, o, none⟩ = some v := (hb.cell (p := ⟨b, o, none⟩) hN).trans h
theorem ItS.below {w w' : World} {a : Option Addr} {l : List It} (h : ItS w a l) (hb : Below w.heap.size w w') : ItS w' a l := fun i hi => by
  obtain ⟨b, o, e, c0, c1, c2, c3, c4, c5⟩ := h i hi
  have hlt := World.block_lt_of_cell? _ _ c0
  exact ⟨b, o, e, keep_cell hb c0 hlt, keep_cell hb c1 hlt, keep_cell hb c2 hlt, keep_cell hb c3 hlt, keep_cell hb c4 hlt, keep_cell hb c5 hlt⟩
theorem CdS.below {w w' : World} {a : Option Addr} {l : List Int} (h : CdS w a l) (hb : Below w.heap.size w w') : CdS w' a l := fun i hi => by
  obtain ⟨b, o, e, c0⟩ := h i hi
  exact ⟨b, o, e, keep_cell hb c0 (World.block_lt_of_cell? _ _ c0)⟩
theorem bx11 {w : World} {b : Nat} {v0 v1 v2 v3 v4 v5 v6 v7 v8 v9 v10 : Value} {t : TypeId} (h : w.heap[b]? = some (.cells #[v0, v1, v2, v3, v4, v5, v6, v7, v8, v9, v10] t (0, 0))) :
    w.cell? ⟨b, 0, none⟩ = some v0 ∧ w.cell? ⟨b, 1, none⟩ = some v1 ∧ w.cell? ⟨b, 2, none⟩ = some v2 ∧ w.cell? ⟨b, 3, none⟩ = some v3 ∧ w.cell? ⟨b, 4, none⟩ = some v4 ∧ w.cell? ⟨b, 5, none⟩ = some v5 ∧ w.cell? ⟨b, 6, none⟩ = some v6 ∧ w.cell? ⟨b, 7, none⟩ = some v7 ∧ w.cell? ⟨b, 8, none⟩ = some v8 ∧ w.cell? ⟨b, 9, none⟩ = some v9 ∧ w.cell? ⟨b, 10, none⟩ = some v10 := by
  refine ⟨?_, ?_, ?_, ?_, ?_, ?_, ?_, ?_, ?_, ?_, ?_⟩ <;> (rw [Lib.cell_of_heap h]; rfl)
end
end Go.Proofs.YthbeempmdpfnmaaGreatDoor.T

namespace Go.Proofs.YthbeempmdpfnmaaGreatDoor.T
open Go.RowKit Go.Lib
section
variable {N P : Nat} {w w' : World} {l : List UInt8} {k c s e t : Int} {a x d : ByteArray} {o : Bool} {ai az : Option Addr} {ci cz : Nat} {li : List It} {lz : List Int}
end
end Go.Proofs.YthbeempmdpfnmaaGreatDoor.T

namespace Go.Proofs.YthbeempmdpfnmaaGreatDoor.T
open Go.RowKit Go.Lib
section
variable {N P : Nat} {w w' : World}
/-- A note in memory, as it is handed in. -/
def nA (n : Nt) (ai az : Option Addr) (ci cz : Nat) : Value := .agg #[.int .i64 n.k, .string n.n, .string n.x, .string n.d, .int .i64 n.c, .int .i64 n.s, .int .i64 n.e, .int .i64 n.t, .bool n.o, .slice ai n.l.length ci, .slice az n.z.length cz]
/-- What is asked of a note's parts in memory. -/
structure NtS (w : World) (ai az : Option Addr) (n : Nt) : Prop where
  hn : n.n.size ≤ 1000000
  hx : n.x.size ≤ 1000000
  hd : n.d.size ≤ 1000000
  hI : ItS w ai n.l
  hZ : CdS w az n.z
theorem NtS.below {ai az : Option Addr} {n : Nt} (h : NtS w ai az n) (hb : Below w.heap.size w w') : NtS w' ai az n := ⟨h.hn, h.hx, h.hd, h.hI.below hb, h.hZ.below hb⟩
end
end Go.Proofs.YthbeempmdpfnmaaGreatDoor.T

namespace Go.Proofs.YthbeempmdpfnmaaGreatDoor.T
open Go.RowKit Go.Lib
/-- All stays but the block P. -/
structure Bt (N P : Nat) (w w' : World) : Prop where
  os : w'.os = w.os
  tape : w'.tape = w.tape
  output : w'.output = w.output
  size : w.heap.size ≤ w'.heap.size
  block : ∀ b, b < N → b ≠ P → w'.heap[b]? = w.heap[b]?
section
variable {N P : Nat} {T : TypeId} {r : List Value} {w w' w1 w2 : World} {l : List UInt8}
theorem Bt.refl (N P : Nat) (w : World) : Bt N P w w := ⟨rfl, rfl, rfl, Nat.le_refl _, fun _ _ _ => rfl⟩
theorem Bt.trans (h : Bt N P w w1) (k : Bt N P w1 w2) : Bt N P w w2 :=
  ⟨k.os.trans h.os, k.tape.trans h.tape, k.output.trans h.output, Nat.le_trans h.size k.size, fun b hb hp => (k.block b hb hp).trans (h.block b hb hp)⟩
theorem Bt.mono (h : Bt N P w w') {M : Nat} (hM : M ≤ N) : Bt M P w w' := ⟨h.os, h.tape, h.output, h.size, fun b hb hp => h.block b (Nat.lt_of_lt_of_le hb hM) hp⟩
theorem Bt.below (h : Bt N P w w1) (hb : Below w1.heap.size w1 w2) (hN : N ≤ w1.heap.size) : Bt N P w w2 :=
  h.trans ⟨hb.os, hb.tape, hb.output, hb.size, fun b hl _ => hb.block b (Nat.lt_of_lt_of_le hl hN)⟩
theorem Bt.set (h : Bt N P w w1) (i : Nat) (v : Value) : Bt N P w (w1.setCell ⟨P, i, none⟩ v) := by
  have k := (Below.refl P w1).setCell (p := ⟨P, i, none⟩) (Nat.le_refl _) v
  exact h.trans ⟨k.os, k.tape, k.output, k.size, fun b _ hp => setCell_other hp⟩
theorem Bt.keep (h : Bt N P w w') {b : Nat} {o : Obj} (hb : w.heap[b]? = some o) (hN : b < N) (hP : b ≠ P) : w'.heap[b]? = some o := (h.block b hN hP).trans hb
/-- At P is a box whose first cell is what is left to be read. -/
def Rr (P : Nat) (T : TypeId) (r : List Value) (w : World) (l : List UInt8) : Prop := w.heap[P]? = some (.cells (.string (mk l) :: r).toArray T (0, 0))
theorem Rr.lt (h : Rr P T r w l) : P < w.heap.size := heap_lt h
theorem Rr.below (h : Rr P T r w l) (hb : Below w.heap.size w w') : Rr P T r w' l := (hb.block _ (heap_lt h)).trans h
theorem Rr.cell (h : Rr P T r w l) : w.cell? ⟨P, 0, none⟩ = some (.string (mk l)) := (Lib.cell_of_heap h 0).trans (by simp)
theorem Rr.set (h : Rr P T r w l) (i : Nat) (v : Value) : Rr P T (r.set i v) (w.setCell ⟨P, i + 1, none⟩ v) l := (setI h (i + 1) v).trans (by simp)
end
end Go.Proofs.YthbeempmdpfnmaaGreatDoor.T

namespace Go.Proofs.YthbeempmdpfnmaaGreatDoor.T
open Go.RowKit Go.Lib
section
variable {N P : Nat} {w w' w1 w2 : World} {l m : List UInt8} {k c s e t : Int} {a x d : ByteArray} {o : Bool} {vi vz : Value}
theorem Rr.apart {T : TypeId} {r : List Value} (h : Rr P T r w l) {N n z : Nat} {E : TypeId} {v : Value} {xs : List Value} (ho : w.ownsRow N E z v n xs) (hT : T ≠ E) {b : Nat} (hb : v.ownBlock = some b) : b ≠ P := fun q => by
  obtain ⟨_, cur, hc⟩ := own_heap ho hb
  have h2 : w.heap[P]? = _ := h
  rw [q, h2] at hc
  injection hc with hc
  injection hc with _ hc _
  exact hT hc
end
end Go.Proofs.YthbeempmdpfnmaaGreatDoor.T

namespace Go.Proofs.YthbeempmdpfnmaaGreatDoor.T
open Go.RowKit Go.Lib
section
variable {N P : Nat} {w w' w1 w2 : World} {l m : List UInt8} {k c s e t : Int} {a x d : ByteArray} {o : Bool} {vi vz : Value}
end
end Go.Proofs.YthbeempmdpfnmaaGreatDoor.T

namespace Go.Proofs.YthbeempmdpfnmaaGreatDoor.T
open Go.RowKit Go.Lib
section
variable {N P : Nat} {w w' w1 w2 : World} {l m : List UInt8}
end
end Go.Proofs.YthbeempmdpfnmaaGreatDoor.T

namespace Go.Proofs.YthbeempmdpfnmaaGreatDoor.T
open Go.RowKit Go.Lib
section
variable {N P : Nat} {w w' w1 w2 : World} {l m : List UInt8}
theorem bx11f {w : World} {b : Nat} {v0 v1 v2 v3 v4 v5 v6 v7 v8 v9 v10 : Value} {t : TypeId} (h : w.heap[b]? = some (.cells #[v0, v1, v2, v3, v4, v5, v6, v7, v8, v9, v10] t (0, 0))) : w.frozen? ⟨b, 0, none⟩ = false ∧ w.frozen? ⟨b, 1, none⟩ = false ∧ w.frozen? ⟨b, 2, none⟩ = false ∧ w.frozen? ⟨b, 3, none⟩ = false ∧ w.frozen? ⟨b, 4, none⟩ = false ∧ w.frozen? ⟨b, 5, none⟩ = false ∧ w.frozen? ⟨b, 6, none⟩ = false ∧ w.frozen? ⟨b, 7, none⟩ = false ∧ w.frozen? ⟨b, 8, none⟩ = false ∧ w.frozen? ⟨b, 9, none⟩ = false ∧ w.frozen? ⟨b, 10, none⟩ = false := by
  simp [World.frozen?, h]
end
end Go.Proofs.YthbeempmdpfnmaaGreatDoor.T

namespace Go.Proofs.YthbeempmdpfnmaaGreatDoor.T
open Go.RowKit Go.Lib
/-- A note in memory; how long its lists may be, and what is in them. -/
structure NtL (w : World) (ai az : Option Addr) (n : Nt) : Prop extends NtS w ai az n where
  hin : n.l.length ≤ 1000000
  hiz : ∀ y ∈ n.l, y.n.size ≤ 1000000 ∧ y.a.size ≤ 1000000
  hzn : n.z.length ≤ 1000000
theorem NtL.below {w w' : World} {ai az : Option Addr} {n : Nt} (h : NtL w ai az n) (hb : Below w.heap.size w w') : NtL w' ai az n := ⟨h.toNtS.below hb, h.hin, h.hiz, h.hzn⟩
/-- A plain region, in quiet steps. -/
theorem wpList_quiet {P : Program} {ops : Array Oper} {C : World → Prop} {Q' : Exit → Act → World → Prop} : ∀ (l : List Oper) (a : Act) (w : World), C w → wpQuiet P ops C (fun a' => ∀ w', C w' → Q' .normal a' w') l a → wpList P ops Q' l a w
  | [], _, w, hC, h => h w hC
  | o :: l, a, w, hC, h => by
    unfold wpQuiet at h
    unfold wpList
    split
    · rename_i hw
      rw [if_pos hw] at h
      exact .inl (Oper.wp_of_quiet hC (fun a' w' hC' h' => wpList_quiet l a' w' hC' h') h)
    · rename_i hw
      rw [if_neg hw] at h
      exact wpList_quiet l _ w hC h
theorem plain_quiet {P : Program} {id : Nat} {Q' : Exit → Act → World → Prop} {a : Act} {w : World} {l : List Oper}
    (h : wpQuiet P l.toArray (fun w' => ∃ x : Ext w, w' = x.to) (fun a' => ∀ w', (∃ x : Ext w, w' = x.to) → Q' .normal a' w') l a) : (Code.region id l.toArray false).wp P Q' a w :=
  wp_region_lit (wpList_quiet l a w ⟨⟨w, Below.refl _ _⟩, rfl⟩ h)
/-- A call that answers v and leaves the old blocks, wherever it is made behind w. -/
abbrev Xc (w : World) (f : FuncId) (args : Array Value) (v : Value) : Prop := ∀ x : Ext w, Calls Tryz.prog f args x.to fun e w' => e = .returned v ∧ Below x.to.heap.size x.to w'
theorem xc_pure {w : World} {f : FuncId} {args : Array Value} {v : Value} (h : ∀ W, Calls Tryz.prog f args W (Pure v W)) : Xc w f args v := fun x => (h x.to).mono fun _ _ ⟨he, hw⟩ => ⟨he, by rw [hw]; exact Below.refl _ _⟩
end Go.Proofs.YthbeempmdpfnmaaGreatDoor.T

namespace Go.Proofs.YthbeempmdpfnmaaGreatDoor.T
open Go Go.Lib By
/-- A note's parts are at most so long. -/
structure Sm (M : Nat) (n : Nt) : Prop where
  hn : n.n.size ≤ M
  hx : n.x.size ≤ M
  hd : n.d.size ≤ M
  hin : n.l.length ≤ M
  hiz : ∀ y ∈ n.l, y.n.size ≤ M ∧ y.a.size ≤ M
  hzn : n.z.length ≤ M
theorem inB_iff {x lo hi : Int} : inB x lo hi = true ↔ lo ≤ x ∧ x ≤ hi := by
  unfold inB
  rw [Bool.and_eq_true, decide_eq_true_eq, decide_eq_true_eq]
end Go.Proofs.YthbeempmdpfnmaaGreatDoor.T

namespace Go.Proofs.YthbeempmdpfnmaaGreatDoor.T
open Go.RowKit Go.Lib
end Go.Proofs.YthbeempmdpfnmaaGreatDoor.T

namespace Go.Proofs.YthbeempmdpfnmaaGreatDoor.T
open Go.RowKit Go.Lib
theorem ItS.nil (w : World) (a : Option Addr) : ItS w a [] := fun i h => by cases h
theorem CdS.nil (w : World) (a : Option Addr) : CdS w a [] := fun i h => by cases h
theorem cell_keep {w w' : World} {b o : Nat} (h : w'.heap[b]? = w.heap[b]?) : w'.cell? ⟨b, o, none⟩ = w.cell? ⟨b, o, none⟩ := by simp [World.cell?, h]
theorem ItS.keep {w w' : World} {a : Option Addr} {l : List It} (h : ItS w a l) (hk : ∀ b, a = some b → w'.heap[b.block]? = w.heap[b.block]?) : ItS w' a l := fun i hi => by
  obtain ⟨b, o, e, c0, c1, c2, c3, c4, c5⟩ := h i hi
  have q := hk _ e
  exact ⟨b, o, e, (cell_keep q).trans c0, (cell_keep q).trans c1, (cell_keep q).trans c2, (cell_keep q).trans c3, (cell_keep q).trans c4, (cell_keep q).trans c5⟩
theorem CdS.keep {w w' : World} {a : Option Addr} {l : List Int} (h : CdS w a l) (hk : ∀ b, a = some b → w'.heap[b.block]? = w.heap[b.block]?) : CdS w' a l := fun i hi => by
  obtain ⟨b, o, e, c0⟩ := h i hi
  exact ⟨b, o, e, (cell_keep (hk _ e)).trans c0⟩
end Go.Proofs.YthbeempmdpfnmaaGreatDoor.T

namespace Go.Proofs.YthbeempmdpfnmaaGreatDoor.T
open Go Go.Lib By
/-! ### Items -/
theorem nm_len {l : List UInt8} (h : Hd.nm l = true) : l.length ≤ 16 := by
  unfold Hd.nm Hd.numb Hd.scr at h
  simp only [Bool.or_eq_true, Bool.and_eq_true, decide_eq_true_eq] at h
  omega
theorem isN_size {s : ByteArray} (h : isN s = true) : s.size ≤ 16 := by
  have := nm_len h
  rwa [By.len_size] at this
/-! ### With the literals -/
end Go.Proofs.YthbeempmdpfnmaaGreatDoor.T

namespace Go.Proofs.YthbeempmdpfnmaaGreatDoor.T
open Go.RowKit Go.Lib
/-- A note as it is handed in: how much a machine can hold. -/
structure NtR (w : World) (ai az : Option Addr) (n : Nt) : Prop where
  hn : n.n.size ≤ 140737488351232
  hx : n.x.size ≤ 140737488351232
  hd : n.d.size ≤ 140737488351232
  hI : ItS w ai n.l
  hZ : CdS w az n.z
  hin : n.l.length ≤ 140737488351232
  hiz : ∀ y ∈ n.l, y.n.size ≤ 140737488351232 ∧ y.a.size ≤ 140737488351232
  hzn : n.z.length ≤ 140737488351232
theorem NtR.below {w w' : World} {ai az : Option Addr} {n : Nt} (h : NtR w ai az n) (hb : Below w.heap.size w w') : NtR w' ai az n := ⟨h.hn, h.hx, h.hd, h.hI.below hb, h.hZ.below hb, h.hin, h.hiz, h.hzn⟩
/-- What Weight answers: a number; where it is at most 12000 the note's parts are no longer. -/
def WtP (n : Nt) (w : World) (e : Ending) (w' : World) : Prop := ∃ m : Nat, e = .returned (.int .i64 m) ∧ Below w.heap.size w w' ∧ (m ≤ 12000 → Sm 12000 n) ∧ m ≤ 1000000000000000
theorem weight_any (n : Nt) (ai az : Option Addr) (ci cz : Nat) (w : World) (h : NtR w ai az n) : Calls Tryz.prog 14 #[nA n ai az ci cz, .int .i64 12000] w (WtP n w) := by
  unfold nA
  have HL := Lib.hid fun W (hb : Below w.heap.size w W) => h.hI.below hb
  have HZ := Lib.hid h.hiz
  have HX0 := Lib.hid (box_new w #[.int .i64 n.k, .string n.n, .string n.x, .string n.d, .int .i64 n.c, .int .i64 n.s, .int .i64 n.e, .int .i64 n.t, .bool n.o, .slice ai n.l.length ci, .slice az n.z.length cz] 42)
  have HB0 : Hid (Below w.heap.size w (w.alloc (.cells #[.int .i64 n.k, .string n.n, .string n.x, .string n.d, .int .i64 n.c, .int .i64 n.s, .int .i64 n.e, .int .i64 n.t, .bool n.o, .slice ai n.l.length ci, .slice az n.z.length cz] 42))) := (Below.refl _ w).alloc (Nat.le_refl _) _
  have h1 := h.hn
  have h2 := h.hx
  have h3 := h.hd
  have h4 := h.hzn
  have h5 := h.hin
  have HP : Hid (∀ (m : Nat) W, Below w.heap.size w W → (m ≤ 12000 → Sm 12000 n) → m ≤ 1000000000000000 → WtP n w (.returned (.int .i64 m)) W) := fun m W hb hs hm => ⟨m, rfl, hb, hs, hm⟩
  generalize hq : WtP n w = POST at HP ⊢
  clear hq h
  obtain ⟨m0, m1, m2, m3, m4, m5, m6, m7, m8, m9, m10⟩ := bx11 HX0.out
  go_enter Tryz.func14, Tryz.ntmps14
  go_wp2_with fail
  clear m0 m1 m2 m3 m4 m5 m6 m7 m8 m9 m10
  go_loopw [5, 6] (fun x i wr => ∃ (m j : Nat), x = .int .i64 m ∧ i = .int .i64 j ∧ j ≤ n.l.length ∧ m ≤ 1000000000000000 ∧ Hid (n.n.size + n.x.size + n.d.size + n.z.length ≤ m ∧ j ≤ m ∧ ∀ i (h : i < n.l.length), i < j → n.l[i].n.size ≤ m ∧ n.l[i].a.size ≤ m) ∧ Hid (wr.heap[w.heap.size]? = some (.cells #[.int .i64 n.k, .string n.n, .string n.x, .string n.d, .int .i64 n.c, .int .i64 n.s, .int .i64 n.e, .int .i64 n.t, .bool n.o, .slice ai n.l.length ci, .slice az n.z.length cz] 42 (0, 0))) ∧ Hid (Below w.heap.size w wr)) (fun _ i _ => n.l.length - (RowKit.intOf i).toNat)
  case atStart => exact ⟨n.n.size + n.x.size + n.d.size + n.z.length, 0, by go_num, rfl, Nat.zero_le _, by omega, ⟨Nat.le_refl _, Nat.zero_le _, fun i _ h => absurd h (Nat.not_lt_zero _)⟩, HX0.out, HB0.out⟩
  case round =>
    clear HX0 HB0
    obtain ⟨m, j, rfl, rfl, hj, hm, HM, HX, HB⟩ := hrel
    obtain ⟨-, -, -, -, -, -, -, -, -, m9, -⟩ := bx11 HX.out
    by_cases hlt : j < n.l.length
    · by_cases h12 : m ≤ 12000
      · obtain ⟨b, p, rfl, e0, e1, e2, e3, e4, e5⟩ := HL.out _ HB.out j hlt
        have hzz := HZ.out _ (List.getElem_mem hlt)
        have HMj : Hid (∀ v u, n.l[j].n.size = v → n.l[j].a.size = u → n.n.size + n.x.size + n.d.size + n.z.length ≤ m + 1 + v + u ∧ j + 1 ≤ m + 1 + v + u ∧ ∀ i (h : i < n.l.length), i < j + 1 → n.l[i].n.size ≤ m + 1 + v + u ∧ n.l[i].a.size ≤ m + 1 + v + u) := fun v u hv hu => by
          have a := HM.out.1
          have b := HM.out.2.1
          refine ⟨by omega, by omega, fun i h h2 => ?_⟩
          by_cases h3 : i < j
          · have := HM.out.2.2 i h h3
            omega
          · obtain rfl : i = j := by omega
            omega
        have q1 : ((j : Int) < n.l.length) := by omega
        have q2 : ((m : Int) ≤ 12000) := by omega
        have HMk := Lib.hid (HMj.out _ _ rfl rfl)
        have hz1 := hzz.1
        have hz2 := hzz.2
        clear HMj hzz HM e1 e2 e3 e5
        generalize n.l[j].n = v at e0 HMk hz1
        generalize n.l[j].a = u at e4 HMk hz2
        go_wp2_with fail
        go_region
        go_wp2_with fail
        exact ⟨⟨m + 1 + v.size + u.size, j + 1, by go_num, by go_num, by omega, by omega, HMk.out, HX.out, HB.out.drew⟩, by simp [RowKit.intOf]; omega⟩
      · have q1 : ((j : Int) < n.l.length) := by omega
        have q2 : ¬ ((m : Int) ≤ 12000) := by omega
        go_wp2_with fail
        exact HP.out m _ HB.out (fun h => absurd h h12) hm
    · obtain rfl : j = n.l.length := by omega
      have HS : Hid (m ≤ 12000 → Sm 12000 n) := fun h => by
        have a := HM.out.1
        have b := HM.out.2.1
        refine ⟨by omega, by omega, by omega, by omega, fun y hy => ?_, by omega⟩
        obtain ⟨i, hi, rfl⟩ := List.getElem_of_mem hy
        have := HM.out.2.2 i hi hi
        omega
      clear HM
      go_wp2_with fail
      exact HP.out m _ HB.out HS.out hm
end Go.Proofs.YthbeempmdpfnmaaGreatDoor.T

namespace Go.Proofs.YthbeempmdpfnmaaGreatDoor.T
open Go.RowKit Go.Lib By
noncomputable def eqv {α : Type} (x y : α) : Bool := @decide (x = y) (Classical.propDecidable _)
theorem eqv_yes {α : Type} {x y : α} (h : x = y) : eqv x y = true := by unfold eqv; exact (@decide_eq_true_iff _ (Classical.propDecidable _)).2 h
theorem eqv_no {α : Type} {x y : α} (h : x ≠ y) : eqv x y = false := by rw [Bool.eq_false_iff]; intro e; unfold eqv at e; exact h ((@decide_eq_true_iff _ (Classical.propDecidable _)).1 e)
theorem take_eq {α : Type} {l m : List α} {k : Nat} (hl : k < l.length) (hm : k < m.length) (h : l.take k = m.take k) (he : l[k] = m[k]) : l.take (k + 1) = m.take (k + 1) := by
  rw [List.take_succ_eq_append_getElem hl, List.take_succ_eq_append_getElem hm, h, he]
theorem text_ne {a b : ByteArray} (h : a ≠ b) : ¬ a.toList = b.toList := fun e => h (by rw [ByteArray.toList_eq, ByteArray.toList_eq] at e; rw [← mk_self a, ← mk_self b, e])
theorem text_neb {a b : ByteArray} (h : a ≠ b) : (a.toList == b.toList) = false := by rw [beq_eq_false_iff_ne]; exact text_ne h
theorem it_ne {x y : It} (h : x ≠ y) : x.n ≠ y.n ∨ (x.n = y.n ∧ x.g ≠ y.g) ∨ (x.n = y.n ∧ x.g = y.g ∧ x.i ≠ y.i) ∨ (x.n = y.n ∧ x.g = y.g ∧ x.i = y.i ∧ x.t ≠ y.t) ∨ (x.n = y.n ∧ x.g = y.g ∧ x.i = y.i ∧ x.t = y.t ∧ x.a ≠ y.a) ∨ (x.n = y.n ∧ x.g = y.g ∧ x.i = y.i ∧ x.t = y.t ∧ x.a = y.a ∧ x.w ≠ y.w) := by
  by_cases h1 : x.n = y.n
  · by_cases h2 : x.g = y.g
    · by_cases h3 : x.i = y.i
      · by_cases h4 : x.t = y.t
        · by_cases h5 : x.a = y.a
          · by_cases h6 : x.w = y.w
            · exact absurd (by cases x; cases y; simp_all) h
            · exact .inr (.inr (.inr (.inr (.inr ⟨h1, h2, h3, h4, h5, h6⟩))))
          · exact .inr (.inr (.inr (.inr (.inl ⟨h1, h2, h3, h4, h5⟩))))
        · exact .inr (.inr (.inr (.inl ⟨h1, h2, h3, h4⟩)))
      · exact .inr (.inr (.inl ⟨h1, h2, h3⟩))
    · exact .inr (.inl ⟨h1, h2⟩)
  · exact .inl h1
end Go.Proofs.YthbeempmdpfnmaaGreatDoor.T

namespace Go.Proofs.YthbeempmdpfnmaaGreatDoor.T
open Go.RowKit Go.Lib
theorem nt_load {n : Nt} {w : World} {ai az : Option Addr} (s : Sm 1000000 n) (hI : ItS w ai n.l) (hZ : CdS w az n.z) : NtL w ai az n := ⟨⟨s.hn, s.hx, s.hd, hI, hZ⟩, s.hin, s.hiz, s.hzn⟩
theorem Sm.mono {M K : Nat} {n : Nt} (h : Sm M n) (k : M ≤ K) : Sm K n := ⟨Nat.le_trans h.hn k, Nat.le_trans h.hx k, Nat.le_trans h.hd k, Nat.le_trans h.hin k, fun y hy => ⟨Nat.le_trans (h.hiz y hy).1 k, Nat.le_trans (h.hiz y hy).2 k⟩, Nat.le_trans h.hzn k⟩
end Go.Proofs.YthbeempmdpfnmaaGreatDoor.T

namespace Go.Proofs.YthbeempmdpfnmaaGreatDoor.T
open Go.RowKit Go.Lib
/-- What a law's walk leaves. -/
def OkL (w : World) (e : Ending) (w' : World) : Prop := e = .returned (.bool true) ∧ Below w.heap.size w w'
theorem isT_nil : isT ⟨#[]⟩ = true := isT_iff.2 ⟨[], by simp, rfl⟩
theorem itS_one {w : World} {b : Nat} {t : TypeId} (x : It) (h : w.heap[b]? = some (.cells #[.string x.n, .int .i64 x.g, .int .i64 x.i, .int .i64 x.t, .string x.a, .bool x.w] t (0, 0))) : ItS w (some ⟨b, 0, none⟩) [x] := fun i hi => by
  obtain rfl : i = 0 := by simpa using hi
  refine ⟨b, 0, rfl, ?_, ?_, ?_, ?_, ?_, ?_⟩ <;> (rw [Lib.cell_of_heap h]; rfl)
theorem sm_nil (k c s e t : Int) (o : Bool) : Sm 1000000 ⟨k, ⟨#[]⟩, ⟨#[]⟩, ⟨#[]⟩, c, s, e, t, o, [], []⟩ := ⟨Nat.zero_le _, Nat.zero_le _, Nat.zero_le _, Nat.zero_le _, (fun y h => by cases h), Nat.zero_le _⟩
end Go.Proofs.YthbeempmdpfnmaaGreatDoor.T
