/- Boxes; regions that draw. Conditions: those of each theorem's head. -/
import Derived.Test.YtlklmoohoobjjaaGreatDoorAb
import Derived.Laws.EntriesVeiled
import Derived.BigQuiet
import Derived.Deep.Quiet
import Derived.StillTail
import Derived.Deep.QuietTactic
import Derived.IntWalk

namespace Go.Proofs.YtlklmoohoobjjaaGreatDoor
open Go.RowKit Go.Lib Go.Shelf Tg

/-- An element as a value. -/
def ev (sp nm : ByteArray) (aA : Option Addr) (n cA : Nat) (tx : ByteArray) (aK : Option Addr) (m cK : Nat) : Value := .agg #[.string sp, .string nm, .slice aA n cA, .string tx, .slice aK m cK]
theorem emp_eq (tx : ByteArray) (ks : List El) : (tx.data.toList.isEmpty && decide (ks.length = 0)) = emp tx ks := by
  unfold emp
  cases ks <;> simp
/-- What stands ahead of an element's kids, but for its end. -/
theorem beg_parts (e : El) (s : ByteArray) : beg e s = (([60] ++ e.nm.data.toList) ++ (if e.sp = s then [] else Tg.mark xmlns e.sp.data.toList)) ++ marks e.atr ++ (if emp e.tx e.ks then [47, 62] else [62] ++ q e.tx.data.toList) := rfl
theorem marks_drop {l : List (ByteArray × ByteArray)} {k : Nat} (h : k < l.length) : marks (l.drop k) = Tg.mark l[k].1.data.toList l[k].2.data.toList ++ marks (l.drop (k + 1)) := by
  rw [List.drop_eq_getElem_cons h]
  unfold marks
  rw [List.flatMap_cons]
theorem bd_new1 (w : World) (o : Obj) : Bd (w.heap.size + 1) (w.heap.size + 1) [] ((w.alloc o).alloc (.cells #[.pointer none, .slice none 0 0] 84)) := by
  have := bd_new (w.alloc o)
  simpa using this
/-- A box of five cells, cell by cell. -/
theorem bx5 {w : World} {b : Nat} {v0 v1 v2 v3 v4 : Value} {t : TypeId} {fz : Nat × Nat} (h : w.heap[b]? = some (.cells #[v0, v1, v2, v3, v4] t fz)) :
    w.cell? ⟨b, 0, none⟩ = some v0 ∧ w.cell? ⟨b, 1, none⟩ = some v1 ∧ w.cell? ⟨b, 2, none⟩ = some v2 ∧ w.cell? ⟨b, 3, none⟩ = some v3 ∧ w.cell? ⟨b, 4, none⟩ = some v4 := by
  refine ⟨?_, ?_, ?_, ?_, ?_⟩ <;> (rw [Lib.cell_of_heap h]; rfl)
theorem box_new (w : World) (cs : Array Value) (t : TypeId) : (w.alloc (.cells cs t)).heap[w.heap.size]? = some (.cells cs t (0, 0)) := heap_alloc_new w _
theorem len_front {a b c t : List UInt8} {n : Nat} (h : a ++ b = c) (h2 : (c ++ t).length ≤ n) : a.length ≤ n := by
  subst h
  rw [List.length_append, List.length_append] at h2
  omega
theorem ret_str {a b : List UInt8} (h : a = b) : Ending.returned (.string ⟨a.toArray⟩) = Ending.returned (.string ⟨b.toArray⟩) := by rw [h]
theorem mk_size (l : List UInt8) : (⟨l.toArray⟩ : ByteArray).size = l.length := by rw [Lib.size_eq]
theorem mk_list (l : List UInt8) : (⟨l.toArray⟩ : ByteArray).data.toList = l := by simp
/-- A box in the block behind w, a builder in the next, and all that w held. -/
def Bgn (w : World) (cs : Array Value) (t : TypeId) (out : List UInt8) (wr : World) : Prop := Bd (w.heap.size + 1) (w.heap.size + 1) out wr ∧ Below w.heap.size w wr ∧ wr.heap[w.heap.size]? = some (.cells cs t (0, 0))
theorem Bgn.new (w : World) (cs : Array Value) (t : TypeId) : Bgn w cs t [] ((w.alloc (.cells cs t)).alloc (.cells #[.pointer none, .slice none 0 0] 84)) :=
  ⟨bd_new1 w _, ((Below.refl _ w).alloc (Nat.le_refl _) _).alloc (by simp) _, (Below.heap_alloc _ _ _ (by simp)).trans (box_new w cs t)⟩
theorem Bgn.step {w : World} {cs : Array Value} {t : TypeId} {out out' : List UInt8} {wr w' : World} (h : Bgn w cs t out wr) (hd : Bd (w.heap.size + 1) (w.heap.size + 1) out' w') (hb : Below (w.heap.size + 1) wr w') : Bgn w cs t out' w' :=
  ⟨hd, h.2.1.trans (hb.mono (Nat.le_succ _)), (hb.block _ (Nat.lt_succ_self _)).trans h.2.2⟩
theorem Bgn.call {w : World} {cs : Array Value} {t : TypeId} {out : List UInt8} {wr w' : World} (h : Bgn w cs t out wr) (hb : Below wr.heap.size wr w') : Bgn w cs t out w' :=
  h.step (h.1.below hb) (hb.mono (Nat.le_of_lt h.1.lt))
theorem Bgn.alloc {w : World} {cs : Array Value} {t : TypeId} {out : List UInt8} {wr : World} (h : Bgn w cs t out wr) (o : Obj) : Bgn w cs t out (wr.alloc o) := h.call ((Below.refl _ wr).alloc (Nat.le_refl _) o)
theorem Bgn.lt {w : World} {cs : Array Value} {t : TypeId} {out : List UInt8} {wr : World} (h : Bgn w cs t out wr) : w.heap.size + 1 ≤ wr.heap.size := Nat.le_of_lt h.1.lt
end Go.Proofs.YtlklmoohoobjjaaGreatDoor

namespace Go.Proofs.YtlklmoohoobjjaaGreatDoor
open Go.RowKit Go.Lib Go.Shelf Tg

theorem AtIn.up {B B' : Nat} {w : World} {a : Option Addr} {l : List (ByteArray × ByteArray)} (h : AtIn B w a l) (hb : B ≤ B') : AtIn B' w a l := by
  intro i hi
  obtain ⟨b, o, ha, hlt, hf⟩ := h i hi
  exact ⟨b, o, ha, Nat.lt_of_lt_of_le hlt hb, hf⟩
theorem cell_alloc {w : World} {b o : Nat} {v : Value} (h : w.cell? ⟨b, o, none⟩ = some v) (x : Obj) : (w.alloc x).cell? ⟨b, o, none⟩ = some v :=
  (World.cell?_of_block (Below.heap_alloc w x b (World.block_lt_of_cell? w _ h))).trans h
theorem puts_drop {l : List El} {k : Nat} (h : k < l.length) (s : ByteArray) : puts (l.drop k) s = put l[k] s ++ puts (l.drop (k + 1)) s := by
  rw [List.drop_eq_getElem_cons h, puts_cons]
theorem heap_lt {w : World} {b : Nat} {o : Obj} (h : w.heap[b]? = some o) : b < w.heap.size := (Array.getElem?_eq_some_iff.1 h).1
/-- What Put's inner function keeps: the builder, its box, all that w held below B. -/
structure Pt (B O N : Nat) (cs : Array Value) (w : World) (out : List UInt8) (wr : World) : Prop where
  bf : Bf B O out wr
  kp : Kp B O w wr
  box : wr.heap[N]? = some (.cells cs 30 (0, 0))
theorem Pt.call {B O N : Nat} {cs : Array Value} {w wr w' : World} {out : List UInt8} (h : Pt B O N cs w out wr) (hb : Below wr.heap.size wr w') (hB : B ≤ O) : Pt B O N cs w out w' :=
  ⟨h.bf.below hb, h.kp.trans (Kp.of hb (Nat.le_trans hB (Nat.le_of_lt h.bf.lt))), (hb.block N (heap_lt h.box)).trans h.box⟩
theorem Pt.step {B O N : Nat} {cs : Array Value} {w wr w' : World} {out out' : List UInt8} (h : Pt B O N cs w out wr) (hf : Bf B O out' w') (hk : Kp B O wr w') (hN : N ≠ O) : Pt B O N cs w out' w' :=
  ⟨hf, h.kp.trans hk, hk.block h.box hN (by decide)⟩
theorem Pt.alloc {B O N : Nat} {cs : Array Value} {w wr : World} {out : List UInt8} (h : Pt B O N cs w out wr) (hB : B ≤ O) (o : Obj) : Pt B O N cs w out (wr.alloc o) := h.call ((Below.refl _ wr).alloc (Nat.le_refl _) o) hB
theorem Pt.le {B O N : Nat} {cs : Array Value} {w wr : World} {out : List UInt8} (h : Pt B O N cs w out wr) (hB : B ≤ O) : B ≤ wr.heap.size := Nat.le_trans hB (Nat.le_of_lt h.bf.lt)

theorem bf_new2 (w : World) (o : Obj) : Bf (w.heap.size + 1) (w.heap.size + 1) [] ((w.alloc o).alloc (.cells #[.pointer none, .slice none 0 0] 84)) := Bf.of (bd_new1 w o)

end Go.Proofs.YtlklmoohoobjjaaGreatDoor

namespace Go.Proofs.YtlklmoohoobjjaaGreatDoor
open Go.RowKit Go.Lib

/-- The worlds in which all that lay in w stands as it stood. -/
def Ext (w : World) : Type := { w' : World // Below w.heap.size w w' }
def Ext.to {w : World} (x : Ext w) : World := x.1
theorem Ext.below {w : World} (x : Ext w) : Below w.heap.size w x.to := x.2
instance extSome (w : World) : Nonempty (Ext w) := ⟨⟨w, Below.refl _ _⟩⟩
theorem ext_region {P : Program} {id : Nat} {Q : Exit → Act → World → Prop} {a : Act} {w : World} {l : List Oper} (hm : P.follows .mixedOrders = true) (hB : Region.lexB .any l.toArray = true)
    (h : wpQuiet P l.toArray (fun w' => ∃ x : Ext w, w' = x.to) (fun a' => ∀ w', (∃ x : Ext w, w' = x.to) → Q .normal a' w') l a) : (Code.region id l.toArray true).wp P Q a w :=
  wp_region_quiet (C := fun w' => ∃ x : Ext w, w' = x.to) hm hB ⟨⟨w.drew, (Below.refl _ _).drew⟩, rfl⟩ (by simpa using h)
theorem ext_call {P : Program} {f : FuncId} {args : Array Value} {w : World} (x : Ext w) {v : Value} (h : Calls P f args x.to fun e w' => e = .returned v ∧ Below x.to.heap.size x.to w') :
    Calls P f args x.to fun e w'' => e = .returned v ∧ ∃ y : Ext w, w'' = y.to :=
  h.mono fun _ w'' ⟨he, hb⟩ => ⟨he, ⟨w'', x.below.trans (hb.mono x.below.size)⟩, rfl⟩
theorem ext_same {P : Program} {f : FuncId} {args : Array Value} {w : World} (x : Ext w) {v : Value} (h : Calls P f args x.to fun e w' => e = .returned v ∧ x.to = w') :
    Calls P f args x.to fun e w'' => e = .returned v ∧ ∃ y : Ext w, w'' = y.to :=
  h.mono fun _ _ ⟨he, hb⟩ => ⟨he, x, hb.symm⟩
theorem ext_cell {w : World} (x : Ext w) {p : Addr} {v : Value} (h : w.cell? p = some v) : x.to.cell? p = some v := by
  have hlt := World.block_lt_of_cell? _ _ h
  rw [← h]
  exact x.below.cell hlt


end Go.Proofs.YtlklmoohoobjjaaGreatDoor

namespace Go.Proofs.YtlklmoohoobjjaaGreatDoor
open Go
section
variable {P : Program} {ops : Array Oper} {md : Region.Mode} {C : World → Prop}

/-- The first n operations, in whatever order; behind them T. -/
def wpHead (P : Program) (md : Region.Mode) (ops : Array Oper) (C : World → Prop) (n : Nat) (T : Array Bool → Act → Prop) : Nat → Array Bool → Act → Prop
  | 0, listed, a => T listed a
  | f + 1, listed, a => Region.ready md ops listed ≠ [] ∧ ∀ i ∈ Region.ready md ops listed, i < n ∧ qOp P ops C i (wpHead P md ops C n T f (listed.setIfInBounds i true)) a
theorem wpAny_head {n g : Nat} {T : Array Bool → Act → Prop} {Q' : Exit → Act → World → Prop} (hT : ∀ listed a w, C w → T listed a → wpAny P md ops Q' g listed a w) :
    ∀ (f : Nat) (listed : Array Bool) (a : Act) (w : World), C w → wpHead P md ops C n T f listed a → wpAny P md ops Q' (f + g) listed a w := by
  intro f
  induction f with
  | zero => intro listed a w hw h; rw [Nat.zero_add]; exact hT _ _ _ hw h
  | succ f ih =>
    intro listed a w hw h
    rw [show f + 1 + g = (f + g) + 1 by omega]
    exact ⟨fun e => absurd e h.1, fun i hi => wpOp_of_qOp hw (fun a' w' hw' h' => ih _ a' w' hw' h') (h.2 i hi).2⟩
/-- Which of the first n comes first makes no difference. -/
theorem wpHead_first {n i : Nat} {oi : Oper} {v : Value} {T : Array Bool → Act → Prop} (hi : ops[i]? = some oi) (hsel : ∀ (j : Nat) (o : Oper) cs b, ops[j]? = some o → o.op ≠ .select cs b)
    (hs : Region.sinkB md ops n = true) (hc : Region.chainB md ops n = true) (hn : n < ops.size) (hin : i < n)
    (hT : ∀ listed a, T listed a → ∀ j ∈ Region.ready md ops listed, n ≤ j) : ∀ (f : Nat) (listed : Array Bool) (a : Act), HeadInv md ops n listed →
      (∀ j oj, ops[j]? = some oj → j ≠ i → listed.getD j true = false → (∀ e ∈ oj.after, Region.binds md e = true → e.on ≠ i) → oi.apart ops oj = true) →
      i ∈ Region.ready md ops listed → YieldsIn P ops C oi v a → wpHead P md ops C n T f (listed.setIfInBounds i true) (a.put oi.dst v) → wpHead P md ops C n T (f + 1) listed a := by
  intro f
  induction f with
  | zero =>
    intro listed a inv _ hr hy H
    refine ⟨List.ne_nil_of_mem hr, fun j hj => ?_⟩
    have hjn : j < n := Nat.lt_of_not_le fun h => tail_waits hs hc hn inv _ i rfl hin (mem_ready.1 hr).1 j h hj
    refine ⟨hjn, ?_⟩
    by_cases e : j = i
    · subst e
      exact hy.qOp hi H
    · have := hT _ _ H j (ready_mono hj e)
      omega
  | succ f ih =>
    intro listed a inv hap hr hy H
    refine ⟨List.ne_nil_of_mem hr, fun j hj => ?_⟩
    have hjn : j < n := Nat.lt_of_not_le fun h => tail_waits hs hc hn inv _ i rfl hin (mem_ready.1 hr).1 j h hj
    refine ⟨hjn, ?_⟩
    by_cases e : j = i
    · subst e
      exact hy.qOp hi H
    · obtain ⟨hju, oj, hoj, hwait⟩ := mem_ready.1 hj
      have hno : ∀ x ∈ oj.after, Region.binds md x = true → x.on ≠ i := by
        intro x hx hb hon
        have h1 := hwait x hx hb
        rw [hon, getD_both (mem_ready.1 hr).1] at h1
        cases h1
      refine qOp_mono (fun a' h3 => ih (listed.setIfInBounds j true) a' (inv.set hj hjn) (fun k ok hk hki hun hnk => ?_) (ready_mono hr (Ne.symm e)) h3.1 ?_)
        (qOp_put hoj (hap j oj hoj e hju hno) (fun cs b => hsel i oi cs b hi) (fun cs b => hsel j oj cs b hoj) hy (H.2 j (ready_mono hj e)).2)
      · refine hap k ok hk hki ?_ hnk
        by_cases ejk : j = k
        · subst ejk; exact hju
        · rwa [getD_set_ne true ejk] at hun
      · have h4 := h3.2
        rwa [Array.setIfInBounds_comm _ _ (Ne.symm e)] at h4
theorem wpHead_lex {n g : Nat} {T : Act → Prop} (hsel : Region.noSelect ops = true) (hs : Region.sinkB md ops n = true) (hc : Region.chainB md ops n = true) (hn : n < ops.size) :
    ∀ (l : List Oper) (k : Nat) (listed : Array Bool) (a : Act), (∀ j, j < l.length → l[j]? = ops[k + j]?) → k + l.length = n → HeadInv md ops n listed →
    Region.lexHead md ops g l.length k listed = true → wpQuiet P ops C T l a → wpHead P md ops C n (fun listed' a' => Region.seqB md ops g n listed' = true ∧ T a') l.length listed a := by
  intro l
  induction l with
  | nil =>
    intro k listed a _ hk _ hB h
    obtain rfl : k = n := by simpa using hk
    exact ⟨by simpa [Region.lexHead] using hB, h⟩
  | cons o l ih =>
    intro k listed a hl hk inv hB h
    have h0 : ops[k]? = some o := by simpa using (hl 0 (by simp)).symm
    simp only [List.length_cons, Region.lexHead, Bool.and_eq_true] at hB
    simp only [List.length_cons] at hk
    have hkn : k < n := by omega
    have hr : k ∈ Region.ready md ops listed := by simpa using hB.1.1
    obtain ⟨v, hy, hK⟩ := yieldsIn_of_qOp (C := C) (P := P) h0 (show qOp P ops C k (wpQuiet P ops C T l) a by unfold qOp; simp only [h0]; exact h)
    exact wpHead_first h0 (Region.noSelect_spec hsel) hs hc hn hkn (fun listed' a' hL => seqB_ready hL.1) l.length listed a inv (Region.free_spec h0 hB.1.2) hr hy
      (ih (k + 1) _ _ (fun j hj => by have := hl (j + 1) (by simp; omega); simpa [Nat.add_assoc, Nat.add_comm 1 j] using this) (by omega) (inv.set hr hkn) hB.2 hK)
end
/-- A region that draws: n operations that are quiet in a class of worlds, then the rest in its order. -/
theorem wp_region_tail {P : Program} {C : World → Prop} {id : Nat} {Q : Exit → Act → World → Prop} {a : Act} {w : World} {l : List Oper} (n : Nat) (hm : P.follows .mixedOrders = true) (hB : Region.lexTailB .any l.toArray n = true)
    (hC : C w.drew) (h : wpQuiet P l.toArray C (fun a' => ∀ w', C w' → wpList P l.toArray Q (l.drop n) a' w') (l.take n) a) : (Code.region id l.toArray true).wp P Q a w := by
  simp only [Region.lexTailB, Bool.and_eq_true, decide_eq_true_eq] at hB
  obtain ⟨⟨⟨⟨hsel, hn⟩, hs⟩, hc⟩, hlex⟩ := hB
  have hn' : n < l.length := by simpa using hn
  have htl : (l.take n).length = n := by simp; omega
  have hdl : (l.drop n).length = l.toArray.size - n := by simp
  have inv0 : HeadInv .any l.toArray n (Array.replicate l.toArray.size false) :=
    ⟨by simp, fun j oj _ hl => (by rw [getD_replicate_false] at hl; cases hl), fun t _ ht => getD_in (by simpa using ht) (getD_replicate_false _ _)⟩
  have H := wpHead_lex (P := P) (C := C) (md := .any) (g := l.toArray.size - n) hsel hs hc hn (l.take n) 0 _ a (fun j hj => by
    have hj' : j < n := by rw [htl] at hj; exact hj
    simp [hj']) (by simpa using htl) inv0 (by rw [htl]; exact hlex) h
  refine wp_region_any hm ?_
  have := wpAny_head (Q' := Q) (g := l.toArray.size - n) (fun listed a' w' hw' hL => by
    have := wpAny_of_seq (md := .any) (Q' := Q) (l.drop n) n listed a' w' (fun j => by simp [List.getElem?_drop]) (by rw [hdl]; exact hL.1) (hL.2 w' hw')
    rwa [hdl] at this) _ _ _ w.drew hC H
  rw [htl, show n + (l.toArray.size - n) = l.toArray.size by omega] at this
  exact this
theorem ext_tail {P : Program} {id : Nat} {Q : Exit → Act → World → Prop} {a : Act} {w : World} {l : List Oper} (n : Nat) (hm : P.follows .mixedOrders = true) (hB : Region.lexTailB .any l.toArray n = true)
    (h : wpQuiet P l.toArray (fun w' => ∃ x : Ext w, w' = x.to) (fun a' => ∀ w', (∃ x : Ext w, w' = x.to) → wpList P l.toArray Q (l.drop n) a' w') (l.take n) a) : (Code.region id l.toArray true).wp P Q a w :=
  wp_region_tail (C := fun w' => ∃ x : Ext w, w' = x.to) n hm hB ⟨⟨w.drew, (RowKit.Below.refl _ _).drew⟩, rfl⟩ h
theorem ext_frozen {w : World} (x : Ext w) {p : Addr} {v : Value} (h : w.cell? p = some v) {b : Bool} (hf : w.frozen? p = b) : x.to.frozen? p = b := by
  have hlt := World.block_lt_of_cell? _ _ h
  rw [← hf]
  exact x.below.frozen hlt


end Go.Proofs.YtlklmoohoobjjaaGreatDoor

namespace Go.Proofs.YtlklmoohoobjjaaGreatDoor
open Go.RowKit Go.Lib Go.Shelf Tg

/-- What Check lets by leaves no less than nothing, and no more than there was. -/
theorem lk_left (e : El) : ∀ s d left, (lk e s d left).1 = true → 0 ≤ (lk e s d left).2 ∧ (lk e s d left).2 ≤ left := by
  refine El.ind (P := fun e => ∀ s d left, (lk e s d left).1 = true → 0 ≤ (lk e s d left).2 ∧ (lk e s d left).2 ≤ left) (fun sp nm atr tx ks ih => ?_) e
  intro s d left
  rw [lk]
  split
  · intro h; cases h
  · split
    · intro h; cases h
    · rename_i h0
      have : ∀ (m : List El) (l : Int), (∀ k ∈ m, ∀ s d left, (lk k s d left).1 = true → 0 ≤ (lk k s d left).2 ∧ (lk k s d left).2 ≤ left) → 0 ≤ l → (lks m sp (d + 1) l).1 = true → 0 ≤ (lks m sp (d + 1) l).2 ∧ (lks m sp (d + 1) l).2 ≤ l := by
        intro m
        induction m with
        | nil => intro l _ h0 _; rw [lks]; exact ⟨h0, Int.le_refl _⟩
        | cons k r ihm =>
          intro l hi h0
          rw [lks]
          split
          · rename_i h1
            intro h2
            have a := hi k (List.mem_cons_self ..) sp (d + 1) l h1
            have b := ihm (lk k sp (d + 1) l).2 (fun k hk => hi k (List.mem_cons_of_mem _ hk)) a.1 h2
            exact ⟨b.1, Int.le_trans b.2 a.2⟩
          · intro h; cases h
      intro h
      have := this ks _ ih (by omega) h
      exact ⟨this.1, by omega⟩
theorem lks_drop {l : List El} {k : Nat} (h : k < l.length) (s : ByteArray) (d : Nat) (left : Int) : lks (l.drop k) s d left =
    if (lk l[k] s d left).1 = true then lks (l.drop (k + 1)) s d (lk l[k] s d left).2 else (false, (lk l[k] s d left).2) := by
  rw [List.drop_eq_getElem_cons h, lks]
/-- What Check's inner function keeps: what is left, its box, all that w held below B. -/
structure Ck (B L N : Nat) (cs : Array Value) (w : World) (left : Int) (wr : World) : Prop where
  lf : wr.heap[L]? = some (.cells #[.int .i64 left] 3 (0, 0))
  kp : Kp B L w wr
  box : wr.heap[N]? = some (.cells cs 30 (0, 0))
theorem Ck.call {B L N : Nat} {cs : Array Value} {w wr w' : World} {left : Int} (h : Ck B L N cs w left wr) (hb : Below wr.heap.size wr w') (hB : B ≤ L) : Ck B L N cs w left w' :=
  ⟨(hb.block L (heap_lt h.lf)).trans h.lf, h.kp.trans (Kp.of hb (Nat.le_trans hB (Nat.le_of_lt (heap_lt h.lf)))), (hb.block N (heap_lt h.box)).trans h.box⟩
theorem Ck.step {B L N : Nat} {cs : Array Value} {w wr w' : World} {left left' : Int} (h : Ck B L N cs w left wr) (hl : w'.heap[L]? = some (.cells #[.int .i64 left'] 3 (0, 0))) (hk : Kp B L wr w') (hN : N ≠ L) : Ck B L N cs w left' w' :=
  ⟨hl, h.kp.trans hk, hk.block h.box hN (by decide)⟩
theorem Ck.alloc {B L N : Nat} {cs : Array Value} {w wr : World} {left : Int} (h : Ck B L N cs w left wr) (hB : B ≤ L) (o : Obj) : Ck B L N cs w left (wr.alloc o) := h.call ((Below.refl _ wr).alloc (Nat.le_refl _) o) hB
theorem Ck.drew {B L N : Nat} {cs : Array Value} {w wr : World} {left : Int} (h : Ck B L N cs w left wr) : Ck B L N cs w left wr.drew := ⟨h.lf, h.kp.drew, h.box⟩
theorem Ck.set {B L N : Nat} {cs : Array Value} {w wr : World} {left : Int} (h : Ck B L N cs w left wr) (hB : B ≤ L) (hN : N ≠ L) (u : Int) : Ck B L N cs w u (wr.setCell ⟨L, 0, none⟩ (.int .i64 u)) :=
  ⟨one_setCell h.lf, h.kp.trans ⟨(Below.refl _ _).setCell (p := ⟨L, 0, none⟩) hB _, (Lib.OthersKept.refl _ _ _).setCell ⟨L, 0, none⟩ rfl _⟩, (Below.heap_setCell _ _ _ _ hN).trans h.box⟩
theorem Ck.le {B L N : Nat} {cs : Array Value} {w wr : World} {left : Int} (h : Ck B L N cs w left wr) (hB : B ≤ L) : B ≤ wr.heap.size := Nat.le_trans hB (Nat.le_of_lt (heap_lt h.lf))
/-- The cells that the counting statement reads and writes. -/
theorem Ck.cells {B L N : Nat} {v0 v1 v2 v3 v4 : Value} {w wr : World} {left : Int} (h : Ck B L N #[v0, v1, v2, v3, v4] w left wr) :
    wr.cell? ⟨N, 0, none⟩ = some v0 ∧ wr.cell? ⟨N, 1, none⟩ = some v1 ∧ wr.cell? ⟨N, 2, none⟩ = some v2 ∧ wr.cell? ⟨N, 3, none⟩ = some v3 ∧ wr.cell? ⟨N, 4, none⟩ = some v4 ∧ wr.cell? ⟨L, 0, none⟩ = some (.int .i64 left) ∧ wr.frozen? ⟨L, 0, none⟩ = false ∧ Ck B L N #[v0, v1, v2, v3, v4] w left wr := by
  obtain ⟨h0, h1, h2, h3, h4⟩ := bx5 h.box
  exact ⟨h0, h1, h2, h3, h4, by rw [Lib.cell_of_heap h.lf]; rfl, Lib.frozen_of_heap h.lf 0, h⟩
theorem ckL {B L N : Nat} {cs : Array Value} {w W : World} {left : Int} (h : Ck B L N cs w left W) : W.cell? ⟨L, 0, none⟩ = some (.int .i64 left) ∧ W.frozen? ⟨L, 0, none⟩ = false :=
  ⟨by rw [Lib.cell_of_heap h.lf]; rfl, Lib.frozen_of_heap h.lf 0⟩
theorem wrap_in {x : Int} (h1 : -9223372036854775808 ≤ x) (h2 : x ≤ 9223372036854775807) : IntKind.i64.wrap x = x := by
  rw [IntKind.wrap_i64]; omega

/-- Check's answer. -/
def cdt (b : Bool) : Int := if b then 0 else 50
end Go.Proofs.YtlklmoohoobjjaaGreatDoor

namespace Go.Proofs.YtlklmoohoobjjaaGreatDoor
open Go.RowKit Go.Lib Go.Shelf Tg

noncomputable def eqv {α : Type} (x y : α) : Bool := @decide (x = y) (Classical.propDecidable _)
theorem eqv_yes {α : Type} {x y : α} (h : x = y) : eqv x y = true := by unfold eqv; exact (@decide_eq_true_iff _ (Classical.propDecidable _)).2 h
theorem eqv_no {α : Type} {x y : α} (h : x ≠ y) : eqv x y = false := by rw [Bool.eq_false_iff]; intro e; unfold eqv at e; exact h ((@decide_eq_true_iff _ (Classical.propDecidable _)).1 e)
theorem take_eq {α : Type} {l m : List α} {k : Nat} (hl : k < l.length) (hm : k < m.length) (h : l.take k = m.take k) (he : l[k] = m[k]) : l.take (k + 1) = m.take (k + 1) := by
  rw [List.take_succ_eq_append_getElem hl, List.take_succ_eq_append_getElem hm, h, he]
theorem text_ne {a b : ByteArray} (h : a ≠ b) : ¬ a.toList = b.toList := fun e => h (bytes_eq (by rw [ByteArray.toList_eq, ByteArray.toList_eq] at e; exact e))
theorem text_neb {a b : ByteArray} (h : a ≠ b) : (a.toList == b.toList) = false := by rw [beq_eq_false_iff_ne]; exact text_ne h

theorem bx2 {w : World} {b b' : Nat} {v0 v1 v2 v3 v4 u0 u1 u2 u3 u4 : Value} {t : TypeId} {W : World} (h : w.heap[b]? = some (.cells #[v0, v1, v2, v3, v4] t (0, 0))) (h' : w.heap[b']? = some (.cells #[u0, u1, u2, u3, u4] t (0, 0))) (hb : Below w.heap.size w W) :
    W.heap[b]? = some (.cells #[v0, v1, v2, v3, v4] t (0, 0)) ∧ W.heap[b']? = some (.cells #[u0, u1, u2, u3, u4] t (0, 0)) :=
  ⟨(hb.block _ (heap_lt h)).trans h, (hb.block _ (heap_lt h')).trans h'⟩
end Go.Proofs.YtlklmoohoobjjaaGreatDoor
