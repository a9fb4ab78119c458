/- The contract of stream.twin: an element of the same names and text; of its attributes and kids nothing is told. Condition: the element is not too much. -/
import Derived.Test.YtolnpfcncmcacaaGreatDoorZe
import Derived.Deep.RegionHeld3
import Derived.Deep.DeepCutAuto
import Derived.Deep.AppendLies
import Derived.Deep.RegionLaw
set_option maxRecDepth 100000
set_option maxHeartbeats 8000000
namespace Go.Proofs.YtolnpfcncmcacaaGreatDoor
open Go.RowKit Go.Lib Go.Shelf Tg
theorem cell_later8 {w w' : World} {b o : Nat} {v : Value} (hb : Below w.heap.size w w') (h : w.cell? ⟨b, o, none⟩ = some v) : w'.cell? ⟨b, o, none⟩ = some v := (hb.cell (p := ⟨b, o, none⟩) (World.block_lt_of_cell? _ _ h)).trans h
theorem tw_keep {N : Nat} {a b c : Value} {W W' : World} (hb : Below W.heap.size W W') (h : W.cell? ⟨N, 0, none⟩ = some a ∧ W.cell? ⟨N, 1, none⟩ = some b ∧ W.cell? ⟨N, 3, none⟩ = some c) :
    W'.cell? ⟨N, 0, none⟩ = some a ∧ W'.cell? ⟨N, 1, none⟩ = some b ∧ W'.cell? ⟨N, 3, none⟩ = some c :=
  ⟨cell_later8 hb h.1, cell_later8 hb h.2.1, cell_later8 hb h.2.2⟩
theorem tw_alloc {N : Nat} {a b c : Value} {W : World} (o : Obj) (h : W.cell? ⟨N, 0, none⟩ = some a ∧ W.cell? ⟨N, 1, none⟩ = some b ∧ W.cell? ⟨N, 3, none⟩ = some c) : (W.alloc o).cell? ⟨N, 0, none⟩ = some a ∧ (W.alloc o).cell? ⟨N, 1, none⟩ = some b ∧ (W.alloc o).cell? ⟨N, 3, none⟩ = some c := tw_keep ((Below.refl _ _).alloc (Nat.le_refl _) o) h
theorem tw_re {N : Nat} {a b c : Value} {W : World} {o o' : Obj} (hN : N < W.heap.size) (h : (W.alloc o).cell? ⟨N, 0, none⟩ = some a ∧ (W.alloc o).cell? ⟨N, 1, none⟩ = some b ∧ (W.alloc o).cell? ⟨N, 3, none⟩ = some c) : (W.alloc o').cell? ⟨N, 0, none⟩ = some a ∧ (W.alloc o').cell? ⟨N, 1, none⟩ = some b ∧ (W.alloc o').cell? ⟨N, 3, none⟩ = some c := by
  have k : ∀ (j : Nat), (W.alloc o').cell? ⟨N, j, none⟩ = (W.alloc o).cell? ⟨N, j, none⟩ := fun j =>
    (World.cell?_of_block (a := ⟨N, j, none⟩) (Below.heap_alloc W o' N hN)).trans (World.cell?_of_block (a := ⟨N, j, none⟩) (Below.heap_alloc W o N hN)).symm
  exact ⟨(k 0).trans h.1, (k 1).trans h.2.1, (k 3).trans h.2.2⟩
theorem tw_lt {N : Nat} {a b c : Value} {W W' : World} (hb : Below W.heap.size W W') (h : W.cell? ⟨N, 0, none⟩ = some a ∧ W.cell? ⟨N, 1, none⟩ = some b ∧ W.cell? ⟨N, 3, none⟩ = some c) : N < W'.heap.size := Nat.lt_of_lt_of_le (World.block_lt_of_cell? W _ h.1) hb.size
theorem tw_allocd {N : Nat} {a b c : Value} {W : World} (o : Obj) (h : W.cell? ⟨N, 0, none⟩ = some a ∧ W.cell? ⟨N, 1, none⟩ = some b ∧ W.cell? ⟨N, 3, none⟩ = some c) : (W.alloc o).drew.cell? ⟨N, 0, none⟩ = some a ∧ (W.alloc o).drew.cell? ⟨N, 1, none⟩ = some b ∧ (W.alloc o).drew.cell? ⟨N, 3, none⟩ = some c := tw_alloc o h
theorem tw_set {N T i : Nat} {a b c u : Value} {W : World} (hT : N ≠ T) (h : W.cell? ⟨N, 0, none⟩ = some a ∧ W.cell? ⟨N, 1, none⟩ = some b ∧ W.cell? ⟨N, 3, none⟩ = some c) : (W.setCell ⟨T, i, none⟩ u).cell? ⟨N, 0, none⟩ = some a ∧ (W.setCell ⟨T, i, none⟩ u).cell? ⟨N, 1, none⟩ = some b ∧ (W.setCell ⟨T, i, none⟩ u).cell? ⟨N, 3, none⟩ = some c := by
  have k : ∀ (j : Nat), (W.setCell ⟨T, i, none⟩ u).cell? ⟨N, j, none⟩ = W.cell? ⟨N, j, none⟩ := fun j => World.cell?_setCell_other _ _ _ _ (fun e2 => hT (by cases e2; rfl))
  exact ⟨(k 0).trans h.1, (k 1).trans h.2.1, (k 3).trans h.2.2⟩
def TZ (T : Nat) (W : World) : Prop := W.heap[T]? = some (.cells #[.string ⟨#[]⟩, .string ⟨#[]⟩, .slice none 0 0, .string ⟨#[]⟩, .slice none 0 0] 48 (0, 0))
theorem tz_new {W w' : World} (hb : Below (W.alloc (.cells #[.string ⟨#[]⟩, .string ⟨#[]⟩, .slice none 0 0, .string ⟨#[]⟩, .slice none 0 0] 48)).heap.size (W.alloc (.cells #[.string ⟨#[]⟩, .string ⟨#[]⟩, .slice none 0 0, .string ⟨#[]⟩, .slice none 0 0] 48)) w') : TZ W.heap.size w' :=
  (hb.block _ (by simp)).trans (box_new W _ _)
theorem tz_drew {W w' : World} (hb : Below (W.alloc (.cells #[.string ⟨#[]⟩, .string ⟨#[]⟩, .slice none 0 0, .string ⟨#[]⟩, .slice none 0 0] 48)).drew.heap.size (W.alloc (.cells #[.string ⟨#[]⟩, .string ⟨#[]⟩, .slice none 0 0, .string ⟨#[]⟩, .slice none 0 0] 48)).drew w') : TZ W.heap.size w' :=
  (hb.block _ (by show _ < (W.alloc _).heap.size; simp)).trans (box_new W _ _)
theorem tz_keep {T : Nat} {W w' : World} (h : TZ T W) (hb : Below W.heap.size W w') : TZ T w' := (hb.block _ (heap_lt h)).trans h
theorem tz_cells {T : Nat} {w' : World} (h : TZ T w') : w'.cell? ⟨T, 0, none⟩ = some (.string ⟨#[]⟩) ∧ w'.cell? ⟨T, 1, none⟩ = some (.string ⟨#[]⟩) ∧ w'.cell? ⟨T, 2, none⟩ = some (.slice none 0 0) ∧ w'.cell? ⟨T, 3, none⟩ = some (.string ⟨#[]⟩) ∧ w'.cell? ⟨T, 4, none⟩ = some (.slice none 0 0) ∧ (w'.frozen? ⟨T, 0, none⟩ = false ∧ w'.frozen? ⟨T, 1, none⟩ = false ∧ w'.frozen? ⟨T, 2, none⟩ = false ∧ w'.frozen? ⟨T, 3, none⟩ = false ∧ w'.frozen? ⟨T, 4, none⟩ = false) := by
  obtain ⟨h0, h1, h2, h3, h4⟩ := bx5 h
  exact ⟨h0, h1, h2, h3, h4, Lib.frozen_of_heap h 0, Lib.frozen_of_heap h 1, Lib.frozen_of_heap h 2, Lib.frozen_of_heap h 3, Lib.frozen_of_heap h 4⟩
structure Tw (C : Array Value) (w W : World) : Prop where
  bel : Below w.heap.size w W
  eb : W.heap[w.heap.size]? = some (.cells C 48 (0, 0))
  rb : W.heap[w.heap.size + 1]? = some (.cells #[.string ⟨#[]⟩, .string ⟨#[]⟩, .slice none 0 0, .string ⟨#[]⟩, .slice none 0 0] 48 (0, 0))
theorem Tw.st {C : Array Value} {w W w' : World} (h : Tw C w W) (hb : Below W.heap.size W w') : Tw C w w' := ⟨h.bel.trans (hb.mono h.bel.size), (hb.block _ (heap_lt h.eb)).trans h.eb, (hb.block _ (heap_lt h.rb)).trans h.rb⟩
theorem Tw.al {C : Array Value} {w W : World} (h : Tw C w W) (o : Obj) : Tw C w (W.alloc o) := h.st ((Below.refl _ W).alloc (Nat.le_refl _) o)
theorem Tw.stA {C : Array Value} {w W w' : World} {o : Obj} (h : Tw C w W) (hb : Below (W.alloc o).heap.size (W.alloc o) w') : Tw C w w' := (h.al o).st hb
theorem Tw.dr {C : Array Value} {w W : World} (h : Tw C w W) : Tw C w W.drew := ⟨h.bel.drew, h.eb, h.rb⟩
theorem Tw.stD {C : Array Value} {w W w' : World} (h : Tw C w W) (hb : Below W.drew.heap.size W.drew w') : Tw C w w' := h.dr.st hb
theorem Tw.stAD {C : Array Value} {w W w' : World} {o : Obj} (h : Tw C w W) (hb : Below (W.alloc o).drew.heap.size (W.alloc o).drew w') : Tw C w w' := (h.al o).dr.st hb
theorem tw_fin1 {C : Array Value} {sp nm tx : ByteArray} {w W : World} (h : Tw C w W) : Tw C w (W.alloc (.cells #[.string sp, .string nm, .slice none 0 0, .string tx, .slice none 0 0] 48)) ∧ (W.alloc (.cells #[.string sp, .string nm, .slice none 0 0, .string tx, .slice none 0 0] 48)).heap[W.heap.size]? = some (.cells #[.string sp, .string nm, .slice none 0 0, .string tx, .slice none 0 0] 48 (0, 0)) ∧ w.heap.size + 1 < W.heap.size := ⟨h.al _, box_new W _ _, heap_lt h.rb⟩
theorem tw_fin2 {C : Array Value} {sp nm tx : ByteArray} {w W : World} {T : Nat} (h : Tw C w W) (t : TZ T W) (hT : w.heap.size + 1 < T) :
    Tw C w (((((W.setCell ⟨T, 0, none⟩ (.string sp)).setCell ⟨T, 1, none⟩ (.string nm)).setCell ⟨T, 2, none⟩ (.slice none 0 0)).setCell ⟨T, 3, none⟩ (.string tx)).setCell ⟨T, 4, none⟩ (.slice none 0 0)) ∧
    (((((W.setCell ⟨T, 0, none⟩ (.string sp)).setCell ⟨T, 1, none⟩ (.string nm)).setCell ⟨T, 2, none⟩ (.slice none 0 0)).setCell ⟨T, 3, none⟩ (.string tx)).setCell ⟨T, 4, none⟩ (.slice none 0 0)).heap[T]? = some (.cells #[.string sp, .string nm, .slice none 0 0, .string tx, .slice none 0 0] 48 (0, 0)) ∧ w.heap.size + 1 < T := by
  have hle : w.heap.size ≤ T := by omega
  have t' : W.heap[T]? = _ := t
  refine ⟨⟨((((h.bel.setCell (p := ⟨T, 0, none⟩) hle _).setCell (p := ⟨T, 1, none⟩) hle _).setCell (p := ⟨T, 2, none⟩) hle _).setCell (p := ⟨T, 3, none⟩) hle _).setCell (p := ⟨T, 4, none⟩) hle _, ?_, ?_⟩, ?_, hT⟩
  · have k : ∀ (W : World) (i : Nat) (u : Value), (W.setCell ⟨T, i, none⟩ u).heap[w.heap.size]? = W.heap[w.heap.size]? := fun W i u => Below.heap_setCell W ⟨T, i, none⟩ u _ (by show w.heap.size ≠ T; omega)
    rw [k, k, k, k, k]; exact h.eb
  · have k : ∀ (W : World) (i : Nat) (u : Value), (W.setCell ⟨T, i, none⟩ u).heap[w.heap.size + 1]? = W.heap[w.heap.size + 1]? := fun W i u => Below.heap_setCell W ⟨T, i, none⟩ u _ (by show w.heap.size + 1 ≠ T; omega)
    rw [k, k, k, k, k]; exact h.rb
  · simp [World.setCell, Array.getElem?_modify, t']
theorem info8a : (Tryz.prog.info? 81).map (fun i => (i.zero, i.size, i.bytes)) = some (some (.agg #[.string ⟨#[]⟩, .string ⟨#[]⟩]), 2, 32) := by kernel_rfl
theorem info8e : (Tryz.prog.info? 48).map (fun i => (i.zero, i.size, i.bytes)) = some (some (.agg #[.string ⟨#[]⟩, .string ⟨#[]⟩, .slice none 0 0, .string ⟨#[]⟩, .slice none 0 0]), 5, 96) := by kernel_rfl
structure Tq (C : Array Value) (sp nm tx : ByteArray) (w : World) (T : Nat) (av kv : Value) (W : World) : Prop where
  bel : Below w.heap.size w W
  eb : W.heap[w.heap.size]? = some (.cells C 48 (0, 0))
  rb : W.heap[w.heap.size + 1]? = some (.cells #[.string ⟨#[]⟩, .string ⟨#[]⟩, .slice none 0 0, .string ⟨#[]⟩, .slice none 0 0] 48 (0, 0))
  tb : W.heap[T]? = some (.cells #[.string sp, .string nm, av, .string tx, kv] 48 (0, 0))
  lt : w.heap.size + 1 < T
theorem Tq.st {C : Array Value} {sp nm tx : ByteArray} {w W w' : World} {T : Nat} {av kv : Value} (h : Tq C sp nm tx w T av kv W) (hb : Below W.heap.size W w') : Tq C sp nm tx w T av kv w' :=
  ⟨h.bel.trans (hb.mono h.bel.size), (hb.block _ (heap_lt h.eb)).trans h.eb, (hb.block _ (heap_lt h.rb)).trans h.rb, (hb.block _ (heap_lt h.tb)).trans h.tb, h.lt⟩
theorem Tq.al {C : Array Value} {sp nm tx : ByteArray} {w W : World} {T : Nat} {av kv : Value} (h : Tq C sp nm tx w T av kv W) (o : Obj) : Tq C sp nm tx w T av kv (W.alloc o) := h.st ((Below.refl _ W).alloc (Nat.le_refl _) o)
theorem Tq.dr {C : Array Value} {sp nm tx : ByteArray} {w W : World} {T : Nat} {av kv : Value} (h : Tq C sp nm tx w T av kv W) : Tq C sp nm tx w T av kv W.drew := ⟨h.bel.drew, h.eb, h.rb, h.tb, h.lt⟩
theorem Tq.gr {C : Array Value} {sp nm tx : ByteArray} {w W w' : World} {T : Nat} {av kv : Value} {ob : Option Nat} (h : Tq C sp nm tx w T av kv W) (hg : W.grownBy w' ob) (ho : ∀ b, ob = some b → T < b) : Tq C sp nm tx w T av kv w' := by
  have hl := h.lt
  have hne : ∀ b, b ≤ T → some b ≠ ob := fun b hb e => by have := ho b e.symm; omega
  exact ⟨h.bel.grown hg h.bel.size (fun b e => by have := ho b e; omega), (hg.block _ (heap_lt h.eb) (hne _ (by omega))).trans h.eb, (hg.block _ (heap_lt h.rb) (hne _ (by omega))).trans h.rb, (hg.block _ (heap_lt h.tb) (hne _ (Nat.le_refl _))).trans h.tb, h.lt⟩
theorem Tq.putA {C : Array Value} {sp nm tx : ByteArray} {w W : World} {T : Nat} {av kv : Value} (h : Tq C sp nm tx w T av kv W) (u : Value) : Tq C sp nm tx w T u kv (W.setCell ⟨T, 2, none⟩ u) := by
  have hl := h.lt
  exact ⟨h.bel.setCell (by show w.heap.size ≤ T; omega) u, (Below.heap_setCell _ _ _ _ (by show w.heap.size ≠ T; omega)).trans h.eb, (Below.heap_setCell _ _ _ _ (by show w.heap.size + 1 ≠ T; omega)).trans h.rb, by simp [World.setCell, Array.getElem?_modify, h.tb], h.lt⟩
theorem Tq.putK {C : Array Value} {sp nm tx : ByteArray} {w W : World} {T : Nat} {av kv : Value} (h : Tq C sp nm tx w T av kv W) (u : Value) : Tq C sp nm tx w T av u (W.setCell ⟨T, 4, none⟩ u) := by
  have hl := h.lt
  exact ⟨h.bel.setCell (by show w.heap.size ≤ T; omega) u, (Below.heap_setCell _ _ _ _ (by show w.heap.size ≠ T; omega)).trans h.eb, (Below.heap_setCell _ _ _ _ (by show w.heap.size + 1 ≠ T; omega)).trans h.rb, by simp [World.setCell, Array.getElem?_modify, h.tb], h.lt⟩
def Rw (T : Nat) (E : TypeId) (k : Nat) (a : Option Addr) (n c : Nat) (W : World) : Prop := ∃ xs, W.ownsRow (T + 1) E k (.slice a n c) n xs
theorem Rw.st {T : Nat} {E : TypeId} {k n c : Nat} {a : Option Addr} {W w' : World} (h : Rw T E k a n c W) (hb : Below W.heap.size W w') : Rw T E k a n c w' := by
  obtain ⟨xs, h1, h2⟩ := h
  refine ⟨xs, h1, ?_⟩
  rcases h2 with hn | ⟨g, cap, cur, hv, hbg, hg, rest⟩
  · exact .inl hn
  · exact .inr ⟨g, cap, cur, hv, hbg, (hb.block g (heap_lt hg)).trans hg, rest⟩
theorem Rw.dr {T : Nat} {E : TypeId} {k n c : Nat} {a : Option Addr} {W : World} (h : Rw T E k a n c W) : Rw T E k a n c W.drew := h
theorem Rw.lt {T : Nat} {E : TypeId} {k n c : Nat} {a : Option Addr} {W : World} (h : Rw T E k a n c W) : ∀ b, (Value.slice a n c).ownBlock = some b → T < b := by
  obtain ⟨xs, h⟩ := h
  exact fun b e => (h.lt b e).1
theorem Rw.put {T i : Nat} {E : TypeId} {k n c : Nat} {a : Option Addr} {W : World} {u : Value} (h : Rw T E k a n c W) : Rw T E k a n c (W.setCell ⟨T, i, none⟩ u) := by
  have hl := h.lt
  obtain ⟨xs, h⟩ := h
  exact ⟨xs, ownsRow_setCell_other h (fun e => Nat.lt_irrefl _ (hl _ e)) u⟩
def twinP (e : El) : Prop := ∀ (B : Nat) (w : World) (v : Value), In B w e v → B ≤ w.heap.size → wt e ≤ 20000 →
    Calls Tryz.prog 40 #[v] w fun r w' => (∃ a1 n1 c1 a2 n2 c2, r = .returned (.agg #[.string e.sp, .string e.nm, .slice a1 n1 c1, .string e.tx, .slice a2 n2 c2])) ∧ Below w.heap.size w w'
theorem twin_any8 (e : El) : twinP e := by
  refine El.ind (P := twinP) (fun sp nm atr tx ks ih => ?_) e
  intro B w v hin hB hwt
  generalize hE : El.mk sp nm atr tx ks = E at hin hwt
  obtain rfl : E.ks = ks := by rw [← hE]; rfl
  clear hE
  obtain ⟨aA, cA, aK, cK, rfl, ⟨hq1, hq2⟩, hkm, hat, hks⟩ := hin.out
  have hw := wt_eq E
  have hwk := wts_len E.ks
  have h1 : E.sp.size ≤ 20000 := by omega
  have h2 : E.nm.size ≤ 20000 := by omega
  have h3 : E.tx.size ≤ 20000 := by omega
  have HAV : Hid (∀ a ∈ E.atr, a.1.size ≤ 20000 ∧ a.2.size ≤ 20000) := fun a ha => by have := wtA_mem ha; omega
  have HKW : Hid (∀ k ∈ E.ks, wt k ≤ 20000) := fun k hk => by have := wts_mem hk; omega
  have hnk : E.ks.length ≤ 20000 := by omega
  have hna : E.atr.length ≤ 20000 := by omega
  have IH := Lib.hid ih
  have HBB := Lib.hid hB
  have HAT := Lib.hid hat
  have HKS := Lib.hid hks
  clear hw hwk hin hB hat hks ih hq1 hq2 hwt hkm sp nm tx atr
  generalize E.sp = sp at *
  generalize E.nm = nm at *
  generalize E.tx = tx at *
  generalize hnA : E.atr.length = nA at *
  generalize hnK : E.ks.length = nK at *
  have C1 := Lib.hid (fun W => clone_any sp W (by omega))
  have C2 := Lib.hid (fun W => clone_any nm W (by omega))
  have C3 := Lib.hid (fun W => clone_any tx W (by omega))
  have HW0 : Hid (Below w.heap.size w ((w.alloc (.cells #[.string sp, .string nm, .slice aA nA cA, .string tx, .slice aK nK cK] 48)).alloc (.cells #[.string ⟨#[]⟩, .string ⟨#[]⟩, .slice none 0 0, .string ⟨#[]⟩, .slice none 0 0] 48))) := ((Below.refl _ w).alloc (Nat.le_refl _) _).alloc (by simp) _
  have HX0 : Hid (((w.alloc (.cells #[.string sp, .string nm, .slice aA nA cA, .string tx, .slice aK nK cK] 48)).alloc (.cells #[.string ⟨#[]⟩, .string ⟨#[]⟩, .slice none 0 0, .string ⟨#[]⟩, .slice none 0 0] 48)).heap[w.heap.size]? = _) := (Below.heap_alloc _ _ _ (by simp)).trans (box_new w _ _)
  have HY0 : Hid (((w.alloc (.cells #[.string sp, .string nm, .slice aA nA cA, .string tx, .slice aK nK cK] 48)).alloc (.cells #[.string ⟨#[]⟩, .string ⟨#[]⟩, .slice none 0 0, .string ⟨#[]⟩, .slice none 0 0] 48)).heap[w.heap.size + 1]? = some (.cells #[.string ⟨#[]⟩, .string ⟨#[]⟩, .slice none 0 0, .string ⟨#[]⟩, .slice none 0 0] 48 (0, 0))) := by
    have := box_new (w.alloc (.cells #[.string sp, .string nm, .slice aA nA cA, .string tx, .slice aK nK cK] 48)) #[.string ⟨#[]⟩, .string ⟨#[]⟩, .slice none 0 0, .string ⟨#[]⟩, .slice none 0 0] 48
    show _ = _
    simpa using this
  go_enter Tryz.func40, Tryz.ntmps40
  go_upto_region 1 with fail
  go_cut [3] (fun s3 wx => ∃ T : Nat, s3 = .pointer (some ⟨T, 0, none⟩) ∧ Hid (Tw #[.string sp, .string nm, .slice aA nA cA, .string tx, .slice aK nK cK] w wx ∧ wx.heap[T]? = some (.cells #[.string sp, .string nm, .slice none 0 0, .string tx, .slice none 0 0] 48 (0, 0)) ∧ w.heap.size + 1 < T))
  case first =>
    generalize (w.alloc (.cells #[.string sp, .string nm, .slice aA nA cA, .string tx, .slice aK nK cK] 48)).alloc (.cells #[.string ⟨#[]⟩, .string ⟨#[]⟩, .slice none 0 0, .string ⟨#[]⟩, .slice none 0 0] 48) = W0 at HW0 HX0 HY0 ⊢
    obtain ⟨x0, x1, x2, x3, x4⟩ := bx5 HX0.out
    have hz0 : w.heap.size + 1 < W0.heap.size := heap_lt HY0.out
    have g0 : Tw #[.string sp, .string nm, .slice aA nA cA, .string tx, .slice aK nK cK] w W0 := ⟨HW0.out, HX0.out, HY0.out⟩
    have s0 : W0.cell? ⟨w.heap.size, 0, none⟩ = some (.string sp) ∧ W0.cell? ⟨w.heap.size, 1, none⟩ = some (.string nm) ∧ W0.cell? ⟨w.heap.size, 3, none⟩ = some (.string tx) := ⟨x0, x1, x3⟩
    have s1 : W0.drew.cell? ⟨w.heap.size, 0, none⟩ = some (.string sp) ∧ W0.drew.cell? ⟨w.heap.size, 1, none⟩ = some (.string nm) ∧ W0.drew.cell? ⟨w.heap.size, 3, none⟩ = some (.string tx) := ⟨x0, x1, x3⟩
    have HB0 : Hid (Below w.heap.size w W0.drew) := HW0.out.drew
    go_region_held3 (fun w' => w'.cell? ⟨w.heap.size, 0, none⟩ = some (.string sp) ∧ w'.cell? ⟨w.heap.size, 1, none⟩ = some (.string nm) ∧ w'.cell? ⟨w.heap.size, 3, none⟩ = some (.string tx))
      (first | with_reducible exact s1 | with_reducible exact tw_keep hb (by assumption) | with_reducible exact tw_alloc _ s1 | with_reducible exact tw_allocd _ s0 | with_reducible exact tw_alloc _ (by assumption) | with_reducible exact tw_re (by assumption) (by assumption) | with_reducible exact tw_set (by omega) (tw_set (by omega) (tw_set (by omega) (tw_set (by omega) (tw_set (by omega) (by assumption))))))
      (first
        | ((go_at_call 33; (with_reducible refine (C1.out _).mono ?_); rintro e w1 ⟨rfl, hb⟩; have hz1 := hb.size; (first | (with_reducible have g1 := Tw.st g0 hb) | (with_reducible have g1 := Tw.stA g0 hb) | (with_reducible have g1 := Tw.stD g0 hb) | (with_reducible have g1 := Tw.stAD g0 hb)); have hn1 : w.heap.size < w1.heap.size := tw_lt hb (by assumption); first | (have t1 := tz_new hb; obtain ⟨k0, k1, k2, k3, k4, l0, l1, l2, l3, l4⟩ := tz_cells t1) | (have t1 := tz_drew hb; obtain ⟨k0, k1, k2, k3, k4, l0, l1, l2, l3, l4⟩ := tz_cells t1) | skip))
        | ((go_at_call 33; (with_reducible refine (C2.out _).mono ?_); rintro e w2 ⟨rfl, hb⟩; have hz2 := hb.size; (first | (with_reducible have g2 := Tw.st g1 hb) | (with_reducible have g2 := Tw.stA g1 hb) | (with_reducible have g2 := Tw.stD g1 hb) | (with_reducible have g2 := Tw.stAD g1 hb) | (with_reducible have g2 := Tw.st g0 hb) | (with_reducible have g2 := Tw.stA g0 hb) | (with_reducible have g2 := Tw.stD g0 hb) | (with_reducible have g2 := Tw.stAD g0 hb)); have hn2 : w.heap.size < w2.heap.size := tw_lt hb (by assumption); first | (have t2 := tz_new hb; obtain ⟨k0, k1, k2, k3, k4, l0, l1, l2, l3, l4⟩ := tz_cells t2) | (have t2 := tz_drew hb; obtain ⟨k0, k1, k2, k3, k4, l0, l1, l2, l3, l4⟩ := tz_cells t2) | (have t2 := tz_keep t1 hb; obtain ⟨k0, k1, k2, k3, k4, l0, l1, l2, l3, l4⟩ := tz_cells t2) | skip))
        | ((go_at_call 33; (with_reducible refine (C3.out _).mono ?_); rintro e w3 ⟨rfl, hb⟩; have hz3 := hb.size; (first | (with_reducible have g3 := Tw.st g2 hb) | (with_reducible have g3 := Tw.stA g2 hb) | (with_reducible have g3 := Tw.stD g2 hb) | (with_reducible have g3 := Tw.stAD g2 hb) | (with_reducible have g3 := Tw.st g1 hb) | (with_reducible have g3 := Tw.stA g1 hb) | (with_reducible have g3 := Tw.stD g1 hb) | (with_reducible have g3 := Tw.stAD g1 hb) | (with_reducible have g3 := Tw.st g0 hb) | (with_reducible have g3 := Tw.stA g0 hb) | (with_reducible have g3 := Tw.stD g0 hb) | (with_reducible have g3 := Tw.stAD g0 hb)); have hn3 : w.heap.size < w3.heap.size := tw_lt hb (by assumption); first | (have t3 := tz_new hb; obtain ⟨k0, k1, k2, k3, k4, l0, l1, l2, l3, l4⟩ := tz_cells t3) | (have t3 := tz_drew hb; obtain ⟨k0, k1, k2, k3, k4, l0, l1, l2, l3, l4⟩ := tz_cells t3) | (have t3 := tz_keep t2 hb; obtain ⟨k0, k1, k2, k3, k4, l0, l1, l2, l3, l4⟩ := tz_cells t3) | (have t3 := tz_keep t1 hb; obtain ⟨k0, k1, k2, k3, k4, l0, l1, l2, l3, l4⟩ := tz_cells t3) | skip)))
    all_goals
      first
        | (have HF := Lib.hid (tw_fin2 (sp := sp) (nm := nm) (tx := tx) g3 t3 (heap_lt g2.rb)))
        | (have HF := Lib.hid (tw_fin2 (sp := sp) (nm := nm) (tx := tx) g3 t3 (heap_lt g1.rb)))
        | (have HF := Lib.hid (tw_fin2 (sp := sp) (nm := nm) (tx := tx) g3 t3 (heap_lt g0.rb)))
        | (have HF := Lib.hid (tw_fin1 (sp := sp) (nm := nm) (tx := tx) g3))
      go_wp2_with fail
      go_meet
      exact ⟨_, rfl, HF.out⟩
  case rest =>
    obtain ⟨T, rfl, HF⟩ := hcut
    clear HX0 HY0 HW0 C1 C2 C3 h1 h2 h3
    have HQ0 : Hid (Tq #[.string sp, .string nm, .slice aA nA cA, .string tx, .slice aK nK cK] sp nm tx w T (.slice none 0 0) (.slice none 0 0) wc) := ⟨HF.out.1.bel, HF.out.1.eb, HF.out.1.rb, HF.out.2.1, HF.out.2.2⟩
    have HR0 : Hid (Rw T 81 2 none 0 0 wc) := ⟨[], World.ownsRow_nil _ _ _ _⟩
    obtain ⟨x0, x1, x2, x3, x4⟩ := bx5 HF.out.1.eb
    clear HF
    go_wp2_with fail
    go_loopw [21] (fun i wr => ∃ (k : Nat) (a : Option Addr) (c : Nat), i = .int .i64 k ∧ k ≤ nA ∧ Hid (Tq #[.string sp, .string nm, .slice aA nA cA, .string tx, .slice aK nK cK] sp nm tx w T (.slice a k c) (.slice none 0 0) wr) ∧ Hid (Rw T 81 2 a k c wr)) (fun i _ => nA - (RowKit.intOf i).toNat)
    case atStart => exact ⟨0, none, 0, rfl, Nat.zero_le _, HQ0.out, HR0.out⟩
    case round =>
      clear HQ0 HR0 x0 x1 x2 x3 x4
      obtain ⟨k, a, c, rfl, hk, HQ, HR⟩ := hrel
      by_cases hlt : k < nA
      · have hlt2 : k < E.atr.length := by omega
        obtain ⟨b, o, rfl, hb, y0, y1⟩ := (HAT.out.below (HQ.out.bel.mono HBB.out)) k hlt2
        obtain ⟨g1, g2⟩ := HAV.out _ (List.getElem_mem hlt2)
        generalize E.atr[k] = p at y0 y1 g1 g2
        obtain ⟨p1, p2⟩ := p
        simp only at y0 y1 g1 g2
        have C1 := Lib.hid (fun W => clone_any p1 W (by omega))
        have C2 := Lib.hid (fun W => clone_any p2 W (by omega))
        have HB0 : Hid (Below wr.heap.size wr (wr.alloc (.cells #[.string p1, .string p2] 81))) := (Below.refl _ wr).alloc (Nat.le_refl _) _
        have HX0 := Lib.hid (box_new wr #[.string p1, .string p2] 81)
        have HQ1 := Lib.hid (HQ.out.st HB0.out)
        have HR1 := Lib.hid (HR.out.st HB0.out)
        have hl1 : T < wr.heap.size := heap_lt HQ.out.tb
        go_wp2_with fail
        generalize wr.alloc (.cells #[.string p1, .string p2] 81) = W1 at HX0 HQ1 HR1 ⊢
        have t1 : W1.cell? ⟨T, 2, none⟩ = some (.slice a k c) := (bx5 HQ1.out.tb).2.2.1
        have a0 : W1.cell? ⟨wr.heap.size, 0, none⟩ = some (.string p1) := by rw [Lib.cell_of_heap HX0.out]; rfl
        have a1 : W1.cell? ⟨wr.heap.size, 1, none⟩ = some (.string p2) := by rw [Lib.cell_of_heap HX0.out]; rfl
        clear HX0 HB0 HQ HR y0 y1 hb
        obtain ⟨i0, hi0, hz0, hz1, hz2⟩ := info_parts info8a
        go_region_law (first | (refine step_append_lies _ (by rfl) _ _ _ (by rfl) (T + 1) 81 i0 _ 2 32 Tryz.underlying46 hi0 hz0 hz1 hz2 rfl (by omega) (.slice a k c) k xs (by rfl) (HOW4.out.alloc _) ⟨w4.heap.size, 0, none⟩ 1 1 [.string p1, .string p2] (by rfl) (by rfl) (World.news_of_block (cs := #[.string p1, .string p2]) (t := 81) (fr := (0, 0)) (heap_alloc_new w4 _)) (by simp [Value.oneCell']) (by omega) (by unfold maxLen; omega) (by omega) ?hb (w4.heap.size + 1) (by simp) ?_; (case hb => (have := heap_lt HQ4.out.tb; simp; omega)); intro g cap w5 hown hgrow hat hlt5; have HQ5 := Lib.hid ((HQ4.out.al _).gr hgrow (fun b e => (HOW4.out.lt b e).1)); have t5 : w5.cell? ⟨T, 2, none⟩ = some (.slice a k c) := (bx5 HQ5.out.tb).2.2.1; have f5 : w5.frozen? ⟨T, 2, none⟩ = false := Lib.frozen_of_heap HQ5.out.tb 2) | (go_simp; go_at_call 33; (with_reducible refine (C1.out _).mono ?_); rintro e w3 ⟨rfl, hb3⟩; have HQ3 := Lib.hid ((HQ1.out.dr).st hb3); have HR3 := Lib.hid (HR1.out.dr.st hb3); have a3 : w3.cell? ⟨wr.heap.size, 1, none⟩ = some (.string p2) := cell_later8 hb3 a1; have t3 : w3.cell? ⟨T, 2, none⟩ = some (.slice a k c) := (bx5 HQ3.out.tb).2.2.1) | (go_simp; go_at_call 33; (with_reducible refine (C2.out _).mono ?_); rintro e w4 ⟨rfl, hb4⟩; have HQ4 := Lib.hid (HQ3.out.st hb4); obtain ⟨xs, hxs⟩ := HR3.out.st hb4; have HOW4 := Lib.hid hxs; clear hxs; have t4 : w4.cell? ⟨T, 2, none⟩ = some (.slice a k c) := (bx5 HQ4.out.tb).2.2.1; have t4b := cell_alloc t4 (.cells #[.string p1, .string p2] 81)))
        all_goals
          have HRN : Hid (Rw T 81 2 (some ⟨g, 0, none⟩) (k + 1) cap (w5.setCell ⟨T, 2, none⟩ (.slice (some ⟨g, 0, none⟩) (k + 1) cap))) := Rw.put ⟨_, hown⟩
          have HQN := Lib.hid (HQ5.out.putA (.slice (some ⟨g, 0, none⟩) (k + 1) cap))
          clear hown hgrow hat hlt5 t5 f5 HQ5
          generalize w5.setCell ⟨T, 2, none⟩ (.slice (some ⟨g, 0, none⟩) (k + 1) cap) = W6 at HRN HQN ⊢
          go_wp2_with fail
          go_roundw
          case rel => exact ⟨k + 1, _, _, by go_num, by omega, HQN.out, HRN.out⟩
          case measure => simp [RowKit.intOf]; omega
      · obtain ⟨x0, x1, x2, x3, x4⟩ := bx5 HQ.out.eb
        have HR1 : Hid (Rw T 48 5 none 0 0 wr) := ⟨[], World.ownsRow_nil _ _ _ _⟩
        clear HR
        go_wp2_with fail
        go_loopw [41] (fun i wq => ∃ (k2 : Nat) (a2 : Option Addr) (c2 : Nat), i = .int .i64 k2 ∧ k2 ≤ nK ∧ Hid (Tq #[.string sp, .string nm, .slice aA nA cA, .string tx, .slice aK nK cK] sp nm tx w T (.slice a k c) (.slice a2 k2 c2) wq) ∧ Hid (Rw T 48 5 a2 k2 c2 wq)) (fun i _ => nK - (RowKit.intOf i).toNat)
        case atStart => exact ⟨0, none, 0, rfl, Nat.zero_le _, HQ.out, HR1.out⟩
        case round =>
          clear HQ HR1 x0 x1 x2 x3 x4
          obtain ⟨k2, a2, c2, rfl, hk2, HQ, HR⟩ := hrel
          by_cases hlt : k2 < nK
          · have hlt2 : k2 < E.ks.length := by omega
            obtain ⟨b, o, ka1, kc1, ka2, kc2, rfl, hb, hf5, hkin⟩ := (HKS.out.below (HQ.out.bel.mono HBB.out)) k2 hlt2
            obtain ⟨y0, y1, y2, y3, y4⟩ := hf5
            have hkw := HKW.out _ (List.getElem_mem hlt2)
            have hik := IH.out _ (List.getElem_mem hlt2)
            generalize E.ks[k2] = K at y0 y1 y2 y3 y4 hkin hkw hik
            have HB0 : Hid (Below wr.heap.size wr (wr.alloc (.cells #[.string K.sp, .string K.nm, .slice ka1 K.atr.length kc1, .string K.tx, .slice ka2 K.ks.length kc2] 48))) := (Below.refl _ wr).alloc (Nat.le_refl _) _
            have HX0 := Lib.hid (box_new wr #[.string K.sp, .string K.nm, .slice ka1 K.atr.length kc1, .string K.tx, .slice ka2 K.ks.length kc2] 48)
            have HQ1 := Lib.hid (HQ.out.st HB0.out)
            have HR1 := Lib.hid (HR.out.st HB0.out)
            have hl1 : T < wr.heap.size := heap_lt HQ.out.tb
            have HC : Hid (Calls Tryz.prog 40 #[.agg #[.string K.sp, .string K.nm, .slice ka1 K.atr.length kc1, .string K.tx, .slice ka2 K.ks.length kc2]] (wr.alloc (.cells #[.string K.sp, .string K.nm, .slice ka1 K.atr.length kc1, .string K.tx, .slice ka2 K.ks.length kc2] 48)).drew fun r w' => (∃ a1 n1 c1 a2 n2 c2, r = .returned (.agg #[.string K.sp, .string K.nm, .slice a1 n1 c1, .string K.tx, .slice a2 n2 c2])) ∧ Below (wr.alloc (.cells #[.string K.sp, .string K.nm, .slice ka1 K.atr.length kc1, .string K.tx, .slice ka2 K.ks.length kc2] 48)).drew.heap.size (wr.alloc (.cells #[.string K.sp, .string K.nm, .slice ka1 K.atr.length kc1, .string K.tx, .slice ka2 K.ks.length kc2] 48)).drew w') :=
              hik B _ _ (hkin.stay ((HB0.out.drew).mono (Nat.le_trans HBB.out HQ.out.bel.size))) (Nat.le_trans HBB.out (Nat.le_trans HQ.out.bel.size HB0.out.size)) hkw
            clear hkin hik hkw
            go_wp2_with fail
            generalize wr.alloc (.cells #[.string K.sp, .string K.nm, .slice ka1 K.atr.length kc1, .string K.tx, .slice ka2 K.ks.length kc2] 48) = W1 at HX0 HQ1 HR1 HC ⊢
            have t1 : W1.cell? ⟨T, 4, none⟩ = some (.slice a2 k2 c2) := (bx5 HQ1.out.tb).2.2.2.2
            obtain ⟨b0, b1, b2, b3, b4⟩ := bx5 HX0.out
            clear HX0 HB0 HQ HR y0 y1 y2 y3 y4 hb
            obtain ⟨i0, hi0, hz0, hz1, hz2⟩ := info_parts info8e
            go_region_law (first | (refine step_append_lies _ (by rfl) _ _ _ (by rfl) (T + 1) 48 i0 _ 5 96 Tryz.underlying43 hi0 hz0 hz1 hz2 rfl (by omega) (.slice a2 k2 c2) k2 xs (by rfl) (HOW4.out.alloc _) ⟨w4.heap.size, 0, none⟩ 1 1 [.string K.sp, .string K.nm, .slice ta1 tn1 tc1, .string K.tx, .slice ta2 tn2 tc2] (by rfl) (by rfl) (World.news_of_block (cs := #[.string K.sp, .string K.nm, .slice ta1 tn1 tc1, .string K.tx, .slice ta2 tn2 tc2]) (t := 48) (fr := (0, 0)) (heap_alloc_new w4 _)) (by simp [Value.oneCell']) (by omega) (by unfold maxLen; omega) (by omega) ?hb (w4.heap.size + 1) (by simp) ?_; (case hb => (have := heap_lt HQ4.out.tb; simp; omega)); intro g cap w5 hown hgrow hat hlt5; have HQ5 := Lib.hid ((HQ4.out.al _).gr hgrow (fun b e => (HOW4.out.lt b e).1)); have t5 : w5.cell? ⟨T, 4, none⟩ = some (.slice a2 k2 c2) := (bx5 HQ5.out.tb).2.2.2.2; have f5 : w5.frozen? ⟨T, 4, none⟩ = false := Lib.frozen_of_heap HQ5.out.tb 4) | (go_simp; go_at_call 40; refine HC.out.mono ?_; rintro e w4 ⟨⟨ta1, tn1, tc1, ta2, tn2, tc2, rfl⟩, hb4⟩; have HQ4 := Lib.hid (HQ1.out.dr.st hb4); obtain ⟨xs, hxs⟩ := HR1.out.dr.st hb4; have HOW4 := Lib.hid hxs; clear hxs; have t4 : w4.cell? ⟨T, 4, none⟩ = some (.slice a2 k2 c2) := (bx5 HQ4.out.tb).2.2.2.2; have t4b := cell_alloc t4 (.cells #[.string K.sp, .string K.nm, .slice ta1 tn1 tc1, .string K.tx, .slice ta2 tn2 tc2] 48)))
            all_goals
              have HRN : Hid (Rw T 48 5 (some ⟨g, 0, none⟩) (k2 + 1) cap (w5.setCell ⟨T, 4, none⟩ (.slice (some ⟨g, 0, none⟩) (k2 + 1) cap))) := Rw.put ⟨_, hown⟩
              have HQN := Lib.hid (HQ5.out.putK (.slice (some ⟨g, 0, none⟩) (k2 + 1) cap))
              clear hown hgrow hat hlt5 t5 f5 HQ5
              generalize w5.setCell ⟨T, 4, none⟩ (.slice (some ⟨g, 0, none⟩) (k2 + 1) cap) = W6 at HRN HQN ⊢
              go_wp2_with fail
              go_roundw
              case rel => exact ⟨k2 + 1, _, _, by go_num, by omega, HQN.out, HRN.out⟩
              case measure => simp [RowKit.intOf]; omega
          · obtain ⟨z0, z1, z2, z3, z4⟩ := bx5 HQ.out.tb
            obtain ⟨q0, q1, q2, q3, q4⟩ := bx5 HQ.out.rb
            have p0 := Lib.frozen_of_heap HQ.out.rb 0
            have p1 := Lib.frozen_of_heap HQ.out.rb 1
            have p2 := Lib.frozen_of_heap HQ.out.rb 2
            have p3 := Lib.frozen_of_heap HQ.out.rb 3
            have p4 := Lib.frozen_of_heap HQ.out.rb 4
            go_wp2_with fail
            exact bodyPost_ret (v := .agg #[.string sp, .string nm, (.slice a k c), .string tx, .slice a2 k2 c2]) (by simp [results, Tryz.results40, go_sem, q0, q1, q2, q3, q4]) rfl
              ⟨⟨_, _, _, _, _, _, rfl⟩, ((((HQ.out.bel.setCell (Nat.le_succ _) _).setCell (Nat.le_succ _) _).setCell (Nat.le_succ _) _).setCell (Nat.le_succ _) _).setCell (Nat.le_succ _) _⟩
end Go.Proofs.YtolnpfcncmcacaaGreatDoor
