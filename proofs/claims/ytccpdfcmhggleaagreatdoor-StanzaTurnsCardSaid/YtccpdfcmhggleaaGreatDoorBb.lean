/- Contracts of tag.attr and tag.twin: the same element once more, in new blocks. Condition: the element is not too much. -/
import Derived.Test.YtccpdfcmhggleaaGreatDoorBa
namespace Go.Proofs.YtccpdfcmhggleaaGreatDoor
open Go.RowKit Go.Lib Go.Shelf Tg

theorem attr_any (n v : ByteArray) (w : World) (hn : n.size ≤ 1048576) (hv : v.size ≤ 1048576) :
    Calls Tryz.prog 70 #[.string n, .string v] w fun r w' => r = .returned (.agg #[.string n, .string v]) ∧ Below w.heap.size w w' := by
  have C1 := Lib.hid (fun W => clone_any n W (by omega))
  have C2 := Lib.hid (fun W => clone_any v W (by omega))
  have HW0 : Hid (Below w.heap.size w (w.alloc (.cells #[.string ⟨#[]⟩, .string ⟨#[]⟩] 49))) := (Below.refl _ w).alloc (Nat.le_refl _) _
  have HX0 := Lib.hid (box_new w #[.string ⟨#[]⟩, .string ⟨#[]⟩] 49)
  clear hn hv
  go_enter Tryz.func70, Tryz.ntmps70
  go_wp2_with fail
  refine (C1.out _).mono ?_
  rintro r w1 ⟨rfl, hb⟩
  have HB1 := Lib.hid (more HW0.out (Nat.le_refl _) hb)
  have HX1 := Lib.hid ((hb.block _ (heap_lt HX0.out)).trans HX0.out)
  clear hb HX0 HW0
  go_wp2_with fail
  refine (C2.out _).mono ?_
  rintro r w2 ⟨rfl, hb⟩
  have HB2 := Lib.hid (more HB1.out (Nat.le_refl _) hb)
  have HX2 := (hb.block _ (heap_lt HX1.out)).trans HX1.out
  have c0 : w2.cell? ⟨w.heap.size, 0, none⟩ = some (.string ⟨#[]⟩) := by rw [Lib.cell_of_heap HX2]; rfl
  have c1 : w2.cell? ⟨w.heap.size, 1, none⟩ = some (.string ⟨#[]⟩) := by rw [Lib.cell_of_heap HX2]; rfl
  have f0 : w2.frozen? ⟨w.heap.size, 0, none⟩ = false := Lib.frozen_of_heap HX2 0
  have f1 : w2.frozen? ⟨w.heap.size, 1, none⟩ = false := Lib.frozen_of_heap HX2 1
  clear hb HX1 HX2
  go_wp2_with fail
  exact bodyPost_ret (v := .agg #[.string n, .string v]) (by simp [results, Tryz.results70, go_sem, c0, c1]) rfl ⟨rfl, ((HB2.out.setCell (Nat.le_refl _) _).setCell (Nat.le_refl _) _)⟩
theorem cell_later8 {w w' : World} {b o : Nat} {v : Value} (hb : Below w.heap.size w w') (h : w.cell? ⟨b, o, none⟩ = some v) : w'.cell? ⟨b, o, none⟩ = some v := (hb.cell (p := ⟨b, o, none⟩) (World.block_lt_of_cell? _ _ h)).trans h
theorem tw_keep {N : Nat} {a b c : Value} {W W' : World} (hb : Below W.heap.size W W') (h : W.cell? ⟨N, 0, none⟩ = some a ∧ W.cell? ⟨N, 1, none⟩ = some b ∧ W.cell? ⟨N, 3, none⟩ = some c) :
    W'.cell? ⟨N, 0, none⟩ = some a ∧ W'.cell? ⟨N, 1, none⟩ = some b ∧ W'.cell? ⟨N, 3, none⟩ = some c :=
  ⟨cell_later8 hb h.1, cell_later8 hb h.2.1, cell_later8 hb h.2.2⟩
theorem tw_alloc {N : Nat} {a b c : Value} {W : World} (o : Obj) (h : W.cell? ⟨N, 0, none⟩ = some a ∧ W.cell? ⟨N, 1, none⟩ = some b ∧ W.cell? ⟨N, 3, none⟩ = some c) : (W.alloc o).cell? ⟨N, 0, none⟩ = some a ∧ (W.alloc o).cell? ⟨N, 1, none⟩ = some b ∧ (W.alloc o).cell? ⟨N, 3, none⟩ = some c := tw_keep ((Below.refl _ _).alloc (Nat.le_refl _) o) h
theorem tw_re {N : Nat} {a b c : Value} {W : World} {o o' : Obj} (hN : N < W.heap.size) (h : (W.alloc o).cell? ⟨N, 0, none⟩ = some a ∧ (W.alloc o).cell? ⟨N, 1, none⟩ = some b ∧ (W.alloc o).cell? ⟨N, 3, none⟩ = some c) : (W.alloc o').cell? ⟨N, 0, none⟩ = some a ∧ (W.alloc o').cell? ⟨N, 1, none⟩ = some b ∧ (W.alloc o').cell? ⟨N, 3, none⟩ = some c := by
  have k : ∀ (j : Nat), (W.alloc o').cell? ⟨N, j, none⟩ = (W.alloc o).cell? ⟨N, j, none⟩ := fun j =>
    (World.cell?_of_block (a := ⟨N, j, none⟩) (Below.heap_alloc W o' N hN)).trans (World.cell?_of_block (a := ⟨N, j, none⟩) (Below.heap_alloc W o N hN)).symm
  exact ⟨(k 0).trans h.1, (k 1).trans h.2.1, (k 3).trans h.2.2⟩
theorem tw_lt {N : Nat} {a b c : Value} {W W' : World} (hb : Below W.heap.size W W') (h : W.cell? ⟨N, 0, none⟩ = some a ∧ W.cell? ⟨N, 1, none⟩ = some b ∧ W.cell? ⟨N, 3, none⟩ = some c) : N < W'.heap.size := Nat.lt_of_lt_of_le (World.block_lt_of_cell? W _ h.1) hb.size
theorem tw_allocd {N : Nat} {a b c : Value} {W : World} (o : Obj) (h : W.cell? ⟨N, 0, none⟩ = some a ∧ W.cell? ⟨N, 1, none⟩ = some b ∧ W.cell? ⟨N, 3, none⟩ = some c) : (W.alloc o).drew.cell? ⟨N, 0, none⟩ = some a ∧ (W.alloc o).drew.cell? ⟨N, 1, none⟩ = some b ∧ (W.alloc o).drew.cell? ⟨N, 3, none⟩ = some c := tw_alloc o h
theorem tw_set {N T i : Nat} {a b c u : Value} {W : World} (hT : N ≠ T) (h : W.cell? ⟨N, 0, none⟩ = some a ∧ W.cell? ⟨N, 1, none⟩ = some b ∧ W.cell? ⟨N, 3, none⟩ = some c) : (W.setCell ⟨T, i, none⟩ u).cell? ⟨N, 0, none⟩ = some a ∧ (W.setCell ⟨T, i, none⟩ u).cell? ⟨N, 1, none⟩ = some b ∧ (W.setCell ⟨T, i, none⟩ u).cell? ⟨N, 3, none⟩ = some c := by
  have k : ∀ (j : Nat), (W.setCell ⟨T, i, none⟩ u).cell? ⟨N, j, none⟩ = W.cell? ⟨N, j, none⟩ := fun j => World.cell?_setCell_other _ _ _ _ (fun e2 => hT (by cases e2; rfl))
  exact ⟨(k 0).trans h.1, (k 1).trans h.2.1, (k 3).trans h.2.2⟩
/-- An empty box in block T. -/
def TZ (T : Nat) (W : World) : Prop := W.heap[T]? = some (.cells #[.string ⟨#[]⟩, .string ⟨#[]⟩, .slice none 0 0, .string ⟨#[]⟩, .slice none 0 0] 29 (0, 0))
theorem tz_new {W w' : World} (hb : Below (W.alloc (.cells #[.string ⟨#[]⟩, .string ⟨#[]⟩, .slice none 0 0, .string ⟨#[]⟩, .slice none 0 0] 29)).heap.size (W.alloc (.cells #[.string ⟨#[]⟩, .string ⟨#[]⟩, .slice none 0 0, .string ⟨#[]⟩, .slice none 0 0] 29)) w') : TZ W.heap.size w' :=
  (hb.block _ (by simp)).trans (box_new W _ _)
theorem tz_drew {W w' : World} (hb : Below (W.alloc (.cells #[.string ⟨#[]⟩, .string ⟨#[]⟩, .slice none 0 0, .string ⟨#[]⟩, .slice none 0 0] 29)).drew.heap.size (W.alloc (.cells #[.string ⟨#[]⟩, .string ⟨#[]⟩, .slice none 0 0, .string ⟨#[]⟩, .slice none 0 0] 29)).drew w') : TZ W.heap.size w' :=
  (hb.block _ (by show _ < (W.alloc _).heap.size; simp)).trans (box_new W _ _)
theorem tz_keep {T : Nat} {W w' : World} (h : TZ T W) (hb : Below W.heap.size W w') : TZ T w' := (hb.block _ (heap_lt h)).trans h
theorem tz_cells {T : Nat} {w' : World} (h : TZ T w') : w'.cell? ⟨T, 0, none⟩ = some (.string ⟨#[]⟩) ∧ w'.cell? ⟨T, 1, none⟩ = some (.string ⟨#[]⟩) ∧ w'.cell? ⟨T, 2, none⟩ = some (.slice none 0 0) ∧ w'.cell? ⟨T, 3, none⟩ = some (.string ⟨#[]⟩) ∧ w'.cell? ⟨T, 4, none⟩ = some (.slice none 0 0) ∧ (w'.frozen? ⟨T, 0, none⟩ = false ∧ w'.frozen? ⟨T, 1, none⟩ = false ∧ w'.frozen? ⟨T, 2, none⟩ = false ∧ w'.frozen? ⟨T, 3, none⟩ = false ∧ w'.frozen? ⟨T, 4, none⟩ = false) := by
  obtain ⟨h0, h1, h2, h3, h4⟩ := bx5 h
  exact ⟨h0, h1, h2, h3, h4, Lib.frozen_of_heap h 0, Lib.frozen_of_heap h 1, Lib.frozen_of_heap h 2, Lib.frozen_of_heap h 3, Lib.frozen_of_heap h 4⟩
/-- What twin keeps: all that w held, its argument's box, its result's. -/
structure Tw (C : Array Value) (w W : World) : Prop where
  bel : Below w.heap.size w W
  eb : W.heap[w.heap.size]? = some (.cells C 29 (0, 0))
  rb : W.heap[w.heap.size + 1]? = some (.cells #[.string ⟨#[]⟩, .string ⟨#[]⟩, .slice none 0 0, .string ⟨#[]⟩, .slice none 0 0] 29 (0, 0))
theorem Tw.st {C : Array Value} {w W w' : World} (h : Tw C w W) (hb : Below W.heap.size W w') : Tw C w w' := ⟨h.bel.trans (hb.mono h.bel.size), (hb.block _ (heap_lt h.eb)).trans h.eb, (hb.block _ (heap_lt h.rb)).trans h.rb⟩
theorem Tw.al {C : Array Value} {w W : World} (h : Tw C w W) (o : Obj) : Tw C w (W.alloc o) := h.st ((Below.refl _ W).alloc (Nat.le_refl _) o)
theorem Tw.stA {C : Array Value} {w W w' : World} {o : Obj} (h : Tw C w W) (hb : Below (W.alloc o).heap.size (W.alloc o) w') : Tw C w w' := (h.al o).st hb
theorem Tw.dr {C : Array Value} {w W : World} (h : Tw C w W) : Tw C w W.drew := ⟨h.bel.drew, h.eb, h.rb⟩
theorem Tw.stD {C : Array Value} {w W w' : World} (h : Tw C w W) (hb : Below W.drew.heap.size W.drew w') : Tw C w w' := h.dr.st hb
theorem Tw.stAD {C : Array Value} {w W w' : World} {o : Obj} (h : Tw C w W) (hb : Below (W.alloc o).drew.heap.size (W.alloc o).drew w') : Tw C w w' := (h.al o).dr.st hb
/-- The copy's block, made behind the calls. -/
theorem tw_fin1 {C : Array Value} {sp nm tx : ByteArray} {w W : World} (h : Tw C w W) : Tw C w (W.alloc (.cells #[.string sp, .string nm, .slice none 0 0, .string tx, .slice none 0 0] 29)) ∧ (W.alloc (.cells #[.string sp, .string nm, .slice none 0 0, .string tx, .slice none 0 0] 29)).heap[W.heap.size]? = some (.cells #[.string sp, .string nm, .slice none 0 0, .string tx, .slice none 0 0] 29 (0, 0)) ∧ w.heap.size + 1 < W.heap.size := ⟨h.al _, box_new W _ _, heap_lt h.rb⟩
/-- The copy's block, made ahead of them. -/
theorem tw_fin2 {C : Array Value} {sp nm tx : ByteArray} {w W : World} {T : Nat} (h : Tw C w W) (t : TZ T W) (hT : w.heap.size + 1 < T) :
    Tw C w (((((W.setCell ⟨T, 0, none⟩ (.string sp)).setCell ⟨T, 1, none⟩ (.string nm)).setCell ⟨T, 2, none⟩ (.slice none 0 0)).setCell ⟨T, 3, none⟩ (.string tx)).setCell ⟨T, 4, none⟩ (.slice none 0 0)) ∧
    (((((W.setCell ⟨T, 0, none⟩ (.string sp)).setCell ⟨T, 1, none⟩ (.string nm)).setCell ⟨T, 2, none⟩ (.slice none 0 0)).setCell ⟨T, 3, none⟩ (.string tx)).setCell ⟨T, 4, none⟩ (.slice none 0 0)).heap[T]? = some (.cells #[.string sp, .string nm, .slice none 0 0, .string tx, .slice none 0 0] 29 (0, 0)) ∧ w.heap.size + 1 < T := by
  have hle : w.heap.size ≤ T := by omega
  have t' : W.heap[T]? = _ := t
  refine ⟨⟨((((h.bel.setCell (p := ⟨T, 0, none⟩) hle _).setCell (p := ⟨T, 1, none⟩) hle _).setCell (p := ⟨T, 2, none⟩) hle _).setCell (p := ⟨T, 3, none⟩) hle _).setCell (p := ⟨T, 4, none⟩) hle _, ?_, ?_⟩, ?_, hT⟩
  · have k : ∀ (W : World) (i : Nat) (u : Value), (W.setCell ⟨T, i, none⟩ u).heap[w.heap.size]? = W.heap[w.heap.size]? := fun W i u => Below.heap_setCell W ⟨T, i, none⟩ u _ (by show w.heap.size ≠ T; omega)
    rw [k, k, k, k, k]; exact h.eb
  · have k : ∀ (W : World) (i : Nat) (u : Value), (W.setCell ⟨T, i, none⟩ u).heap[w.heap.size + 1]? = W.heap[w.heap.size + 1]? := fun W i u => Below.heap_setCell W ⟨T, i, none⟩ u _ (by show w.heap.size + 1 ≠ T; omega)
    rw [k, k, k, k, k]; exact h.rb
  · simp [World.setCell, Array.getElem?_modify, t']
/-- What twin keeps in its loops: its argument's box, its result's, the copy so far. -/
structure Tq (C : Array Value) (sp nm tx : ByteArray) (w : World) (T : Nat) (av kv : Value) (W : World) : Prop where
  bel : Below w.heap.size w W
  eb : W.heap[w.heap.size]? = some (.cells C 29 (0, 0))
  rb : W.heap[w.heap.size + 1]? = some (.cells #[.string ⟨#[]⟩, .string ⟨#[]⟩, .slice none 0 0, .string ⟨#[]⟩, .slice none 0 0] 29 (0, 0))
  tb : W.heap[T]? = some (.cells #[.string sp, .string nm, av, .string tx, kv] 29 (0, 0))
  lt : w.heap.size + 1 < T
theorem Tq.st {C : Array Value} {sp nm tx : ByteArray} {w W w' : World} {T : Nat} {av kv : Value} (h : Tq C sp nm tx w T av kv W) (hb : Below W.heap.size W w') : Tq C sp nm tx w T av kv w' :=
  ⟨h.bel.trans (hb.mono h.bel.size), (hb.block _ (heap_lt h.eb)).trans h.eb, (hb.block _ (heap_lt h.rb)).trans h.rb, (hb.block _ (heap_lt h.tb)).trans h.tb, h.lt⟩
theorem Tq.al {C : Array Value} {sp nm tx : ByteArray} {w W : World} {T : Nat} {av kv : Value} (h : Tq C sp nm tx w T av kv W) (o : Obj) : Tq C sp nm tx w T av kv (W.alloc o) := h.st ((Below.refl _ W).alloc (Nat.le_refl _) o)
theorem Tq.dr {C : Array Value} {sp nm tx : ByteArray} {w W : World} {T : Nat} {av kv : Value} (h : Tq C sp nm tx w T av kv W) : Tq C sp nm tx w T av kv W.drew := ⟨h.bel.drew, h.eb, h.rb, h.tb, h.lt⟩
theorem Tq.gr {C : Array Value} {sp nm tx : ByteArray} {w W w' : World} {T : Nat} {av kv : Value} {ob : Option Nat} (h : Tq C sp nm tx w T av kv W) (hg : W.grownBy w' ob) (ho : ∀ b, ob = some b → T < b) : Tq C sp nm tx w T av kv w' := by
  have hl := h.lt
  have hne : ∀ b, b ≤ T → some b ≠ ob := fun b hb e => by have := ho b e.symm; omega
  exact ⟨h.bel.grown hg h.bel.size (fun b e => by have := ho b e; omega), (hg.block _ (heap_lt h.eb) (hne _ (by omega))).trans h.eb, (hg.block _ (heap_lt h.rb) (hne _ (by omega))).trans h.rb, (hg.block _ (heap_lt h.tb) (hne _ (Nat.le_refl _))).trans h.tb, h.lt⟩
theorem Tq.putA {C : Array Value} {sp nm tx : ByteArray} {w W : World} {T : Nat} {av kv : Value} (h : Tq C sp nm tx w T av kv W) (u : Value) : Tq C sp nm tx w T u kv (W.setCell ⟨T, 2, none⟩ u) := by
  have hl := h.lt
  exact ⟨h.bel.setCell (by show w.heap.size ≤ T; omega) u, (Below.heap_setCell _ _ _ _ (by show w.heap.size ≠ T; omega)).trans h.eb, (Below.heap_setCell _ _ _ _ (by show w.heap.size + 1 ≠ T; omega)).trans h.rb, by simp [World.setCell, Array.getElem?_modify, h.tb], h.lt⟩
theorem Tq.putK {C : Array Value} {sp nm tx : ByteArray} {w W : World} {T : Nat} {av kv : Value} (h : Tq C sp nm tx w T av kv W) (u : Value) : Tq C sp nm tx w T av u (W.setCell ⟨T, 4, none⟩ u) := by
  have hl := h.lt
  exact ⟨h.bel.setCell (by show w.heap.size ≤ T; omega) u, (Below.heap_setCell _ _ _ _ (by show w.heap.size ≠ T; omega)).trans h.eb, (Below.heap_setCell _ _ _ _ (by show w.heap.size + 1 ≠ T; omega)).trans h.rb, by simp [World.setCell, Array.getElem?_modify, h.tb], h.lt⟩
theorem ow_st {N n s : Nat} {T : TypeId} {v : Value} {xs : List Value} {W W' : World} (h : W.ownsRow N T s v n xs) (hb : Below W.heap.size W W') : W'.ownsRow N T s v n xs :=
  own_keep h fun b e => by obtain ⟨_, cur, hc⟩ := own_heap h e; exact hb.block b (heap_lt hc)
theorem ow_dr {N n s : Nat} {T : TypeId} {v : Value} {xs : List Value} {W : World} (h : W.ownsRow N T s v n xs) : W.drew.ownsRow N T s v n xs := h
theorem ow_alloc {N n s : Nat} {T : TypeId} {v : Value} {xs : List Value} {W : World} (h : W.ownsRow N T s v n xs) (o : Obj) : (W.alloc o).ownsRow N T s v n xs := ow_st h ((Below.refl _ W).alloc (Nat.le_refl _) o)
/-- The attributes so far: a row of the call's own, behind the copy's block. -/
def AR (T : Nat) (l : List At) (a : Option Addr) (c : Nat) (W : World) : Prop := W.ownsRow (T + 1) 49 2 (.slice a l.length c) l.length (cellsA l)
theorem AR.st {T c : Nat} {l : List At} {a : Option Addr} {W W' : World} (h : AR T l a c W) (hb : Below W.heap.size W W') : AR T l a c W' :=
  own_keep h fun b e => by obtain ⟨_, cur, hc⟩ := own_heap h e; exact hb.block b (heap_lt hc)
theorem AR.dr {T c : Nat} {l : List At} {a : Option Addr} {W : World} (h : AR T l a c W) : AR T l a c W.drew := h
theorem AR.lt {T c : Nat} {l : List At} {a : Option Addr} {W : World} (h : AR T l a c W) : ∀ b, (Value.slice a l.length c).ownBlock = some b → T < b := fun _ e => (own_heap h e).1
theorem AR.lt2 {T c : Nat} {l : List At} {a : Option Addr} {W : World} (h : AR T l a c W) : ∀ b, (Value.slice a l.length c).ownBlock = some b → b < W.heap.size := fun _ e => heap_lt (own_heap h e).2.choose_spec
theorem AR.put {T i c : Nat} {l : List At} {a : Option Addr} {W : World} {u : Value} (h : AR T l a c W) : AR T l a c (W.setCell ⟨T, i, none⟩ u) :=
  ownsRow_setCell_other h (fun e => Nat.lt_irrefl _ (h.lt _ e)) u
theorem cellsA_take {l : List At} {k : Nat} (h : k < l.length) : cellsA (l.take k) ++ [.string l[k].1, .string l[k].2] = cellsA (l.take (k + 1)) := by
  rw [List.take_succ_eq_append_getElem h, cellsA_append]; rfl
theorem AR.snoc {T g cap k : Nat} {l : List At} {W : World} (h : k < l.length) (ho : W.ownsRow (T + 1) 49 2 (.slice (some ⟨g, 0, none⟩) (k + 1) cap) (k + 1) (cellsA (l.take k) ++ [.string l[k].1, .string l[k].2])) : AR T (l.take (k + 1)) (some ⟨g, 0, none⟩) cap W := by
  have e : (l.take (k + 1)).length = k + 1 := by simp; omega
  unfold AR
  rw [e, ← cellsA_take h]; exact ho
/-- The kids so far: a row of the call's own; what they hold lies beside it. -/
def KR (N : Nat) (ks : List El) (a : Option Addr) (c : Nat) (W : World) : Prop := KRow N (fun b => N ≤ b ∧ (Value.slice a ks.length c).ownBlock ≠ some b) W (.slice a ks.length c) ks
theorem KR.nil (N : Nat) (W : World) : KR N [] none 0 W := KRow.nil _ _ _
theorem KR.st {N c : Nat} {ks : List El} {a : Option Addr} {W W' : World} (h : KR N ks a c W) (hb : Below W.heap.size W W') : KR N ks a c W' := KRow.below h hb
theorem KR.dr {N c : Nat} {ks : List El} {a : Option Addr} {W : World} (h : KR N ks a c W) : KR N ks a c W.drew := KRow.below h (Below.refl _ _).drew
theorem KR.put {N T i c : Nat} {ks : List El} {a : Option Addr} {W : World} {u : Value} (hT : T < N) (h : KR N ks a c W) : KR N ks a c (W.setCell ⟨T, i, none⟩ u) := by
  have hk : ∀ b, N ≤ b → (W.setCell ⟨T, i, none⟩ u).heap[b]? = W.heap[b]? := fun b hb => Below.heap_setCell _ _ _ _ (by show b ≠ T; omega)
  have h' : KRow N _ W _ ks := h
  refine h'.keep (fun _ _ h => h) (fun b hb _ => hk b hb.1) fun b e => ?_
  obtain ⟨xs, h1, _⟩ := h
  exact hk b (own_heap h1 e).1
theorem KR.own {N c : Nat} {ks : List El} {a : Option Addr} {W : World} (h : KR N ks a c W) : ∃ xs, W.ownsRow N 29 5 (.slice a ks.length c) ks.length xs ∧ ∀ i (h : i < ks.length), ∃ v0 v1 v2 v3 v4, xs[i * 5]? = some v0 ∧ xs[i * 5 + 1]? = some v1 ∧ xs[i * 5 + 2]? = some v2 ∧ xs[i * 5 + 3]? = some v3 ∧ xs[i * 5 + 4]? = some v4 ∧ InS (fun b => N ≤ b ∧ (Value.slice a ks.length c).ownBlock ≠ some b) W ks[i] (.agg #[v0, v1, v2, v3, v4]) := h
/-- One kid more: W, then W1 behind its box, then W2 behind the append. -/
theorem KR.app {N g cap H c : Nat} {ks : List El} {e : El} {a : Option Addr} {W W1 W2 : World} {xs : List Value} {v0 v1 v2 v3 v4 : Value}
    (h : W.ownsRow N 29 5 (.slice a ks.length c) ks.length xs) (hx : ∀ i (h : i < ks.length), ∃ v0 v1 v2 v3 v4, xs[i * 5]? = some v0 ∧ xs[i * 5 + 1]? = some v1 ∧ xs[i * 5 + 2]? = some v2 ∧ xs[i * 5 + 3]? = some v3 ∧ xs[i * 5 + 4]? = some v4 ∧ InS (fun b => N ≤ b ∧ (Value.slice a ks.length c).ownBlock ≠ some b) W ks[i] (.agg #[v0, v1, v2, v3, v4]))
    (hb : Below W.heap.size W W1) (hg : W1.grownBy W2 (Value.slice a ks.length c).ownBlock) (hat : (Value.slice a ks.length c).ownBlock = some g ∨ g = W1.heap.size)
    (hl : ∀ b, (Value.slice a ks.length c).ownBlock = some b → b < H) (hN : N ≤ H) (he : InS (fun b => H ≤ b) W e (.agg #[v0, v1, v2, v3, v4]))
    (ho : W2.ownsRow N 29 5 (.slice (some ⟨g, 0, none⟩) (ks.length + 1) cap) (ks.length + 1) (xs ++ [v0, v1, v2, v3, v4])) :
    KR N (ks ++ [e]) (some ⟨g, 0, none⟩) cap W2 := by
  have hne : ∀ b, b < W.heap.size → (Value.slice a ks.length c).ownBlock ≠ some b → W2.heap[b]? = W.heap[b]? ∧ g ≠ b := by
    intro b hb1 hn
    have h1 : b < W1.heap.size := Nat.lt_of_lt_of_le hb1 hb.size
    refine ⟨(hg.block b h1 (fun e => hn e.symm)).trans (hb.block b hb1), ?_⟩
    rintro rfl
    rcases hat with h2 | h2
    · exact hn h2
    · omega
  unfold KR
  have e1 : (ks ++ [e]).length = ks.length + 1 := by simp
  rw [e1]
  refine KRow.snoc ho (by simpa using h.1) (fun i hi => ?_) ?_
  · obtain ⟨u0, u1, u2, u3, u4, q0, q1, q2, q3, q4, q5⟩ := hx i hi
    refine ⟨u0, u1, u2, u3, u4, q0, q1, q2, q3, q4, ?_⟩
    have q6 : InS (fun b => (N ≤ b ∧ (Value.slice a ks.length c).ownBlock ≠ some b) ∧ b < W.heap.size) W ks[i] _ := q5.weak fun b hb hS => ⟨hS, hb⟩
    exact (q6.keep fun b hb _ => (hne b hb.2 hb.1.2).1).weak fun b _ hb => ⟨hb.1.1, fun e => (hne b hb.2 hb.1.2).2 (by simpa [Value.ownBlock] using e)⟩
  · have q6 : InS (fun b => H ≤ b ∧ b < W.heap.size) W e _ := he.weak fun b hb hS => ⟨hS, hb⟩
    have hn : ∀ b, H ≤ b → (Value.slice a ks.length c).ownBlock ≠ some b := fun b hb e => by have := hl b e; omega
    exact (q6.keep fun b hb _ => (hne b hb.2 (hn b hb.1)).1).weak fun b _ hb => ⟨Nat.le_trans hN hb.1, fun e => (hne b hb.2 (hn b hb.1)).2 (by simpa [Value.ownBlock] using e)⟩
/-- What twin gives: the same element, in new blocks. -/
def TwP (e : El) (w : World) (r : Ending) (w' : World) : Prop := ∃ a1 c1 a2 c2, r = .returned (.agg #[.string e.sp, .string e.nm, .slice a1 e.atr.length c1, .string e.tx, .slice a2 e.ks.length c2]) ∧
  InS (fun b => w.heap.size ≤ b) w' e (.agg #[.string e.sp, .string e.nm, .slice a1 e.atr.length c1, .string e.tx, .slice a2 e.ks.length c2]) ∧ Below w.heap.size w w'
def twinP (e : El) : Prop := ∀ (B : Nat) (w : World) (v : Value), In B w e v → B ≤ w.heap.size → wt e ≤ 20000 →
    Calls Tryz.prog 94 #[v] w (TwP e w)
/-- An element out of the rows of its attributes and of its kids. -/
theorem tw_ins {E : El} {T N w0 c1 c2 : Nat} {a1 a2 : Option Addr} {W W' : World} (hz : Szd E.sp E.nm E.tx E.atr) (ha : AR T E.atr a1 c1 W) (hk : KR N E.ks a2 c2 W) (h1 : w0 < T) (h2 : w0 < N) (hW : ∀ b, w0 < b → W'.heap[b]? = W.heap[b]?) :
    InS (fun b => w0 ≤ b) W' E (.agg #[.string E.sp, .string E.nm, .slice a1 E.atr.length c1, .string E.tx, .slice a2 E.ks.length c2]) := by
  have q1 : SlA (fun b => w0 < b) W (.slice a1 E.atr.length c1) E.atr := (SlA.own ha).weak fun b _ h => by omega
  have q2 : SlK (fun b => w0 < b) W (.slice a2 E.ks.length c2) E.ks := (KRow.slK hk).weak fun b _ h => by omega
  have q3 : InS (fun b => w0 < b) W (.mk E.sp E.nm E.atr E.tx E.ks) _ := InS.make hz q1 q2
  rw [← El.eta E] at q3
  exact (q3.keep fun b hb _ => hW b hb).weak fun b _ h => Nat.le_of_lt h
set_option maxRecDepth 100000 in
set_option maxHeartbeats 8000000 in
theorem twin_any (e : El) : twinP e := by
  refine El.ind (P := twinP) (fun sp nm atr tx ks ih => ?_) e
  intro B w v hin hB hwt
  generalize hE : El.mk sp nm atr tx ks = E at hin hwt ⊢
  obtain rfl : E.ks = ks := by rw [← hE]; rfl
  clear hE
  have hsz := hin.sized
  obtain ⟨aA, cA, aK, cK, rfl, ⟨hq1, hq2⟩, hkm, hat, hks⟩ := hin.out
  have hw := wt_eq E
  have hwk := wts_len E.ks
  have h1 : E.sp.size ≤ 20000 := by omega
  have h2 : E.nm.size ≤ 20000 := by omega
  have h3 : E.tx.size ≤ 20000 := by omega
  have HAV : Hid (∀ a ∈ E.atr, a.1.size ≤ 20000 ∧ a.2.size ≤ 20000) := fun a ha => by have := wtA_mem ha; omega
  have HKW : Hid (∀ k ∈ E.ks, wt k ≤ 20000) := fun k hk => by have := wts_mem hk; omega
  have hnk : E.ks.length ≤ 20000 := by omega
  have hna : E.atr.length ≤ 20000 := by omega
  have IH := Lib.hid ih
  have HBB := Lib.hid hB
  have HAT := Lib.hid hat
  have HKS := Lib.hid hks
  have HEND : Hid (∀ (r : Ending) (T N c1 c2 : Nat) (a1 a2 : Option Addr) (W W' : World), r = .returned (.agg #[.string E.sp, .string E.nm, .slice a1 E.atr.length c1, .string E.tx, .slice a2 E.ks.length c2]) → AR T E.atr a1 c1 W → KR N E.ks a2 c2 W → w.heap.size + 1 < T → w.heap.size + 1 < N →
      (∀ b, w.heap.size + 1 < b → W'.heap[b]? = W.heap[b]?) → Below w.heap.size w W' → TwP E w r W') := by
    intro r T N c1 c2 a1 a2 W W' hr ha hk hT hN hW hbel
    exact ⟨a1, c1, a2, c2, hr, (tw_ins hsz ha hk hT hN hW).weak (fun b _ h => by omega), hbel⟩
  clear hw hwk hin hB hat hks ih hq1 hq2 hwt hkm hsz sp nm tx atr
  generalize hpost : TwP E w = POST at HEND ⊢
  clear hpost
  generalize E.sp = sp at *
  generalize E.nm = nm at *
  generalize E.tx = tx at *
  generalize hnA : E.atr.length = nA at *
  generalize hnK : E.ks.length = nK at *
  have C1 := Lib.hid (fun W => clone_any sp W (by omega))
  have C2 := Lib.hid (fun W => clone_any nm W (by omega))
  have C3 := Lib.hid (fun W => clone_any tx W (by omega))
  have HW0 : Hid (Below w.heap.size w ((w.alloc (.cells #[.string sp, .string nm, .slice aA nA cA, .string tx, .slice aK nK cK] 29)).alloc (.cells #[.string ⟨#[]⟩, .string ⟨#[]⟩, .slice none 0 0, .string ⟨#[]⟩, .slice none 0 0] 29))) := ((Below.refl _ w).alloc (Nat.le_refl _) _).alloc (by simp) _
  have HX0 : Hid (((w.alloc (.cells #[.string sp, .string nm, .slice aA nA cA, .string tx, .slice aK nK cK] 29)).alloc (.cells #[.string ⟨#[]⟩, .string ⟨#[]⟩, .slice none 0 0, .string ⟨#[]⟩, .slice none 0 0] 29)).heap[w.heap.size]? = _) := (Below.heap_alloc _ _ _ (by simp)).trans (box_new w _ _)
  have HY0 : Hid (((w.alloc (.cells #[.string sp, .string nm, .slice aA nA cA, .string tx, .slice aK nK cK] 29)).alloc (.cells #[.string ⟨#[]⟩, .string ⟨#[]⟩, .slice none 0 0, .string ⟨#[]⟩, .slice none 0 0] 29)).heap[w.heap.size + 1]? = some (.cells #[.string ⟨#[]⟩, .string ⟨#[]⟩, .slice none 0 0, .string ⟨#[]⟩, .slice none 0 0] 29 (0, 0))) := by
    have := box_new (w.alloc (.cells #[.string sp, .string nm, .slice aA nA cA, .string tx, .slice aK nK cK] 29)) #[.string ⟨#[]⟩, .string ⟨#[]⟩, .slice none 0 0, .string ⟨#[]⟩, .slice none 0 0] 29
    show _ = _
    simpa using this
  go_enter Tryz.func94, Tryz.ntmps94
  go_upto_region 1 with fail
  go_cut [3] (fun s3 wx => ∃ T : Nat, s3 = .pointer (some ⟨T, 0, none⟩) ∧ Hid (Tw #[.string sp, .string nm, .slice aA nA cA, .string tx, .slice aK nK cK] w wx ∧ wx.heap[T]? = some (.cells #[.string sp, .string nm, .slice none 0 0, .string tx, .slice none 0 0] 29 (0, 0)) ∧ w.heap.size + 1 < T))
  case first =>
    generalize (w.alloc (.cells #[.string sp, .string nm, .slice aA nA cA, .string tx, .slice aK nK cK] 29)).alloc (.cells #[.string ⟨#[]⟩, .string ⟨#[]⟩, .slice none 0 0, .string ⟨#[]⟩, .slice none 0 0] 29) = W0 at HW0 HX0 HY0 ⊢
    obtain ⟨x0, x1, x2, x3, x4⟩ := bx5 HX0.out
    have hz0 : w.heap.size + 1 < W0.heap.size := heap_lt HY0.out
    have g0 : Tw #[.string sp, .string nm, .slice aA nA cA, .string tx, .slice aK nK cK] w W0 := ⟨HW0.out, HX0.out, HY0.out⟩
    have s0 : W0.cell? ⟨w.heap.size, 0, none⟩ = some (.string sp) ∧ W0.cell? ⟨w.heap.size, 1, none⟩ = some (.string nm) ∧ W0.cell? ⟨w.heap.size, 3, none⟩ = some (.string tx) := ⟨x0, x1, x3⟩
    have s1 : W0.drew.cell? ⟨w.heap.size, 0, none⟩ = some (.string sp) ∧ W0.drew.cell? ⟨w.heap.size, 1, none⟩ = some (.string nm) ∧ W0.drew.cell? ⟨w.heap.size, 3, none⟩ = some (.string tx) := ⟨x0, x1, x3⟩
    have HB0 : Hid (Below w.heap.size w W0.drew) := HW0.out.drew
    go_region_held3 (fun w' => w'.cell? ⟨w.heap.size, 0, none⟩ = some (.string sp) ∧ w'.cell? ⟨w.heap.size, 1, none⟩ = some (.string nm) ∧ w'.cell? ⟨w.heap.size, 3, none⟩ = some (.string tx))
      (first | with_reducible exact s1 | with_reducible exact tw_keep hb (by assumption) | with_reducible exact tw_alloc _ s1 | with_reducible exact tw_allocd _ s0 | with_reducible exact tw_alloc _ (by assumption) | with_reducible exact tw_re (by assumption) (by assumption) | with_reducible exact tw_set (by omega) (tw_set (by omega) (tw_set (by omega) (tw_set (by omega) (tw_set (by omega) (by assumption))))))
      (first
        | ((go_at_call 39; (with_reducible refine (C1.out _).mono ?_); rintro e w1 ⟨rfl, hb⟩; have hz1 := hb.size; (first | (with_reducible have g1 := Tw.st g0 hb) | (with_reducible have g1 := Tw.stA g0 hb) | (with_reducible have g1 := Tw.stD g0 hb) | (with_reducible have g1 := Tw.stAD g0 hb)); have hn1 : w.heap.size < w1.heap.size := tw_lt hb (by assumption); first | (have t1 := tz_new hb; obtain ⟨k0, k1, k2, k3, k4, l0, l1, l2, l3, l4⟩ := tz_cells t1) | (have t1 := tz_drew hb; obtain ⟨k0, k1, k2, k3, k4, l0, l1, l2, l3, l4⟩ := tz_cells t1) | skip))
        | ((go_at_call 39; (with_reducible refine (C2.out _).mono ?_); rintro e w2 ⟨rfl, hb⟩; have hz2 := hb.size; (first | (with_reducible have g2 := Tw.st g1 hb) | (with_reducible have g2 := Tw.stA g1 hb) | (with_reducible have g2 := Tw.stD g1 hb) | (with_reducible have g2 := Tw.stAD g1 hb) | (with_reducible have g2 := Tw.st g0 hb) | (with_reducible have g2 := Tw.stA g0 hb) | (with_reducible have g2 := Tw.stD g0 hb) | (with_reducible have g2 := Tw.stAD g0 hb)); have hn2 : w.heap.size < w2.heap.size := tw_lt hb (by assumption); first | (have t2 := tz_new hb; obtain ⟨k0, k1, k2, k3, k4, l0, l1, l2, l3, l4⟩ := tz_cells t2) | (have t2 := tz_drew hb; obtain ⟨k0, k1, k2, k3, k4, l0, l1, l2, l3, l4⟩ := tz_cells t2) | (have t2 := tz_keep t1 hb; obtain ⟨k0, k1, k2, k3, k4, l0, l1, l2, l3, l4⟩ := tz_cells t2) | skip))
        | ((go_at_call 39; (with_reducible refine (C3.out _).mono ?_); rintro e w3 ⟨rfl, hb⟩; have hz3 := hb.size; (first | (with_reducible have g3 := Tw.st g2 hb) | (with_reducible have g3 := Tw.stA g2 hb) | (with_reducible have g3 := Tw.stD g2 hb) | (with_reducible have g3 := Tw.stAD g2 hb) | (with_reducible have g3 := Tw.st g1 hb) | (with_reducible have g3 := Tw.stA g1 hb) | (with_reducible have g3 := Tw.stD g1 hb) | (with_reducible have g3 := Tw.stAD g1 hb) | (with_reducible have g3 := Tw.st g0 hb) | (with_reducible have g3 := Tw.stA g0 hb) | (with_reducible have g3 := Tw.stD g0 hb) | (with_reducible have g3 := Tw.stAD g0 hb)); have hn3 : w.heap.size < w3.heap.size := tw_lt hb (by assumption); first | (have t3 := tz_new hb; obtain ⟨k0, k1, k2, k3, k4, l0, l1, l2, l3, l4⟩ := tz_cells t3) | (have t3 := tz_drew hb; obtain ⟨k0, k1, k2, k3, k4, l0, l1, l2, l3, l4⟩ := tz_cells t3) | (have t3 := tz_keep t2 hb; obtain ⟨k0, k1, k2, k3, k4, l0, l1, l2, l3, l4⟩ := tz_cells t3) | (have t3 := tz_keep t1 hb; obtain ⟨k0, k1, k2, k3, k4, l0, l1, l2, l3, l4⟩ := tz_cells t3) | skip)))
    all_goals
      first
        | (have HF := Lib.hid (tw_fin2 (sp := sp) (nm := nm) (tx := tx) g3 t3 (heap_lt g2.rb)))
        | (have HF := Lib.hid (tw_fin2 (sp := sp) (nm := nm) (tx := tx) g3 t3 (heap_lt g1.rb)))
        | (have HF := Lib.hid (tw_fin2 (sp := sp) (nm := nm) (tx := tx) g3 t3 (heap_lt g0.rb)))
        | (have HF := Lib.hid (tw_fin1 (sp := sp) (nm := nm) (tx := tx) g3))
      go_wp2_with fail
      go_meet
      exact ⟨_, rfl, HF.out⟩
  case rest =>
    obtain ⟨T, rfl, HF⟩ := hcut
    clear HX0 HY0 HW0 C1 C2 C3 h1 h2 h3
    have HQ0 : Hid (Tq #[.string sp, .string nm, .slice aA nA cA, .string tx, .slice aK nK cK] sp nm tx w T (.slice none 0 0) (.slice none 0 0) wc) := ⟨HF.out.1.bel, HF.out.1.eb, HF.out.1.rb, HF.out.2.1, HF.out.2.2⟩
    have HR0 : Hid (AR T (E.atr.take 0) none 0 wc) := World.ownsRow_nil _ _ _ _
    obtain ⟨x0, x1, x2, x3, x4⟩ := bx5 HF.out.1.eb
    clear HF
    go_wp2_with fail
    go_loopw [21] (fun i wr => ∃ (k : Nat) (a : Option Addr) (c : Nat), i = .int .i64 k ∧ k ≤ nA ∧ Hid (Tq #[.string sp, .string nm, .slice aA nA cA, .string tx, .slice aK nK cK] sp nm tx w T (.slice a k c) (.slice none 0 0) wr) ∧ Hid (AR T (E.atr.take k) a c wr)) (fun i _ => nA - (RowKit.intOf i).toNat)
    case atStart => exact ⟨0, none, 0, rfl, Nat.zero_le _, HQ0.out, HR0.out⟩
    case round =>
      clear HQ0 HR0 x0 x1 x2 x3 x4
      obtain ⟨k, a, c, rfl, hk, HQ, HR⟩ := hrel
      have hlk : (E.atr.take k).length = k := by rw [List.length_take, hnA]; omega
      by_cases hlt : k < nA
      · have hlt2 : k < E.atr.length := by omega
        obtain ⟨b, o, rfl, hb, y0, y1⟩ := (HAT.out.below (HQ.out.bel.mono HBB.out)) k hlt2
        obtain ⟨g1, g2⟩ := HAV.out _ (List.getElem_mem hlt2)
        have HSN : Hid (∀ (g cap : Nat) (W : World), W.ownsRow (T + 1) 49 2 (.slice (some ⟨g, 0, none⟩) (k + 1) cap) (k + 1) (cellsA (E.atr.take k) ++ [.string E.atr[k].1, .string E.atr[k].2]) → AR T (E.atr.take (k + 1)) (some ⟨g, 0, none⟩) cap W) := fun g cap W h => AR.snoc hlt2 h
        generalize E.atr[k] = p at y0 y1 g1 g2 HSN
        obtain ⟨p1, p2⟩ := p
        simp only at y0 y1 g1 g2 HSN
        have CA := Lib.hid (fun W => attr_any p1 p2 W (by omega) (by omega))
        have HB0 : Hid (Below wr.heap.size wr (wr.alloc (.cells #[.string p1, .string p2] 49))) := (Below.refl _ wr).alloc (Nat.le_refl _) _
        have HX0 := Lib.hid (box_new wr #[.string p1, .string p2] 49)
        have HQ1 := Lib.hid (HQ.out.st HB0.out)
        have HR1 : Hid ((wr.alloc (.cells #[.string p1, .string p2] 49)).ownsRow (T + 1) 49 2 (.slice a k c) k (cellsA (E.atr.take k))) := by
          have := HR.out.st HB0.out
          unfold AR at this
          rw [hlk] at this
          exact this
        have hl1 : T < wr.heap.size := heap_lt HQ.out.tb
        go_wp2_with fail
        generalize wr.alloc (.cells #[.string p1, .string p2] 49) = W1 at HX0 HQ1 HR1 ⊢
        have t1 : W1.cell? ⟨T, 2, none⟩ = some (.slice a k c) := (bx5 HQ1.out.tb).2.2.1
        have a0 : W1.cell? ⟨wr.heap.size, 0, none⟩ = some (.string p1) := by rw [Lib.cell_of_heap HX0.out]; rfl
        have a1 : W1.cell? ⟨wr.heap.size, 1, none⟩ = some (.string p2) := by rw [Lib.cell_of_heap HX0.out]; rfl
        clear HX0 HB0 HQ HR y0 y1 hb
        obtain ⟨i0, hi0, hz0, hz1, hz2⟩ := info_parts infoAttr
        generalize hxs : cellsA (E.atr.take k) = xs at HR1 HSN
        clear hxs
        go_region_law (first | (refine step_append_lies _ (by rfl) _ _ _ (by rfl) (T + 1) 49 i0 _ 2 32 Tryz.underlying27 hi0 hz0 hz1 hz2 rfl (by omega) (.slice a k c) k xs (by rfl) (ow_alloc HOW4.out _) ⟨w4.heap.size, 0, none⟩ 1 1 [.string p1, .string p2] (by rfl) (by rfl) (World.news_of_block (cs := #[.string p1, .string p2]) (t := 49) (fr := (0, 0)) (heap_alloc_new w4 _)) (by simp [Value.oneCell']) (by omega) (by unfold maxLen; omega) (by omega) ?hb (w4.heap.size + 1) (by simp) ?_; (case hb => (have := heap_lt HQ4.out.tb; simp; omega)); intro g cap w5 hown hgrow hat hlt5; have HQ5 := Lib.hid ((HQ4.out.al _).gr hgrow (fun b e => (own_heap HOW4.out e).1)); have t5 : w5.cell? ⟨T, 2, none⟩ = some (.slice a k c) := (bx5 HQ5.out.tb).2.2.1; have f5 : w5.frozen? ⟨T, 2, none⟩ = false := Lib.frozen_of_heap HQ5.out.tb 2) | (go_simp; go_at_call 70; (with_reducible refine (CA.out _).mono ?_); rintro e w4 ⟨rfl, hb4⟩; have HQ4 := Lib.hid ((HQ1.out.dr).st hb4); have HOW4 := Lib.hid (ow_st (ow_dr HR1.out) hb4); have t4 : w4.cell? ⟨T, 2, none⟩ = some (.slice a k c) := (bx5 HQ4.out.tb).2.2.1; have t4b := cell_alloc t4 (.cells #[.string p1, .string p2] 49)))
        all_goals
          have HRN : Hid (AR T (E.atr.take (k + 1)) (some ⟨g, 0, none⟩) cap (w5.setCell ⟨T, 2, none⟩ (.slice (some ⟨g, 0, none⟩) (k + 1) cap))) := AR.put (HSN.out _ _ _ hown)
          have HQN := Lib.hid (HQ5.out.putA (.slice (some ⟨g, 0, none⟩) (k + 1) cap))
          clear hown hgrow hat hlt5 t5 f5 HQ5
          generalize w5.setCell ⟨T, 2, none⟩ (.slice (some ⟨g, 0, none⟩) (k + 1) cap) = W6 at HRN HQN ⊢
          go_wp2_with fail
          go_roundw
          case rel => exact ⟨k + 1, _, _, by go_num, by omega, HQN.out, HRN.out⟩
          case measure => simp [RowKit.intOf]; omega
      · obtain rfl : k = nA := by omega
        obtain ⟨x0, x1, x2, x3, x4⟩ := bx5 HQ.out.eb
        have HA : Hid (AR T E.atr a c wr ∧ ∀ b, (Value.slice a k c).ownBlock = some b → b < wr.heap.size) := by
          have h1 := HR.out
          rw [List.take_of_length_le (by omega)] at h1
          refine ⟨h1, ?_⟩
          have := h1.lt2
          rw [hnA] at this
          exact this
        have HR1 : Hid (KR wr.heap.size (E.ks.take 0) none 0 wr) := KR.nil _ _
        have hTN : T < wr.heap.size := heap_lt HQ.out.tb
        clear HR
        generalize hN : wr.heap.size = N at HR1 HA hTN
        have HN : Hid (N ≤ wr.heap.size) := by show _ ≤ _; omega
        go_wp2_with fail
        go_loopw [39] (fun i wq => ∃ (k2 : Nat) (a2 : Option Addr) (c2 : Nat), i = .int .i64 k2 ∧ k2 ≤ nK ∧ Hid (Tq #[.string sp, .string nm, .slice aA k cA, .string tx, .slice aK nK cK] sp nm tx w T (.slice a k c) (.slice a2 k2 c2) wq) ∧ Hid (KR N (E.ks.take k2) a2 c2 wq) ∧ Hid (AR T E.atr a c wq) ∧ Hid (N ≤ wq.heap.size)) (fun i _ => nK - (RowKit.intOf i).toNat)
        case atStart => exact ⟨0, none, 0, rfl, Nat.zero_le _, HQ.out, HR1.out, HA.out.1, HN.out⟩
        case round =>
          have HAL := Lib.hid HA.out.2
          clear HQ HR1 x0 x1 x2 x3 x4 HA HN
          obtain ⟨k2, a2, c2, rfl, hk2, HQ, HR, HA, HN⟩ := hrel
          have hlk2 : (E.ks.take k2).length = k2 := by rw [List.length_take, hnK]; omega
          by_cases hlt : k2 < nK
          · have hlt2 : k2 < E.ks.length := by omega
            obtain ⟨b, o, ka1, kc1, ka2, kc2, rfl, hb, hf5, hkin⟩ := (HKS.out.below (HQ.out.bel.mono HBB.out)) k2 hlt2
            obtain ⟨y0, y1, y2, y3, y4⟩ := hf5
            have hkw := HKW.out _ (List.getElem_mem hlt2)
            have hik := IH.out _ (List.getElem_mem hlt2)
            have HTK : Hid (E.ks.take (k2 + 1) = E.ks.take k2 ++ [E.ks[k2]]) := List.take_succ_eq_append_getElem hlt2
            generalize E.ks[k2] = K at y0 y1 y2 y3 y4 hkin hkw hik HTK
            have HB0 : Hid (Below wr.heap.size wr (wr.alloc (.cells #[.string K.sp, .string K.nm, .slice ka1 K.atr.length kc1, .string K.tx, .slice ka2 K.ks.length kc2] 29))) := (Below.refl _ wr).alloc (Nat.le_refl _) _
            have HX0 := Lib.hid (box_new wr #[.string K.sp, .string K.nm, .slice ka1 K.atr.length kc1, .string K.tx, .slice ka2 K.ks.length kc2] 29)
            have HQ1 := Lib.hid (HQ.out.st HB0.out)
            have HR1 := Lib.hid (HR.out.st HB0.out)
            have HA1 := Lib.hid (HA.out.st HB0.out)
            have HN1 : Hid (N ≤ (wr.alloc (.cells #[.string K.sp, .string K.nm, .slice ka1 K.atr.length kc1, .string K.tx, .slice ka2 K.ks.length kc2] 29)).heap.size) := Nat.le_trans HN.out HB0.out.size
            have hl1 : T < wr.heap.size := heap_lt HQ.out.tb
            have HC : Hid (Calls Tryz.prog 94 #[.agg #[.string K.sp, .string K.nm, .slice ka1 K.atr.length kc1, .string K.tx, .slice ka2 K.ks.length kc2]] (wr.alloc (.cells #[.string K.sp, .string K.nm, .slice ka1 K.atr.length kc1, .string K.tx, .slice ka2 K.ks.length kc2] 29)).drew (TwP K (wr.alloc (.cells #[.string K.sp, .string K.nm, .slice ka1 K.atr.length kc1, .string K.tx, .slice ka2 K.ks.length kc2] 29)).drew)) :=
              hik B _ _ (hkin.stay ((HB0.out.drew).mono (Nat.le_trans HBB.out HQ.out.bel.size))) (Nat.le_trans HBB.out (Nat.le_trans HQ.out.bel.size HB0.out.size)) hkw
            clear hkin hik hkw
            go_wp2_with fail
            generalize wr.alloc (.cells #[.string K.sp, .string K.nm, .slice ka1 K.atr.length kc1, .string K.tx, .slice ka2 K.ks.length kc2] 29) = W1 at HX0 HQ1 HR1 HA1 HN1 HC ⊢
            have t1 : W1.cell? ⟨T, 4, none⟩ = some (.slice a2 k2 c2) := (bx5 HQ1.out.tb).2.2.2.2
            obtain ⟨b0, b1, b2, b3, b4⟩ := bx5 HX0.out
            clear HX0 HB0 HQ HR HA HN y0 y1 y2 y3 y4 hb
            obtain ⟨i0, hi0, hz0, hz1, hz2⟩ := info_parts infoElem
            go_region_law (first | (refine step_append_lies _ (by rfl) _ _ _ (by rfl) N 29 i0 _ 5 96 Tryz.underlying24 hi0 hz0 hz1 hz2 rfl (by omega) (.slice a2 k2 c2) k2 xs (by rfl) (ow_alloc HOW4.out _) ⟨w4.heap.size, 0, none⟩ 1 1 [.string K.sp, .string K.nm, .slice ta1 K.atr.length tc1, .string K.tx, .slice ta2 K.ks.length tc2] (by rfl) (by rfl) (World.news_of_block (cs := #[.string K.sp, .string K.nm, .slice ta1 K.atr.length tc1, .string K.tx, .slice ta2 K.ks.length tc2]) (t := 29) (fr := (0, 0)) (heap_alloc_new w4 _)) (by simp [Value.oneCell']) (by omega) (by unfold maxLen; omega) (by omega) ?hb (w4.heap.size + 1) (by simp) ?_; (case hb => (have := HN4.out; simp; omega)); intro g cap w5 hown hgrow hat hlt5; have HQ5 := Lib.hid ((HQ4.out.al _).gr hgrow (fun b e => Nat.lt_of_lt_of_le hTN (own_heap HOW4.out e).1)); have t5 : w5.cell? ⟨T, 4, none⟩ = some (.slice a2 k2 c2) := (bx5 HQ5.out.tb).2.2.2.2; have f5 : w5.frozen? ⟨T, 4, none⟩ = false := Lib.frozen_of_heap HQ5.out.tb 4) | (go_simp; go_at_call 94; refine HC.out.mono ?_; rintro e w4 ⟨ta1, tc1, ta2, tc2, rfl, hins, hb4⟩; have HQ4 := Lib.hid (HQ1.out.dr.st hb4); have HA4 := Lib.hid (HA1.out.dr.st hb4); have HIN := Lib.hid hins; have HN4 : Hid (N ≤ w4.heap.size) := Nat.le_trans HN1.out hb4.size; obtain ⟨xs, hxs, hks4⟩ := (HR1.out.dr.st hb4).own; have HL4 : Hid (∀ b, (Value.slice a2 (E.ks.take k2).length c2).ownBlock = some b → b < W1.heap.size) := (fun b e => by obtain ⟨ys, hy, _⟩ := HR1.out.own; exact heap_lt (own_heap hy e).2.choose_spec); have HKS4 := Lib.hid hks4; have HOW4 : Hid (w4.ownsRow N 29 5 (.slice a2 k2 c2) k2 xs) := (by rw [hlk2] at hxs; exact hxs); have HOX4 := Lib.hid hxs; clear hxs hks4 hins; have t4 : w4.cell? ⟨T, 4, none⟩ = some (.slice a2 k2 c2) := (bx5 HQ4.out.tb).2.2.2.2; have t4b := cell_alloc t4 (.cells #[.string K.sp, .string K.nm, .slice ta1 K.atr.length tc1, .string K.tx, .slice ta2 K.ks.length tc2] 29)))
            all_goals
              have HRN : Hid (KR N (E.ks.take (k2 + 1)) (some ⟨g, 0, none⟩) cap (w5.setCell ⟨T, 4, none⟩ (.slice (some ⟨g, 0, none⟩) (k2 + 1) cap))) := by
                show KR N _ _ _ _
                rw [HTK.out]
                refine KR.put hTN (KR.app HOX4.out HKS4.out ((Below.refl _ w4).alloc (Nat.le_refl _) _) (by rw [hlk2]; exact hgrow) (by rw [hlk2]; rcases hat with h | h; exact .inl h; exact .inr (by rw [h]; simp)) HL4.out HN1.out HIN.out ?_)
                rw [hlk2]; exact hown
              have HAN : Hid (AR T E.atr a c (w5.setCell ⟨T, 4, none⟩ (.slice (some ⟨g, 0, none⟩) (k2 + 1) cap))) := by
                refine AR.put (own_keep (ow_alloc HA4.out _) fun b e => hgrow.block b ?_ ?_)
                · have := HA4.out.lt2 b e; simp; omega
                · intro e2
                  have h1 := (own_heap HOW4.out e2.symm).1
                  have h2 := HAL.out b (by rw [hnA] at e; exact e)
                  omega
              have HQN := Lib.hid (HQ5.out.putK (.slice (some ⟨g, 0, none⟩) (k2 + 1) cap))
              have HNN : Hid (N ≤ (w5.setCell ⟨T, 4, none⟩ (.slice (some ⟨g, 0, none⟩) (k2 + 1) cap)).heap.size) := by
                have h1 := HN4.out
                have h2 := hgrow.size
                show N ≤ _
                simp [World.setCell] at h2 ⊢; omega
              clear hown hgrow hat hlt5 t5 f5 HQ5
              generalize w5.setCell ⟨T, 4, none⟩ (.slice (some ⟨g, 0, none⟩) (k2 + 1) cap) = W6 at HRN HQN HAN HNN ⊢
              go_wp2_with fail
              go_roundw
              case rel => exact ⟨k2 + 1, _, _, by go_num, by omega, HQN.out, HRN.out, HAN.out, HNN.out⟩
              case measure => simp [RowKit.intOf]; omega
          · obtain ⟨z0, z1, z2, z3, z4⟩ := bx5 HQ.out.tb
            obtain ⟨q0, q1, q2, q3, q4⟩ := bx5 HQ.out.rb
            have p0 := Lib.frozen_of_heap HQ.out.rb 0
            have p1 := Lib.frozen_of_heap HQ.out.rb 1
            have p2 := Lib.frozen_of_heap HQ.out.rb 2
            have p3 := Lib.frozen_of_heap HQ.out.rb 3
            have p4 := Lib.frozen_of_heap HQ.out.rb 4
            obtain rfl : k2 = nK := by omega
            have HK2 : Hid (KR N E.ks a2 c2 wr) := by
              have h1 := HR.out
              rw [List.take_of_length_le (by omega)] at h1
              exact h1
            have hT1 := HQ.out.lt
            go_wp2_with fail
            exact bodyPost_ret (v := .agg #[.string sp, .string nm, (.slice a k c), .string tx, .slice a2 k2 c2]) (by simp [results, Tryz.results94, go_sem, q0, q1, q2, q3, q4]) rfl
              (HEND.out _ T N c c2 a a2 wr _ rfl HA.out HK2.out hT1 (by omega) (fun b hb => by
                have k : ∀ (W : World) (i : Nat) (u : Value), (W.setCell ⟨w.heap.size + 1, i, none⟩ u).heap[b]? = W.heap[b]? := fun W i u => Below.heap_setCell W ⟨w.heap.size + 1, i, none⟩ u b (by show b ≠ w.heap.size + 1; omega)
                rw [k, k, k, k, k])
                (((((HQ.out.bel.setCell (Nat.le_succ _) _).setCell (Nat.le_succ _) _).setCell (Nat.le_succ _) _).setCell (Nat.le_succ _) _).setCell (Nat.le_succ _) _))
end Go.Proofs.YtccpdfcmhggleaaGreatDoor
