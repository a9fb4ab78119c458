/- What operations of a region promise, as a list; rows of kids in a block; the eight lines of package payload; what asks are. No condition. -/
import Derived.Test.YtlklmoohoobjjaaGreatDoorPc
import Derived.Test.YtlklmoohoobjjaaGreatDoorRp
namespace Go.Proofs.YtlklmoohoobjjaaGreatDoor
open Go.RowKit Go.Lib Go.Shelf Tg

/-- A promise that stays. -/
structure Pr where
  p : Value → World → Prop
  m : ∀ v W W', Below W.heap.size W W' → p v W → p v W'
def Pr.tt : Pr := ⟨fun _ _ => True, fun _ _ _ _ h => h⟩
def Pr.eq (u : Value) : Pr := ⟨fun v _ => v = u, fun _ _ _ _ h => h⟩
def Pr.blk (N n : Nat) (cs : Array Value) (T : TypeId) : Pr := ⟨fun v W => ∃ B, v = .slice (some ⟨B, 0, none⟩) n n ∧ N ≤ B ∧ W.heap[B]? = some (.cells cs T (0, 0)), fun _ _ _ hb ⟨B, h1, h2, h3⟩ => ⟨B, h1, h2, (hb.block _ (heap_lt h3)).trans h3⟩⟩
def Pr.bx (N : Nat) (cs : Array Value) (T : TypeId) : Pr := ⟨fun v W => ∃ B, v = .pointer (some ⟨B, 0, none⟩) ∧ N ≤ B ∧ W.heap[B]? = some (.cells cs T (0, 0)), fun _ _ _ hb ⟨B, h1, h2, h3⟩ => ⟨B, h1, h2, (hb.block _ (heap_lt h3)).trans h3⟩⟩
def Pr.el (N : Nat) (E : El) : Pr := ⟨fun v W => ∃ aA cA aK cK, v = .agg #[.string E.sp, .string E.nm, .slice aA E.atr.length cA, .string E.tx, .slice aK E.ks.length cK] ∧ InS (fun b => N ≤ b) W E v, fun _ _ _ hb ⟨aA, cA, aK, cK, h1, h2⟩ => ⟨aA, cA, aK, cK, h1, h2.stay hb⟩⟩
/-- An element without kids, as New made it. -/
def Pr.nw (N : Nat) (sp nm : ByteArray) (l : List At) : Pr := ⟨fun v W => ∃ aA cA, v = .agg #[.string sp, .string nm, .slice aA l.length cA, .string ⟨#[]⟩, .slice none 0 0] ∧ InS (fun b => N ≤ b) W (.mk sp nm l ⟨#[]⟩ []) v, fun _ _ _ hb ⟨aA, cA, h1, h2⟩ => ⟨aA, cA, h1, h2.stay hb⟩⟩
def Pr.row (N : Nat) (E : El) : Pr := ⟨fun v W => ∃ B v0 v1 v2 v3 v4, v = .slice (some ⟨B, 0, none⟩) 1 1 ∧ N ≤ B ∧ W.heap[B]? = some (.cells #[v0, v1, v2, v3, v4] 30 (0, 0)) ∧ InS (fun b => N ≤ b) W E (.agg #[v0, v1, v2, v3, v4]),
  fun _ _ _ hb ⟨B, v0, v1, v2, v3, v4, h1, h2, h3, h4⟩ => ⟨B, v0, v1, v2, v3, v4, h1, h2, (hb.block _ (heap_lt h3)).trans h3, h4.stay hb⟩⟩
def psL (L : List Pr) (j : Nat) (v : Value) (W : World) : Prop := (L.getD j Pr.tt).p v W
theorem psL_mono (L : List Pr) : ∀ j v W W', Below W.heap.size W W' → psL L j v W → psL L j v W' := fun j v W W' hb h => (L.getD j Pr.tt).m v W W' hb h
theorem blk_new {N n : Nat} {cs : Array Value} {T : TypeId} {W : World} (h : N ≤ W.heap.size) : (Pr.blk N n cs T).p (.slice (some ⟨W.heap.size, 0, none⟩) n n) (W.alloc (.cells cs T)) := ⟨_, rfl, h, box_new W _ _⟩
theorem bx_new {N : Nat} {cs : Array Value} {T : TypeId} {W : World} (h : N ≤ W.heap.size) : (Pr.bx N cs T).p (.pointer (some ⟨W.heap.size, 0, none⟩)) (W.alloc (.cells cs T)) := ⟨_, rfl, h, box_new W _ _⟩
theorem row_new {N : Nat} {E : El} {v0 v1 v2 v3 v4 : Value} {W : World} (h : N ≤ W.heap.size) (he : InS (fun b => N ≤ b) W E (.agg #[v0, v1, v2, v3, v4])) : (Pr.row N E).p (.slice (some ⟨W.heap.size, 0, none⟩) 1 1) (W.alloc (.cells #[v0, v1, v2, v3, v4] 30)) :=
  ⟨_, _, _, _, _, _, rfl, h, box_new W _ _, he.stay ((Below.refl _ W).alloc (Nat.le_refl _) _)⟩

/-! ### Rows of kids in a block -/
/-- A kid with a text alone. -/
abbrev lf (n t : ByteArray) : El := .mk ⟨#[]⟩ n [] t []
theorem ks_el {S : Nat → Prop} {W : World} {B : Nat} {E : El} {v0 v1 v2 v3 v4 : Value} {fz : Nat × Nat} (h : W.heap[B]? = some (.cells #[v0, v1, v2, v3, v4] 30 fz)) (hS : S B) (he : InS S W E (.agg #[v0, v1, v2, v3, v4])) : KsS S W (some ⟨B, 0, none⟩) [E] := fun i hi => by
  have hi0 : i < 1 := hi
  obtain rfl : i = 0 := by omega
  obtain ⟨x0, x1, x2, x3, x4⟩ := bx5 h
  exact ⟨B, 0, v0, v1, v2, v3, v4, rfl, hS, ⟨x0, x1, x2, x3, x4⟩, he⟩
theorem ks_1 {S : Nat → Prop} {W : World} {B : Nat} {n1 t1 : ByteArray} {fz : Nat × Nat} (h : W.heap[B]? = some (.cells #[.string ⟨#[]⟩, .string n1, .slice none 0 0, .string t1, .slice none 0 0] 30 fz)) (hS : S B) (h1 : n1.size ≤ 1048576) (h2 : t1.size ≤ 1048576) : KsS S W (some ⟨B, 0, none⟩) [lf n1 t1] :=
  ks_el h hS (ins_leaf S W _ n1 t1 (by decide) (by omega) (by omega))
theorem ks_2 {S : Nat → Prop} {W : World} {B : Nat} {n1 t1 n2 t2 : ByteArray} {fz : Nat × Nat} (h : W.heap[B]? = some (.cells #[.string ⟨#[]⟩, .string n1, .slice none 0 0, .string t1, .slice none 0 0, .string ⟨#[]⟩, .string n2, .slice none 0 0, .string t2, .slice none 0 0] 30 fz)) (hS : S B) (h1 : n1.size ≤ 1048576) (h2 : t1.size ≤ 1048576) (h3 : n2.size ≤ 1048576) (h4 : t2.size ≤ 1048576) : KsS S W (some ⟨B, 0, none⟩) [lf n1 t1, lf n2 t2] := fun i hi => by
  have hi0 : i < 2 := hi
  have c := fun j => Lib.cell_of_heap (w := W) (b := B) h j
  have hc : i = 0 ∨ i = 1 := by omega
  rcases hc with rfl | rfl
  · exact ⟨B, 0, _, _, _, _, _, rfl, hS, ⟨c 0, c 1, c 2, c 3, c 4⟩, ins_leaf S W _ n1 t1 (by decide) (by omega) (by omega)⟩
  · exact ⟨B, 0, _, _, _, _, _, rfl, hS, ⟨c 5, c 6, c 7, c 8, c 9⟩, ins_leaf S W _ n2 t2 (by decide) (by omega) (by omega)⟩
theorem ks_3 {S : Nat → Prop} {W : World} {B : Nat} {n1 t1 n2 t2 n3 t3 : ByteArray} {fz : Nat × Nat} (h : W.heap[B]? = some (.cells #[.string ⟨#[]⟩, .string n1, .slice none 0 0, .string t1, .slice none 0 0, .string ⟨#[]⟩, .string n2, .slice none 0 0, .string t2, .slice none 0 0, .string ⟨#[]⟩, .string n3, .slice none 0 0, .string t3, .slice none 0 0] 30 fz)) (hS : S B) (h1 : n1.size ≤ 1048576) (h2 : t1.size ≤ 1048576) (h3 : n2.size ≤ 1048576) (h4 : t2.size ≤ 1048576) (h5 : n3.size ≤ 1048576) (h6 : t3.size ≤ 1048576) : KsS S W (some ⟨B, 0, none⟩) [lf n1 t1, lf n2 t2, lf n3 t3] := fun i hi => by
  have hi0 : i < 3 := hi
  have c := fun j => Lib.cell_of_heap (w := W) (b := B) h j
  have hc : i = 0 ∨ i = 1 ∨ i = 2 := by omega
  rcases hc with rfl | rfl | rfl
  · exact ⟨B, 0, _, _, _, _, _, rfl, hS, ⟨c 0, c 1, c 2, c 3, c 4⟩, ins_leaf S W _ n1 t1 (by decide) (by omega) (by omega)⟩
  · exact ⟨B, 0, _, _, _, _, _, rfl, hS, ⟨c 5, c 6, c 7, c 8, c 9⟩, ins_leaf S W _ n2 t2 (by decide) (by omega) (by omega)⟩
  · exact ⟨B, 0, _, _, _, _, _, rfl, hS, ⟨c 10, c 11, c 12, c 13, c 14⟩, ins_leaf S W _ n3 t3 (by decide) (by omega) (by omega)⟩

/-! ### What asks are -/
def sReg : ByteArray := ⟨#[106, 97, 98, 98, 101, 114, 58, 105, 113, 58, 114, 101, 103, 105, 115, 116, 101, 114]⟩
def sGat : ByteArray := ⟨#[106, 97, 98, 98, 101, 114, 58, 105, 113, 58, 103, 97, 116, 101, 119, 97, 121]⟩
def sInf : ByteArray := ⟨#[104, 116, 116, 112, 58, 47, 47, 106, 97, 98, 98, 101, 114, 46, 111, 114, 103, 47, 112, 114, 111, 116, 111, 99, 111, 108, 47, 100, 105, 115, 99, 111, 35, 105, 110, 102, 111]⟩
def sItm : ByteArray := ⟨#[104, 116, 116, 112, 58, 47, 47, 106, 97, 98, 98, 101, 114, 46, 111, 114, 103, 47, 112, 114, 111, 116, 111, 99, 111, 108, 47, 100, 105, 115, 99, 111, 35, 105, 116, 101, 109, 115]⟩
def sLst : ByteArray := ⟨#[106, 97, 98, 98, 101, 114, 58, 105, 113, 58, 108, 97, 115, 116]⟩
def askK (k : Int) : ByteArray := if k = 2 ∨ k = 3 ∨ k = 5 then ⟨#[115, 101, 116]⟩ else if k = 1 ∨ k = 4 ∨ k = 6 ∨ k = 7 ∨ k = 8 then ⟨#[103, 101, 116]⟩ else ⟨#[]⟩
def askS (k : Int) : ByteArray := if k = 1 ∨ k = 2 ∨ k = 3 then sReg else if k = 4 ∨ k = 5 then sGat else if k = 6 then sInf else if k = 7 then sItm else sLst
def askQ (k : Int) (us pw tx : ByteArray) : List El := if k = 3 then [lf ⟨#[114, 101, 109, 111, 118, 101]⟩ ⟨#[]⟩] else if k = 2 then [lf ⟨#[117, 115, 101, 114, 110, 97, 109, 101]⟩ us, lf ⟨#[112, 97, 115, 115, 119, 111, 114, 100]⟩ pw] else if k = 5 then [lf ⟨#[112, 114, 111, 109, 112, 116]⟩ tx] else []
def askE (k : Int) (us pw tx : ByteArray) : El := if 1 ≤ k ∧ k ≤ 8 then .mk (askS k) ⟨#[113, 117, 101, 114, 121]⟩ [] ⟨#[]⟩ ((askQ k us pw tx).map (reS (askS k))) else .mk ⟨#[]⟩ ⟨#[]⟩ [] ⟨#[]⟩ []
theorem askS_size (k : Int) : (askS k).size ≤ 100 := by
  unfold askS; split
  · decide
  · split
    · decide
    · split
      · decide
      · split <;> decide
end Go.Proofs.YtlklmoohoobjjaaGreatDoor
