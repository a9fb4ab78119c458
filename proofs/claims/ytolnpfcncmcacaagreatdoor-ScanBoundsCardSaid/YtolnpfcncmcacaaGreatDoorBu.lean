/- The contract of the document's wrong. Conditions: the events lie in a row of their own, at most a hundred. -/
import Derived.Test.YtolnpfcncmcacaaGreatDoorBt
namespace Go.Proofs.YtolnpfcncmcacaaGreatDoor
open Go.RowKit Go.Lib Go.Shelf Tg Sn

def wrongCells (e : Int) : List Value := [.int .i64 4, .string ⟨#[]⟩, .string ⟨#[]⟩, .slice none 0 0, .string ⟨#[]⟩, .slice none 0 0, .int .i64 e]
theorem box3 (w : World) (o1 o2 o3 : Obj) : (((w.alloc o1).alloc o2).alloc o3).heap[w.heap.size + 1 + 1]? = some o3 := by
  have := heap_alloc_new ((w.alloc o1).alloc o2) o3
  rw [show ((w.alloc o1).alloc o2).heap.size = w.heap.size + 1 + 1 by simp] at this
  exact this
theorem box1 (w : World) (o1 o2 o3 : Obj) : (((w.alloc o1).alloc o2).alloc o3).heap[w.heap.size]? = some o1 :=
  ((((Below.refl _ (w.alloc o1)).alloc (Nat.le_refl _) o2).alloc (by simp) o3).block _ (by simp)).trans (heap_alloc_new w o1)
theorem box2 (w : World) (o1 o2 o3 : Obj) : (((w.alloc o1).alloc o2).alloc o3).heap[w.heap.size + 1]? = some o2 := by
  have h1 := heap_alloc_new (w.alloc o1) o2
  rw [show (w.alloc o1).heap.size = w.heap.size + 1 by simp] at h1
  have h2 := ((Below.refl _ ((w.alloc o1).alloc o2)).alloc (Nat.le_refl _) o3).block (w.heap.size + 1) (by simp)
  exact h2.trans h1
def Seven (w : World) (N : Nat) (u0 u1 u2 u3 u4 u5 u6 : Value) : World := (((((((w.setCell ⟨N, 4, none⟩ u0).setCell ⟨N, 3, none⟩ u1).setCell ⟨N + 1, 0, none⟩ u2).setCell ⟨N + 1, 1, none⟩ u3).setCell ⟨N + 1, 2, none⟩ u4).setCell ⟨N + 1, 3, none⟩ u5).setCell ⟨N + 1, 4, none⟩ u6)
theorem seven_own {W : World} {B N : Nat} {T : TypeId} {n c g k : Nat} {xs : List Value} {u0 u1 u2 u3 u4 u5 u6 : Value} (h : W.ownsRow B T k (.slice (some ⟨g, 0, none⟩) n c) n xs) (h1 : g ≠ N) (h2 : g ≠ N + 1) : (Seven W N u0 u1 u2 u3 u4 u5 u6).ownsRow B T k (.slice (some ⟨g, 0, none⟩) n c) n xs := by
  have e1 : (Value.slice (some ⟨g, 0, none⟩) n c).ownBlock ≠ some N := fun e => h1 (Option.some.inj e)
  have e2 : (Value.slice (some ⟨g, 0, none⟩) n c).ownBlock ≠ some (N + 1) := fun e => h2 (Option.some.inj e)
  exact ownsRow_setCell_other (ownsRow_setCell_other (ownsRow_setCell_other (ownsRow_setCell_other (ownsRow_setCell_other (ownsRow_setCell_other (ownsRow_setCell_other h e1 _) e1 _) e2 _) e2 _) e2 _) e2 _) e2 _
theorem seven_below {W0 W : World} {B N : Nat} {u0 u1 u2 u3 u4 u5 u6 : Value} (h : Below B W0 W) (hN : B ≤ N) : Below B W0 (Seven W N u0 u1 u2 u3 u4 u5 u6) :=
  ((((((h.setCell hN _).setCell hN _).setCell (Nat.le_succ_of_le hN) _).setCell (Nat.le_succ_of_le hN) _).setCell (Nat.le_succ_of_le hN) _).setCell (Nat.le_succ_of_le hN) _).setCell (Nat.le_succ_of_le hN) _
set_option maxRecDepth 100000 in
set_option maxHeartbeats 4000000 in
theorem wrong_any (B : Nat) (w : World) (o : Option Addr) (n c : Nat) (sz e : Int) (b1 b2 : Bool) (a : Option Addr) (m d : Nat) (xs : List Value) (hB : B ≤ w.heap.size) (hx : w.ownsRow B 50 7 (.slice a m d) m xs) (hm : m ≤ 100) :
    Calls Tryz.prog 28 #[.agg #[.slice o n c, .int .i64 sz, .bool b1, .bool b2, .slice a m d], .int .i64 e] w fun r w' => ∃ (a' : Option Addr) (d' : Nat), r = .returned (.agg #[.slice o n c, .int .i64 sz, .bool b1, .bool true, .slice a' (m + 1) d']) ∧
      w'.ownsRow B 50 7 (.slice a' (m + 1) d') (m + 1) (xs ++ wrongCells e) ∧ Below B w w' ∧ ∀ b, b < w.heap.size → (Value.slice a m d).ownBlock ≠ some b → w'.heap[b]? = w.heap[b]? := by
  obtain ⟨i0, hi0, hz0, hz1, hz2⟩ := info_parts infoEv
  have HX := Lib.hid hx
  have HB := Lib.hid hB
  have HM := Lib.hid hm
  clear hx hB
  go_enter Tryz.func28, Tryz.ntmps28
  go_wp2_with (at_builtin; go_loud (refine wpList_append_lies _ rfl _ _ 27 rfl B 50 i0 _ 7 112 Tryz.underlying27 hi0 hz0 hz1 hz2 rfl (by decide) _ m xs rfl (((HX.out.alloc _).alloc _).alloc _) ⟨w.heap.size + 1 + 1, 0, none⟩ 1 1 [.int .i64 4, .string ⟨#[]⟩, .string ⟨#[]⟩, .slice none 0 0, .string ⟨#[]⟩, .slice none 0 0, .int .i64 e] rfl rfl (World.news_of_block (cs := #[.int .i64 4, .string ⟨#[]⟩, .string ⟨#[]⟩, .slice none 0 0, .string ⟨#[]⟩, .slice none 0 0, .int .i64 e]) (t := 50) (fr := (0, 0)) (box3 w _ _ _)) (by simp [Value.oneCell']) (by decide) (by have := HM.out; unfold maxLen; omega) (by have := HM.out; omega) (by have := HB.out; simp; omega) _ rfl ?_; intro g cap w3 hown hgrow hat hlt3; have HG : Hid (g ≠ w.heap.size ∧ g ≠ w.heap.size + 1) := (by rcases hat with h | h; exact (by have := (HX.out.lt g h).2; constructor <;> omega); exact (by simp at h; constructor <;> omega)); clear hat; have hgrow : World.grownBy _ w3 (Value.slice a m d).ownBlock := hgrow; have hq := (hgrow.block w.heap.size (by simp <;> omega) (fun e => by have := (HX.out.lt _ e.symm).2; omega)).trans (box1 w _ _ _); have hr := (hgrow.block (w.heap.size + 1) (by simp <;> omega) (fun e => by have := (HX.out.lt _ e.symm).2; omega)).trans (box2 w _ _ _); obtain ⟨x0, x1, x2, x3, x4⟩ := bx5 hq; obtain ⟨y0, y1, y2, y3, y4⟩ := bx5 hr; have fz := fun i => Lib.frozen_of_heap hq i; have fy := fun i => Lib.frozen_of_heap hr i; have hl4 := heap_lt hq; have hl5 := heap_lt hr; have HGR := Lib.hid hgrow; have HOW := Lib.hid hown; have HQ := Lib.hid hq; have HR := Lib.hid hr; clear hgrow hown))
  exact bodyPost_ret (v := .agg #[.slice o n c, .int .i64 sz, .bool b1, .bool true, .slice (some ⟨g, 0, none⟩) (m + 1) cap]) (by simp [results, Tryz.results28, go_sem, y0, y1, y2, y3, y4]) rfl
    ⟨_, _, rfl, seven_own HOW.out HG.out.1 HG.out.2, seven_below ((((Below.refl B w).alloc HB.out _).alloc (by have := HB.out; simp; omega) _).alloc (by have := HB.out; simp; omega) _ |>.grown HGR.out (by have := HB.out; simp; omega) fun b e => (HX.out.lt b e).1) HB.out, fun b hb hne => ((seven_below (Below.refl w.heap.size w3) (Nat.le_refl _)).block b hb).trans ((HGR.out.block b (by simp; omega) (fun e => hne e.symm)).trans ((((((Below.refl _ w).alloc (Nat.le_refl _) _).alloc (by simp) _).alloc (by simp; omega) _).block b hb)))⟩
end Go.Proofs.YtolnpfcncmcacaaGreatDoor
