/- Contracts of the document's closes and ends where two elements are open. Conditions: those of each theorem's head. -/
import Derived.Test.YtolnpfcncmcacaaGreatDoorCa
namespace Go.Proofs.YtolnpfcncmcacaaGreatDoor
open Go.RowKit Go.Lib Go.Shelf Tg Sn

def stanzaCells (q tx : ByteArray) : List Value := [.int .i64 2, .string ⟨#[98]⟩, .string q, .slice none 0 0, .string tx, .slice none 0 0, .int .i64 0]
theorem own_up {w W : World} {B k n : Nat} {T : TypeId} {v : Value} {xs : List Value} (h : w.ownsRow B T k v n xs) (hb : Below w.heap.size w W) : W.ownsRow B T k v n xs := own_kpb h (kpb_below hb)
theorem Fb.cell {w W : World} {s : Sv} (h : Fb w s W) {g i : Nat} {u : Value} (hg : g < w.heap.size) (hc : w.cell? ⟨g, i, none⟩ = some u) : W.cell? ⟨g, i, none⟩ = some u := (h.bel.cell (p := ⟨g, i, none⟩) hg).trans hc
theorem put_one {w W : World} {s : Sv} (h : Fb w s W) (o : Option Addr) (n c : Nat) : Fb w { s with o := o, n := n, c := c } (W.setCell ⟨w.heap.size, 0, none⟩ (.slice o n c)) := by
  have hne : w.heap.size ≠ w.heap.size + 1 := by omega
  refine ⟨h.bel.setCell (Nat.le_refl _) _, ?_, ?_⟩
  · simp [World.setCell, Array.getElem?_modify, h.bx]
  · simp [World.setCell, Array.getElem?_modify, h.rt]
theorem put_out {w W : World} {s : Sv} (h : Fb w s W) (o : Option Addr) (n c : Nat) : Fb w { s with a := o, m := n, d := c } (W.setCell ⟨w.heap.size, 4, none⟩ (.slice o n c)) := by
  refine ⟨h.bel.setCell (Nat.le_refl _) _, ?_, ?_⟩
  · simp [World.setCell, Array.getElem?_modify, h.bx]
  · simp [World.setCell, Array.getElem?_modify, h.rt]
theorem gb_below {w W : World} {r : Option Nat} (h : Below w.heap.size w W) : w.grownBy W r := ⟨h.os, h.tape, h.output, h.size, fun k hk _ => h.block k hk⟩
theorem gb_trans {w w1 w2 : World} {r : Option Nat} (h1 : w.grownBy w1 r) (h2 : w1.grownBy w2 r) : w.grownBy w2 r :=
  ⟨h2.os.trans h1.os, h2.tape.trans h1.tape, h2.output.trans h1.output, Nat.le_trans h1.size h2.size, fun k hk hne => (h2.block k (Nat.lt_of_lt_of_le hk h1.size) hne).trans (h1.block k hk hne)⟩
theorem gb_set {w w1 : World} {r : Option Nat} {N i : Nat} {v : Value} (h : w.grownBy w1 r) (hN : w.heap.size ≤ N) : w.grownBy (w1.setCell ⟨N, i, none⟩ v) r :=
  ⟨h.os, h.tape, h.output, by simp [World.setCell]; exact h.size, fun k hk hne => by
    have e : N ≠ k := by omega
    rw [show (w1.setCell ⟨N, i, none⟩ v).heap[k]? = w1.heap[k]? from by simp [World.setCell, Array.getElem?_modify, e]]
    exact h.block k hk hne⟩
theorem gb_put5 {w w1 : World} {r : Option Nat} {N : Nat} (h : w.grownBy w1 r) (hN : w.heap.size ≤ N) (v0 v1 v2 v3 v4 : Value) : w.grownBy (Put5 w1 N v0 v1 v2 v3 v4) r := gb_set (gb_set (gb_set (gb_set (gb_set h hN) hN) hN) hN) hN
theorem gb_bel {B : Nat} {w W : World} {r : Option Nat} (h : w.grownBy W r) (hB : B ≤ w.heap.size) (hr : ∀ b, r = some b → B ≤ b) : Below B w W := (Below.refl B w).grown h hB hr
/-- The boxes of a function that takes a State and answers one, where an older row may grow. -/
structure Fg (r : Option Nat) (w : World) (s : Sv) (W : World) : Prop where
  gr : w.grownBy W r
  bx : W.heap[w.heap.size]? = some (.cells #[.slice s.o s.n s.c, .int .i64 s.sz, .bool s.f, .bool s.e, .slice s.a s.m s.d] 31 (0, 0))
  rt : W.heap[w.heap.size + 1]? = some (.cells #[.slice none 0 0, .int .i64 0, .bool false, .bool false, .slice none 0 0] 31 (0, 0))
theorem Fb.call {w W W' : World} {s : Sv} {r : Option Nat} (h : Fb w s W) (hg : W.grownBy W' r) (hr : ∀ b, r = some b → b < w.heap.size) : Fg r w s W' := by
  have h2 := h.big
  refine ⟨gb_trans (gb_below h.bel) hg, (hg.block _ (by omega) (fun e => ?_)).trans h.bx, (hg.block _ (by omega) (fun e => ?_)).trans h.rt⟩
  · have := hr _ e.symm; omega
  · have := hr _ e.symm; omega
theorem put5_block {W : World} {N b : Nat} (h1 : N ≠ b) (v0 v1 v2 v3 v4 : Value) : (Put5 W N v0 v1 v2 v3 v4).heap[b]? = W.heap[b]? := by
  simp [Put5, World.setCell, Array.getElem?_modify, h1]
theorem own_not {W : World} {B k n b : Nat} {T U : TypeId} {v : Value} {xs : List Value} {cs : Array Value} (h : W.ownsRow B T k v n xs) (hb : v.ownBlock = some b) (hT : T ≠ U) (hc : W.heap[b]? = some (.cells cs U (0, 0))) : False := by
  obtain ⟨_, cur, h1⟩ := own_heap h hb
  rw [h1] at hc
  simp only [Option.some.injEq, Obj.cells.injEq] at hc
  exact hT hc.2.1
theorem fin_blockI {W : World} {N b i : Nat} (h1 : b ≠ N) (h2 : b ≠ N + 1) (v v0 v1 v2 v3 v4 : Value) : (Put5 (W.setCell ⟨N, i, none⟩ v) (N + 1) v0 v1 v2 v3 v4).heap[b]? = W.heap[b]? := by
  have e1 : N ≠ b := fun e => h1 e.symm
  have e2 : N + 1 ≠ b := fun e => h2 e.symm
  simp [Put5, World.setCell, Array.getElem?_modify, e1, e2]
theorem put5_belB {B : Nat} {w W : World} {N : Nat} (h : Below B w W) (hN : B ≤ N) (v0 v1 v2 v3 v4 : Value) : Below B w (Put5 W N v0 v1 v2 v3 v4) :=
  ((((h.setCell hN _).setCell hN _).setCell hN _).setCell hN _).setCell hN _
set_option maxRecDepth 100000 in
set_option maxHeartbeats 4000000 in
theorem closes_two (B : Nat) (w : World) (o : Option Addr) (c : Nat) (sz : Int) (a : Option Addr) (m d : Nat) (q tx : ByteArray) (ev : List Value) (hB : B ≤ w.heap.size) (h : OpR B w o 2 c q tx) (hx : w.ownsRow B 50 7 (.slice a m d) m ev) (hm : m ≤ 100) :
    Calls Tryz.prog 80 #[.agg #[.slice o 2 c, .int .i64 sz, .bool false, .bool false, .slice a m d]] w fun r w' => ∃ (o' : Option Addr) (c' : Nat) (a' : Option Addr) (d' : Nat), r = .returned (.agg #[.slice o' 1 c', .int .i64 sz, .bool false, .bool false, .slice a' (m + 1) d']) ∧
      w'.ownsRow B 50 7 (.slice a' (m + 1) d') (m + 1) (ev ++ stanzaCells q tx) ∧ w.grownBy w' (Value.slice a m d).ownBlock := by
  obtain ⟨i0, hi0, hz0, hz1, hz2⟩ := info_parts infoOp
  obtain ⟨j0, hj0, hy0, hy1, hy2⟩ := info_parts infoEv
  obtain ⟨g, xs, gD, dD, rfl, hO, h1, hD⟩ := h
  have hl := (OpR.len hO).2
  have hg : g < w.heap.size := (hO.lt g rfl).2
  have ca := fun j (hj : j < 7) => (hO.cellAt (1 * 7 + j) (by omega)).trans (opV_at (k := 1) hl q tx _ _ j hj)
  have c8 : w.cell? ⟨g, 8, none⟩ = some (.string ⟨#[98]⟩) := ca 1 (by decide)
  have c9 : w.cell? ⟨g, 9, none⟩ = some (.string q) := ca 2 (by decide)
  have c10 : w.cell? ⟨g, 10, none⟩ = some (.slice none 0 0) := ca 3 (by decide)
  have c11 : w.cell? ⟨g, 11, none⟩ = some (.string tx) := ca 4 (by decide)
  have c12 : w.cell? ⟨g, 12, none⟩ = some (.slice none 0 0) := ca 5 (by decide)
  have HO := Lib.hid hO
  have HX := Lib.hid hx
  have H1 := Lib.hid h1
  have F0 := Lib.hid (Fb.new w ⟨some ⟨g, 0, none⟩, 2, c, sz, false, false, a, m, d⟩)
  clear ca hO hD h1 hx
  go_enter Tryz.func80, Tryz.ntmps80
  go_upto_region 1 with fail
  generalize (w.alloc (.cells #[.slice (some ⟨g, 0, none⟩) 2 c, .int .i64 sz, .bool false, .bool false, .slice a m d] 31)).alloc (.cells #[.slice none 0 0, .int .i64 0, .bool false, .bool false, .slice none 0 0] 31) = w1 at F0 ⊢
  have g8 := F0.out.cell hg c8
  have g9 := F0.out.cell hg c9
  have g10 := F0.out.cell hg c10
  have g11 := F0.out.cell hg c11
  have g12 := F0.out.cell hg c12
  have HO1 := Lib.hid (own_up HO.out F0.out.bel)
  have HX1 := Lib.hid (own_up HX.out F0.out.bel)
  have HXL : Hid (∀ b, (Value.slice a m d).ownBlock = some b → B ≤ b ∧ b < w.heap.size) := HX.out.lt
  obtain ⟨x0, x1, x2, x3, x4⟩ := bx5 F0.out.bx
  dsimp only at x0 x1 x2 x3 x4
  have h2 := F0.out.big
  have lx : w.heap.size < w1.heap.size := by omega
  have hgw : g < w1.heap.size := by omega
  clear c8 c9 c10 c11 c12 HO HX
  go_upto_region 3 with fail
  have F2 := Lib.hid (F0.out.st (Nat.le_refl _) ((Below.refl (w.heap.size + 2) w1).alloc h2 (.cells #[.string ⟨#[98]⟩, .string q, .slice none 0 0, .string tx, .slice none 0 0] 48)))
  have HE2 := Lib.hid (box_new w1 #[.string ⟨#[98]⟩, .string q, .slice none 0 0, .string tx, .slice none 0 0] 48)
  have HO2 := Lib.hid (HO1.out.alloc (.cells #[.string ⟨#[98]⟩, .string q, .slice none 0 0, .string tx, .slice none 0 0] 48))
  have HX2 := Lib.hid (HX1.out.alloc (.cells #[.string ⟨#[98]⟩, .string q, .slice none 0 0, .string tx, .slice none 0 0] 48))
  have hsz2 : (w1.alloc (.cells #[.string ⟨#[98]⟩, .string q, .slice none 0 0, .string tx, .slice none 0 0] 48)).heap.size = w1.heap.size + 1 := by simp
  generalize w1.alloc (.cells #[.string ⟨#[98]⟩, .string q, .slice none 0 0, .string tx, .slice none 0 0] 48) = w2 at F2 HE2 HO2 HX2 hsz2 ⊢
  have h22 : w.heap.size + 2 ≤ w2.heap.size := F2.out.big
  have lw1 : w1.heap.size < w2.heap.size := by omega
  clear hsz2 F0 HO1 HX1 x0 x1 x2 x3 x4 g8 g9 g10 g11 g12
  obtain ⟨x0, x1, x2, x3, x4⟩ := bx5 F2.out.bx
  dsimp only at x0 x1 x2 x3 x4
  have lx2 : w.heap.size < w2.heap.size := by omega
  have hgw2 : g < w2.heap.size := by omega
  have hc1 : 1 ≤ c := by
    rcases HO2.out.2 with ⟨hv, _⟩ | ⟨_, _, _, hv, _, _, hn, _⟩
    · cases hv
    · cases hv; omega
  have f0 := Lib.frozen_of_heap F2.out.bx 0
  go_upto_region 4 with (at_builtin; go_loud (refine wpList_append_lies _ rfl _ _ 29 rfl B 113 i0 _ 7 136 Tryz.underlying29 hi0 hz0 hz1 hz2 rfl (by decide) _ 0 [] rfl (World.ownsRow_lit w2 #[] 0 (by omega) (by decide) (by decide)) ⟨g, 0, none⟩ 1 c xs rfl (by rw [hl]) (fun j u hu => news_own (HO2.out.alloc _) j u (by rw [List.getElem?_append_left (List.getElem?_eq_some_iff.1 hu).1]; exact hu)) H1.out (by decide) (by decide) (by decide) (by simp; omega) (w2.heap.size + 1) (by simp) ?_; intro g2 cap w3 hown hgrow hat hlt3; have hgrow : (w2.alloc (.cells #[] 113)).grownBy w3 (some w2.heap.size) := hgrow; have F3 := Lib.hid ((F2.out.st h22 ((Below.refl _ w2).alloc (Nat.le_refl _) (.cells #[] 113))).gr hgrow (fun b e => by cases e; omega)); have lx3 := heap_lt F3.out.bx; have f3 := Lib.frozen_of_heap F3.out.bx 0; have k3 := (bx5 F3.out.bx).1; dsimp only at k3))
  have hgo : ∀ b, b < w2.heap.size → b ≠ w.heap.size → (w3.setCell ⟨w.heap.size, 0, none⟩ (.slice (some ⟨g2, 0, none⟩) (0 + 1) cap)).heap[b]? = w2.heap[b]? := fun b hb hne => by
    rw [show (w3.setCell ⟨w.heap.size, 0, none⟩ (.slice (some ⟨g2, 0, none⟩) (0 + 1) cap)).heap[b]? = w3.heap[b]? from by
      have : w.heap.size ≠ b := fun e => hne e.symm
      simp [World.setCell, Array.getElem?_modify, this]]
    exact (hgrow.block b (by simp; omega) (fun e => by have := Option.some.inj e; omega)).trans (Below.heap_alloc _ _ _ hb)
  have F4 := Lib.hid (put_one F3.out (some ⟨g2, 0, none⟩) (0 + 1) cap)
  have HX4 := Lib.hid (own_keep (w' := w3.setCell ⟨w.heap.size, 0, none⟩ (.slice (some ⟨g2, 0, none⟩) (0 + 1) cap)) HX2.out (fun b e => hgo b (by have := (HXL.out b e).2; omega) (by have := (HXL.out b e).2; omega)))
  have HE4 := Lib.hid ((hgo w1.heap.size (by omega) (by omega)).trans HE2.out)
  clear k3 hgo hgrow hat hown F3 HX2 HE2 F2 HO2 x0 x1 x2 x3 x4 lx3 f3 f0 lx lx2 hgw hgw2 hc1 hlt3
  generalize w3.setCell ⟨w.heap.size, 0, none⟩ (.slice (some ⟨g2, 0, none⟩) (0 + 1) cap) = w4 at F4 HX4 HE4 ⊢
  obtain ⟨x0, x1, x2, x3, x4⟩ := bx5 F4.out.bx
  dsimp only at x0 x1 x2 x3 x4
  obtain ⟨z0, z1, z2, z3, z4⟩ := bx5 HE4.out
  have h24 := F4.out.big
  have lx4 : w.heap.size < w4.heap.size := by omega
  have lz4 : w1.heap.size < w4.heap.size := heap_lt HE4.out
  go_upto_region 13 with (at_builtin; go_loud (refine wpList_append_lies _ rfl _ _ 27 rfl B 50 j0 _ 7 112 Tryz.underlying27 hj0 hy0 hy1 hy2 rfl (by decide) _ m ev rfl (HX4.out.alloc _) ⟨w4.heap.size, 0, none⟩ 1 1 (stanzaCells q tx) rfl rfl (World.news_of_block (cs := #[.int .i64 2, .string ⟨#[98]⟩, .string q, .slice none 0 0, .string tx, .slice none 0 0, .int .i64 0]) (t := 50) (fr := (0, 0)) (heap_alloc_new w4 _)) (by simp [stanzaCells, Value.oneCell']) (by decide) (by unfold maxLen; omega) (by omega) (by simp; omega) (w4.heap.size + 1) (by simp) ?_; intro g5 cap5 w5 hown hgrow hat hlt5; have hgrow : (w4.alloc (.cells #[.int .i64 2, .string ⟨#[98]⟩, .string q, .slice none 0 0, .string tx, .slice none 0 0, .int .i64 0] 50)).grownBy w5 (Value.slice a m d).ownBlock := hgrow; have hat : (Value.slice a m d).ownBlock = some g5 ∨ g5 = w4.heap.size + 1 := hat; have hg5 : g5 ≠ w.heap.size ∧ g5 ≠ w.heap.size + 1 := (by rcases hat with h | h; exact (by have := (HXL.out g5 h).2; constructor <;> omega); exact (by constructor <;> omega)); have hbx := (hgrow.block w.heap.size (by simp; omega) (fun e => by have := (HXL.out _ e.symm).2; omega)).trans ((Below.heap_alloc _ _ _ lx4).trans F4.out.bx); have hrt := (hgrow.block (w.heap.size + 1) (by simp; omega) (fun e => by have := (HXL.out _ e.symm).2; omega)).trans ((Below.heap_alloc _ _ _ (heap_lt F4.out.rt)).trans F4.out.rt); have f4 := Lib.frozen_of_heap hbx 4; have k4 := (bx5 hbx).2.2.2.2; dsimp only at k4; have lx5 := heap_lt hbx))
  have HX5 : Hid (w5.ownsRow B 50 7 (.slice (some ⟨g5, 0, none⟩) (m + 1) cap5) (m + 1) (ev ++ stanzaCells q tx)) := hown
  have HB5 : Hid (w.grownBy w5 (Value.slice a m d).ownBlock) := gb_trans (gb_trans (gb_below F4.out.bel) (gb_below ((Below.refl _ w4).alloc (Nat.le_refl _) (.cells #[.int .i64 2, .string ⟨#[98]⟩, .string q, .slice none 0 0, .string tx, .slice none 0 0, .int .i64 0] 50)))) hgrow
  clear hown hgrow hat x0 x1 x2 x3 x4 z0 z1 z2 z3 z4 k4 f4 HX4 HE4
  obtain ⟨x0, x1, x2, x3, x4⟩ := bx5 hbx
  dsimp only at x0 x1 x2 x3 x4
  obtain ⟨y0, y1, y2, y3, y4⟩ := bx5 hrt
  have fx := fun i => Lib.frozen_of_heap hbx i
  have fy := fun i => Lib.frozen_of_heap hrt i
  have ly5 := heap_lt hrt
  clear hbx hrt
  go_wp2_with fail
  have hS := fun (v v0 v1 v2 v3 v4 : Value) => own_keep (w' := Put5 (w5.setCell ⟨w.heap.size, 4, none⟩ v) (w.heap.size + 1) v0 v1 v2 v3 v4) HX5.out (fun b e => by cases e; exact fin_blockI hg5.1 hg5.2 _ _ _ _ _ _)
  have hT := fun (v v0 v1 v2 v3 v4 : Value) => gb_put5 (gb_set (N := w.heap.size) (i := 4) (v := v) HB5.out (Nat.le_refl _)) (Nat.le_succ _) v0 v1 v2 v3 v4
  exact bodyPost_ret (v := .agg #[.slice (some ⟨g2, 0, none⟩) 1 cap, .int .i64 sz, .bool false, .bool false, .slice (some ⟨g5, 0, none⟩) (m + 1) cap5]) (by simp [results, Tryz.results80, go_sem, y0, y1, y2, y3, y4]) rfl
    ⟨some ⟨g2, 0, none⟩, cap, some ⟨g5, 0, none⟩, cap5, rfl, hS _ _ _ _ _ _, hT _ _ _ _ _ _⟩
set_option maxRecDepth 100000 in
set_option maxHeartbeats 4000000 in
theorem ends_two (B : Nat) (w : World) (o : Option Addr) (c : Nat) (sz : Int) (a : Option Addr) (m d : Nat) (q tx : ByteArray) (ev : List Value) (hB : B ≤ w.heap.size) (h : OpR B w o 2 c q tx) (hx : w.ownsRow B 50 7 (.slice a m d) m ev) (hm : m ≤ 100) :
    Calls Tryz.prog 51 #[.agg #[.slice o 2 c, .int .i64 sz, .bool false, .bool false, .slice a m d], .string q] w fun r w' => ∃ (o' : Option Addr) (c' : Nat) (a' : Option Addr) (d' : Nat), r = .returned (.agg #[.slice o' 1 c', .int .i64 sz, .bool false, .bool false, .slice a' (m + 1) d']) ∧
      w'.ownsRow B 50 7 (.slice a' (m + 1) d') (m + 1) (ev ++ stanzaCells q tx) ∧ w.grownBy w' (Value.slice a m d).ownBlock := by
  have F0 := Lib.hid (Fb.new w ⟨o, 2, c, sz, false, false, a, m, d⟩)
  have HK := Lib.hid (kpb_below (B := B) (F0.out.bel.mono (Nat.le_refl _)))
  have HC := Lib.hid (closes_two B _ o c sz a m d q tx ev (Nat.le_trans hB F0.out.bel.size) (h.keep HK.out) (own_kpb hx HK.out) hm)
  obtain ⟨g, xs, gD, dD, rfl, hO, h1, hD⟩ := h
  have hl := (OpR.len hO).2
  have hg : g < w.heap.size := (hO.lt g rfl).2
  have c7 : w.cell? ⟨g, 7, none⟩ = some (.string q) := (hO.cellAt (1 * 7 + 0) (by omega)).trans (opV_at (k := 1) hl q tx _ _ 0 (by decide))
  have t1 : (q.toList == q.toList) = true := by simp
  have t2 : (q.toList != q.toList) = false := by simp
  have HXL : Hid (∀ b, (Value.slice a m d).ownBlock = some b → b < w.heap.size) := fun b e => (hx.lt b e).2
  clear hO h1 hD hx HK
  go_enter Tryz.func51, Tryz.ntmps51
  go_upto_region 1 with fail
  generalize (w.alloc (.cells #[.slice (some ⟨g, 0, none⟩) 2 c, .int .i64 sz, .bool false, .bool false, .slice a m d] 31)).alloc (.cells #[.slice none 0 0, .int .i64 0, .bool false, .bool false, .slice none 0 0] 31) = w1 at F0 HC ⊢
  have g7 := F0.out.cell hg c7
  obtain ⟨x0, x1, x2, x3, x4⟩ := bx5 F0.out.bx
  dsimp only at x0 x1 x2 x3 x4
  have h2 := F0.out.big
  have lx : w.heap.size < w1.heap.size := by omega
  clear c7
  go_wp2_with fail
  refine HC.out.mono ?_
  rintro r w2 ⟨o', c', a', d', rfl, hE, hb⟩
  have HE := Lib.hid hE
  have HG := Lib.hid (F0.out.call hb HXL.out)
  clear hE hb F0 HC x0 x1 x2 x3 x4 g7 lx h2
  obtain ⟨y0, y1, y2, y3, y4⟩ := bx5 HG.out.rt
  have fy := fun i => Lib.frozen_of_heap HG.out.rt i
  have ly := heap_lt HG.out.rt
  go_wp2_with fail
  have hS := fun (v0 v1 v2 v3 v4 : Value) => own_keep (w' := Put5 w2 (w.heap.size + 1) v0 v1 v2 v3 v4) HE.out (fun b e => put5_block (fun e2 => own_not HE.out e (by decide) (e2 ▸ HG.out.rt)) _ _ _ _ _)
  have hT := fun (v0 v1 v2 v3 v4 : Value) => gb_put5 HG.out.gr (Nat.le_succ w.heap.size) v0 v1 v2 v3 v4
  exact bodyPost_ret (v := .agg #[.slice o' 1 c', .int .i64 sz, .bool false, .bool false, .slice a' (m + 1) d']) (by simp [results, Tryz.results51, go_sem, y0, y1, y2, y3, y4]) rfl
    ⟨o', c', a', d', rfl, hS _ _ _ _ _, hT _ _ _ _ _⟩
end Go.Proofs.YtolnpfcncmcacaaGreatDoor
