/- What the document's All holds at the texts of ScanBounds: its elements that are open, as a row; the contract of its chars. Conditions: those of each theorem's head. -/
import Derived.Test.YtolnpfcncmcacaaGreatDoorBv
import Derived.Test.YtolnpfcncmcacaaGreatDoorBw
namespace Go.Proofs.YtolnpfcncmcacaaGreatDoor
open Go.RowKit Go.Lib Go.Shelf Tg Sn

theorem infoOp : (Tryz.prog.info? 113).map (fun i => (i.zero, i.size, i.bytes)) = some (some (.agg #[.string ⟨#[]⟩, .string ⟨#[]⟩, .string ⟨#[]⟩, .slice none 0 0, .string ⟨#[]⟩, .slice none 0 0, .slice none 0 0]), 7, 136) := by kernel_rfl
theorem infoDc : (Tryz.prog.info? 126).map (fun i => (i.zero, i.size, i.bytes)) = some (some (.agg #[.string ⟨#[]⟩, .string ⟨#[]⟩]), 2, 32) := by kernel_rfl
theorem news_own {w : World} {B g n c k : Nat} {T : TypeId} {xs : List Value} (h : w.ownsRow B T k (.slice (some ⟨g, 0, none⟩) n c) n xs) : ∀ j u, xs[j]? = some u → w.cell? ((⟨g, 0, none⟩ : Addr).add j) = some u := fun j u hu => by
  have hj : j < n * k := by rw [← h.1]; exact (List.getElem?_eq_some_iff.1 hu).1
  have h1 := h.cellAt j hj
  rw [hu] at h1
  have e : (⟨g, 0, none⟩ : Addr).add j = ⟨g, j, none⟩ := by cases j <;> simp [Addr.add]
  rw [e]
  exact h1
/-- The cells of an open element. -/
def opV (q tx : ByteArray) (a : Option Addr) (d : Nat) : List Value := [.string q, .string ⟨#[98]⟩, .string q, .slice none 0 0, .string tx, .slice none 0 0, .slice a 1 d]
/-- A row of open elements, of which the last one is told. -/
def OpR (B : Nat) (w : World) (o : Option Addr) (n c : Nat) (q tx : ByteArray) : Prop := ∃ (g : Nat) (xs : List Value) (gD d : Nat), o = some ⟨g, 0, none⟩ ∧ w.ownsRow B 113 7 (.slice (some ⟨g, 0, none⟩) n c) n (xs ++ opV q tx (some ⟨gD, 0, none⟩) d) ∧ (∀ u ∈ xs, u.oneCell' = true) ∧
  w.ownsRow B 126 2 (.slice (some ⟨gD, 0, none⟩) 1 d) 1 [.string ⟨#[]⟩, .string ⟨#[98]⟩]
theorem own_kpb {B n k : Nat} {W W' : World} {T : TypeId} {v : Value} {xs : List Value} (h : W.ownsRow B T k v n xs) (hk : Kpb B W W') : W'.ownsRow B T k v n xs := own_keep h fun b e => by
  obtain ⟨h1, c, hc⟩ := own_heap h e
  exact hk.2 b h1 (heap_lt hc)
theorem OpR.keep {B : Nat} {W W' : World} {o : Option Addr} {n c : Nat} {q tx : ByteArray} (h : OpR B W o n c q tx) (hk : Kpb B W W') : OpR B W' o n c q tx := by
  obtain ⟨g, xs, gD, d, h1, h2, h3, h4⟩ := h
  exact ⟨g, xs, gD, d, h1, own_kpb h2 hk, h3, own_kpb h4 hk⟩
theorem opV_one (q tx : ByteArray) (a : Option Addr) (d : Nat) : ∀ u ∈ opV q tx a d, u.oneCell' = true := by simp [opV, Value.oneCell']
theorem OpR.len {B : Nat} {W : World} {g n c : Nat} {q tx : ByteArray} {xs : List Value} {gD d : Nat} (h2 : W.ownsRow B 113 7 (.slice (some ⟨g, 0, none⟩) n c) n (xs ++ opV q tx (some ⟨gD, 0, none⟩) d)) : 1 ≤ n ∧ xs.length = (n - 1) * 7 := by
  have := h2.1
  rw [List.length_append, show (opV q tx (some ⟨gD, 0, none⟩) d).length = 7 from rfl] at this
  omega
/-- The boxes of a function that takes a State and answers one. -/
structure Fb (w : World) (s : Sv) (W : World) : Prop where
  bel : Below w.heap.size w W
  bx : W.heap[w.heap.size]? = some (.cells #[.slice s.o s.n s.c, .int .i64 s.sz, .bool s.f, .bool s.e, .slice s.a s.m s.d] 31 (0, 0))
  rt : W.heap[w.heap.size + 1]? = some (.cells #[.slice none 0 0, .int .i64 0, .bool false, .bool false, .slice none 0 0] 31 (0, 0))
theorem Fb.new (w : World) (s : Sv) : Fb w s ((w.alloc (.cells #[.slice s.o s.n s.c, .int .i64 s.sz, .bool s.f, .bool s.e, .slice s.a s.m s.d] 31)).alloc (.cells #[.slice none 0 0, .int .i64 0, .bool false, .bool false, .slice none 0 0] 31)) := by
  refine ⟨((Below.refl _ w).alloc (Nat.le_refl _) _).alloc (by simp) _, (Below.heap_alloc _ _ _ (by simp)).trans (box_new w _ _), ?_⟩
  have := box_new (w.alloc (.cells #[.slice s.o s.n s.c, .int .i64 s.sz, .bool s.f, .bool s.e, .slice s.a s.m s.d] 31)) #[.slice none 0 0, .int .i64 0, .bool false, .bool false, .slice none 0 0] 31
  rw [show (w.alloc (.cells #[.slice s.o s.n s.c, .int .i64 s.sz, .bool s.f, .bool s.e, .slice s.a s.m s.d] 31)).heap.size = w.heap.size + 1 by simp] at this
  exact this
theorem Fb.big {w W : World} {s : Sv} (h : Fb w s W) : w.heap.size + 2 ≤ W.heap.size := (Array.getElem?_eq_some_iff.1 h.rt).1
theorem Fb.st {w W W' : World} {s : Sv} (h : Fb w s W) {B : Nat} (hB : w.heap.size + 2 ≤ B) (hb : Below B W W') : Fb w s W' :=
  ⟨h.bel.trans (hb.mono (by omega)), (hb.block _ (by omega)).trans h.bx, (hb.block _ (by omega)).trans h.rt⟩
theorem Fb.gr {w W W' : World} {s : Sv} (h : Fb w s W) {v : Option Nat} (hg : W.grownBy W' v) (hv : ∀ b, v = some b → w.heap.size + 2 ≤ b) : Fb w s W' :=
  h.st (Nat.le_refl _) ((Below.refl _ W).grown hg h.big hv)
theorem put5_bel {w W : World} {N : Nat} (h : Below w.heap.size w W) (hN : w.heap.size ≤ N) (v0 v1 v2 v3 v4 : Value) : Below w.heap.size w (Put5 W N v0 v1 v2 v3 v4) :=
  ((((h.setCell hN _).setCell hN _).setCell hN _).setCell hN _).setCell hN _
theorem fin_block {W : World} {N b : Nat} (h1 : b ≠ N) (h2 : b ≠ N + 1) (v v0 v1 v2 v3 v4 : Value) : (Put5 (W.setCell ⟨N, 0, none⟩ v) (N + 1) v0 v1 v2 v3 v4).heap[b]? = W.heap[b]? := by
  have e1 : N ≠ b := fun e => h1 e.symm
  have e2 : N + 1 ≠ b := fun e => h2 e.symm
  simp [Put5, World.setCell, Array.getElem?_modify, e1, e2]
theorem opV_set {xs : List Value} (hl : xs.length = 7) (q tx t : ByteArray) (a : Option Addr) (d : Nat) : (xs ++ opV q tx a d).set 11 (.string t) = xs ++ opV q t a d := by
  rw [List.set_append_right _ _ (by omega), hl]; rfl
theorem opV_at {xs : List Value} {k : Nat} (hl : xs.length = k * 7) (q tx : ByteArray) (a : Option Addr) (d j : Nat) (hj : j < 7) : (xs ++ opV q tx a d)[k * 7 + j]? = (opV q tx a d)[j]? := by
  rw [List.getElem?_append_right (by omega), hl, Nat.add_sub_cancel_left]
set_option maxRecDepth 100000 in
set_option maxHeartbeats 4000000 in
theorem chars_two (B : Nat) (w : World) (o : Option Addr) (c : Nat) (sz : Int) (a : Option Addr) (m d : Nat) (q tx t : ByteArray) (hB : B ≤ w.heap.size) (h : OpR B w o 2 c q tx) (ht : t.size ≤ 16384) (hx : tx.size ≤ 100) (h38 : ∀ c ∈ t.data.toList, c ≠ 38) :
    Calls Tryz.prog 48 #[.agg #[.slice o 2 c, .int .i64 sz, .bool false, .bool false, .slice a m d], .string t] w fun r w' => ∃ (o' : Option Addr) (c' : Nat), r = .returned (.agg #[.slice o' 2 c', .int .i64 sz, .bool false, .bool false, .slice a m d]) ∧ OpR B w' o' 2 c' q (tx ++ t) ∧ Below w.heap.size w w' := by
  obtain ⟨i0, hi0, hz0, hz1, hz2⟩ := info_parts infoOp
  obtain ⟨g, xs, gD, dD, rfl, hO, h1, hD⟩ := h
  have hl := (OpR.len hO).2
  have HO := Lib.hid hO
  have HD := Lib.hid hD
  have HGD : Hid (gD < w.heap.size) := (hD.lt gD rfl).2
  have H1 := Lib.hid h1
  have HB := Lib.hid hB
  have HQ := Lib.hid (fun W => rQuoted_plain t W (by omega) h38)
  have F0 := Lib.hid (Fb.new w ⟨some ⟨g, 0, none⟩, 2, c, sz, false, false, a, m, d⟩)
  clear hO hD h1 h38
  go_enter Tryz.func48, Tryz.ntmps48
  go_wp2_with fail
  refine (HQ.out _).mono ?_
  rintro r w1 ⟨rfl, hb⟩
  have F1 := Lib.hid (F0.out.st (by simp) hb)
  have HO1 := Lib.hid (own_kpb HO.out (kpb_below (F1.out.bel.mono (Nat.le_refl _))))
  have HD1 := Lib.hid (own_kpb HD.out (kpb_below (F1.out.bel.mono (Nat.le_refl _))))
  have h2 := F1.out.big
  have lx : w.heap.size < w1.heap.size := by omega
  have ly : w.heap.size + 1 < w1.heap.size := by omega
  obtain ⟨x0, x1, x2, x3, x4⟩ := bx5 F1.out.bx
  dsimp only at x0 x1 x2 x3 x4
  clear hb HQ F0 HO
  go_upto_region 10 with (at_builtin; go_loud (refine wpList_append_lies _ rfl _ _ 29 rfl B 113 i0 _ 7 136 Tryz.underlying29 hi0 hz0 hz1 hz2 rfl (by decide) _ 0 [] rfl (World.ownsRow_lit w1 #[] 0 (by omega) (by decide) (by decide)) ⟨g, 0, none⟩ 2 c (xs ++ opV q tx (some ⟨gD, 0, none⟩) dD) rfl (by rw [List.length_append, hl]; rfl) (news_own (HO1.out.alloc _)) (fun u hu => (List.mem_append.1 hu).elim (H1.out u) (opV_one _ _ _ _ u)) (by decide) (by decide) (by decide) (by simp; omega) (w1.heap.size + 1) (by simp) ?_; intro g2 cap w3 hown hgrow hat hlt3))
  have hown : w3.ownsRow B 113 7 (.slice (some ⟨g2, 0, none⟩) 2 cap) 2 (xs ++ opV q tx (some ⟨gD, 0, none⟩) dD) := hown
  have hgrow : (w1.alloc (.cells #[] 113)).grownBy w3 (some w1.heap.size) := hgrow
  have hg2 : w.heap.size + 2 ≤ g2 := by
    rcases hat with h | h
    · have h : some w1.heap.size = some g2 := h
      have := Option.some.inj h; omega
    · omega
  have F3 := Lib.hid ((F1.out.st (Nat.le_refl _) ((Below.refl _ w1).alloc h2 (.cells #[] 113))).gr hgrow (fun b e => by cases e; exact h2))
  have t11 : w3.cell? ⟨g2, 11, none⟩ = some (.string tx) := (hown.cellAt 11 (by decide)).trans (opV_at (k := 1) hl q tx _ _ 4 (by decide))
  have f11 := hown.frozenAt 11
  have hgN : g2 ≠ w.heap.size := by omega
  have hgN1 : g2 ≠ w.heap.size + 1 := by omega
  have HOW := Lib.hid (hown.stored 11 (.string (tx ++ t))).1
  clear hgrow hat hown x0 x1 x2 x3 x4 F1 HO1 HD1 lx ly h2
  obtain ⟨x0, x1, x2, x3, x4⟩ := bx5 F3.out.bx
  dsimp only at x0 x1 x2 x3 x4
  obtain ⟨y0, y1, y2, y3, y4⟩ := bx5 F3.out.rt
  have fx := fun i => Lib.frozen_of_heap F3.out.bx i
  have fy := fun i => Lib.frozen_of_heap F3.out.rt i
  have lx := heap_lt F3.out.bx
  have ly := heap_lt F3.out.rt
  go_wp2_with fail
  have HBL : Hid (Below w.heap.size w (Put5 ((w3.setCell ⟨g2, 11, none⟩ (.string (tx ++ t))).setCell ⟨w.heap.size, 0, none⟩ (.slice (some ⟨g2, 0, none⟩) 2 cap)) (w.heap.size + 1) (.slice (some ⟨g2, 0, none⟩) 2 cap) (.int .i64 sz) (.bool false) (.bool false) (.slice a m d))) :=
    put5_bel ((F3.out.bel.setCell (Nat.le_trans (Nat.le_add_right _ _) hg2) _).setCell (Nat.le_refl _) _) (Nat.le_succ _) _ _ _ _ _
  exact bodyPost_ret (v := .agg #[.slice (some ⟨g2, 0, none⟩) 2 cap, .int .i64 sz, .bool false, .bool false, .slice a m d]) (by simp [results, Tryz.results48, go_sem, y0, y1, y2, y3, y4]) rfl
    ⟨some ⟨g2, 0, none⟩, cap, rfl, ⟨g2, xs, gD, dD, rfl, own_keep (by have h := HOW.out; rw [opV_set hl] at h; exact h) (fun b e => by cases e; exact fin_block hgN hgN1 _ _ _ _ _ _), H1.out, own_keep HD.out (fun b e => by cases e; exact HBL.out.block gD HGD.out)⟩, HBL.out⟩
end Go.Proofs.YtolnpfcncmcacaaGreatDoor
