/- Contract: Apply. Conditions: those of each theorem's head. -/
import Derived.Test.YtdmbngkkbgmlfaaGreatDoorLq
import Derived.Test.YtdmbngkkbgmlfaaGreatDoorLn
import Derived.Test.YtdmbngkkbgmlfaaGreatDoorLl
import Derived.Test.YtdmbngkkbgmlfaaGreatDoorRh
import Derived.Test.YtdmbngkkbgmlfaaGreatDoorYb
import Derived.Test.YtdmbngkkbgmlfaaGreatDoorLf
namespace Go.Proofs.YtdmbngkkbgmlfaaGreatDoor.T
open Go.RowKit Go.Lib

theorem Srch.ex (x : It) : ∀ l : List It, l.Pairwise Lt → ∃ q, Srch l x q
  | [], _ => ⟨0, Nat.le_refl _, fun k h => absurd h (Nat.not_lt_zero _), fun k h => absurd h (Nat.not_lt_zero _)⟩
  | y :: l, hp => by
    rw [List.pairwise_cons] at hp
    by_cases hy : Lt y x
    · obtain ⟨q, h⟩ := Srch.ex x l hp.2
      refine ⟨q + 1, by simpa using h.le, fun k hk hkq => ?_, fun k hk hkq => ?_⟩
      · cases k with
        | zero => exact hy
        | succ k => exact h.lo k (by simpa using hk) (by omega)
      · cases k with
        | zero => omega
        | succ k => exact h.hi k (by simpa using hk) (by omega)
    · refine ⟨0, Nat.zero_le _, fun k hk hkq => absurd hkq (Nat.not_lt_zero _), fun k hk _ hl => ?_⟩
      cases k with
      | zero => exact hy hl
      | succ k => exact hy ((hp.1 _ (List.getElem_mem (by simpa using hk))).trans hl)
theorem search_one (l : List It) (x : It) (q : Nat) (a : Option Addr) (c B : Nat) (w : World) (hs : Srch l x q) (hL : ItS w a l) (hC : CmB w B) (hn : l.length ≤ 1000000) (hp : l.Pairwise Lt) : Calls Tryz.prog 28 #[.slice a l.length c, .agg #[.string x.n, .int .i64 x.g, .int .i64 x.i, .int .i64 x.t, .string x.a, .bool x.w], cmV B] w (Gives (.tuple #[.int .i64 q, .bool (thr l x q)]) w) := by
  refine (search_any l x a c B w hL hC hn hp).mono ?_
  rintro e w' ⟨p, rfl, h1, h2⟩
  obtain rfl := h1.one hs
  exact ⟨rfl, h2⟩
theorem own_o {w w' : World} {N : Nat} {v : Value} {l : List It} (h : OwI w N v l) (hk : ∀ g, N ≤ g → w'.heap[g]? = w.heap[g]?) : OwI w' N v l := own_keep h fun b e => hk b (own_heap h e).1
theorem kpG {w w' : World} {N B : Nat} {v : Value} {l : List It} {ob : Obj} (ho : OwI w N v l) (hg : w.grownBy w' v.ownBlock) (hB : B < N) (h : Hid (w.heap[B]? = some ob)) : Hid (w'.heap[B]? = some ob) :=
  Lib.hid ((hg.block B (heap_lt h.out) (fun e => by have := (own_heap ho e.symm).1; omega)).trans h.out)
theorem belG {w0 w w' : World} {M N : Nat} {v : Value} {l : List It} (hb : Below M w0 w) (ho : OwI w N v l) (hM : M ≤ N) (hM2 : M ≤ w.heap.size) (hg : w.grownBy w' v.ownBlock) : Below M w0 w' :=
  hb.trans ⟨hg.os, hg.tape, hg.output, hg.size, fun k hk => hg.block k (by omega) (fun e => by have := (own_heap ho e.symm).1; omega)⟩
theorem st1of2 {w : World} {b : Nat} {v0 v1 : Value} {t : TypeId} (h : w.heap[b]? = some (.cells #[v0, v1] t (0, 0))) (u0 : Value) : (w.setCell ⟨b, 0, none⟩ u0).heap[b]? = some (.cells #[u0, v1] t (0, 0)) := by
  simp [World.setCell, Array.getElem?_modify, h]
theorem set_o {w : World} {b i c : Nat} {v : Value} (hc : c ≠ b) : (w.setCell ⟨b, i, none⟩ v).heap[c]? = w.heap[c]? := Below.heap_setCell _ _ _ _ hc
theorem own_set {w : World} {N b i : Nat} {v u : Value} {l : List It} (h : OwI w N v l) (hb : b < N) : OwI (w.setCell ⟨b, i, none⟩ u) N v l := own_o h fun g hg => set_o (by omega)
theorem kpS {w : World} {b i c : Nat} {v : Value} {ob : Obj} (hc : c ≠ b) (h : Hid (w.heap[c]? = some ob)) : Hid ((w.setCell ⟨b, i, none⟩ v).heap[c]? = some ob) := Lib.hid ((set_o hc).trans h.out)
theorem load_l {w : World} {g : Nat} {v0 v1 : Value} (h : w.heap[g]? = some (.cells #[v0, v1] 24 (0, 0))) : (loadVar 24 ⟨g, 0, none⟩).run Tryz.prog w = .ok (.agg #[v0, v1]) w :=
  run_loadVar_row w g 24 24 _ (0, 0) _ h Tryz.underlying24 rfl (by kernel_rfl)
theorem set6_row {w : World} {g : Nat} {cur : Array Value} {t : TypeId} (h : w.heap[g]? = some (.cells cur t (0, 0))) (o : Nat) (u0 u1 u2 u3 u4 u5 : Value) : ((((((w.setCell ⟨g, o, none⟩ u0).setCell ⟨g, o + 1, none⟩ u1).setCell ⟨g, o + 2, none⟩ u2).setCell ⟨g, o + 3, none⟩ u3).setCell ⟨g, o + 4, none⟩ u4).setCell ⟨g, o + 5, none⟩ u5).heap[g]? = some (.cells ((((((cur.setIfInBounds o u0).setIfInBounds (o + 1) u1).setIfInBounds (o + 2) u2).setIfInBounds (o + 3) u3).setIfInBounds (o + 4) u4).setIfInBounds (o + 5) u5) t (0, 0)) := by
  simp [World.setCell, Array.getElem?_modify, h]
theorem set6_bel {w0 w : World} {M g : Nat} (h : Below M w0 w) (hb : M ≤ g) (o : Nat) (u0 u1 u2 u3 u4 u5 : Value) : Below M w0 ((((((w.setCell ⟨g, o, none⟩ u0).setCell ⟨g, o + 1, none⟩ u1).setCell ⟨g, o + 2, none⟩ u2).setCell ⟨g, o + 3, none⟩ u3).setCell ⟨g, o + 4, none⟩ u4).setCell ⟨g, o + 5, none⟩ u5) :=
  (((((h.setCell (p := ⟨g, o, none⟩) hb _).setCell (p := ⟨g, o + 1, none⟩) hb _).setCell (p := ⟨g, o + 2, none⟩) hb _).setCell (p := ⟨g, o + 3, none⟩) hb _).setCell (p := ⟨g, o + 4, none⟩) hb _).setCell (p := ⟨g, o + 5, none⟩) hb _
theorem cellsI_set (x : It) : ∀ (l : List It) (q : Nat), q < l.length → ((((((cellsI l).set (q * 6) (.string x.n)).set (q * 6 + 1) (.int .i64 x.g)).set (q * 6 + 2) (.int .i64 x.i)).set (q * 6 + 3) (.int .i64 x.t)).set (q * 6 + 4) (.string x.a)).set (q * 6 + 5) (.bool x.w) = cellsI (l.set q x)
  | [], q, h => absurd h (Nat.not_lt_zero _)
  | y :: l, 0, _ => rfl
  | y :: l, q + 1, h => by
    have e : cellsI (y :: l) = y.cells ++ cellsI l := rfl
    have hy : y.cells.length = 6 := rfl
    have k : ∀ (L : List Value) (i : Nat) (v : Value), (y.cells ++ L).set ((q + 1) * 6 + i) v = y.cells ++ L.set (q * 6 + i) v := fun L i v => by
      rw [List.set_append_right _ _ (by rw [hy]; omega), hy, show (q + 1) * 6 + i - 6 = q * 6 + i by omega]
    have k0 : (y.cells ++ cellsI l).set ((q + 1) * 6) (.string x.n) = y.cells ++ (cellsI l).set (q * 6) (.string x.n) := k _ 0 _
    rw [e, k0, k, k, k, k, k, cellsI_set x l q (by simpa using h)]
    rfl
theorem own_set6 {w : World} {N n c q g : Nat} {cur : Array Value} {l : List It} (x : It) (hN : N ≤ g) (hq : q < l.length) (hg : w.heap[g]? = some (.cells cur 26 (0, 0))) (hn : n = l.length) (h1 : n ≤ c) (h2 : c ≤ maxLen) (h3 : cur.size = c * 6) (h4 : cur.toList.take (n * 6) = cellsI l) :
    OwI ((((((w.setCell ⟨g, q * 6, none⟩ (.string x.n)).setCell ⟨g, q * 6 + 1, none⟩ (.int .i64 x.g)).setCell ⟨g, q * 6 + 2, none⟩ (.int .i64 x.i)).setCell ⟨g, q * 6 + 3, none⟩ (.int .i64 x.t)).setCell ⟨g, q * 6 + 4, none⟩ (.string x.a)).setCell ⟨g, q * 6 + 5, none⟩ (.bool x.w)) N (.slice (some ⟨g, 0, none⟩) n c) (l.set q x) := by
  have hl : (l.set q x).length = n := by rw [List.length_set, hn]
  refine ⟨by rw [cellsI_len], .inr ⟨g, c, _, by rw [hl], hN, set6_row hg _ _ _ _ _ _ _, by rw [hl]; exact h1, h2, by simp [h3], ?_⟩⟩
  rw [hl, ← cellsI_set x l q hq, ← h4]
  simp only [Array.toList_setIfInBounds, List.take_set]
/-- What stands after a change. -/
noncomputable def aft (l : List It) (k : Int) (x : It) (q : Nat) : List It := if code l k x q = 0 then app l k x q else l
set_option maxRecDepth 100000 in
set_option maxHeartbeats 8000000 in
theorem apply_any (l : List It) (t k : Int) (x : It) (jx : Nat) (a : Option Addr) (c : Nat) (w : World) (hs : Srch l x jx) (hp : l.Pairwise Lt) (hL : ItS w a l) (hn : l.length ≤ 1000000) (hx : x.n.size ≤ 1000000) (ha : x.a.size ≤ 1000000) (hz : ∀ y ∈ l, y.n.size ≤ 1000000 ∧ y.a.size ≤ 1000000) : Calls Tryz.prog 10 #[.agg #[.slice a l.length c, .int .i64 t], .int .i64 k, .agg #[.string x.n, .int .i64 x.g, .int .i64 x.i, .int .i64 x.t, .string x.a, .bool x.w]] w (fun e w' => ∃ (b : Option Addr) (d : Nat), e = .returned (.tuple #[.agg #[.slice b (aft l k x jx).length d, .int .i64 t], .int .i64 (code l k x jx)]) ∧ ItS w' b (aft l k x jx) ∧ Below w.heap.size w w') := by
  obtain ⟨V, hV⟩ : ∃ V, V = (((w.alloc (.cells #[.slice a l.length c, .int .i64 t] 24)).alloc (.cells #[.string x.n, .int .i64 x.g, .int .i64 x.i, .int .i64 x.t, .string x.a, .bool x.w] 26)).alloc (.cells #[.slice none 0 0, .int .i64 0] 24)) := ⟨_, rfl⟩
  have HX6 : Hid (V.heap[w.heap.size + 1 + 1]? = some (.cells #[.slice none 0 0, .int .i64 0] 24 (0, 0))) := by rw [hV]; exact Lib.hid (box_new3 w _ _ _ _)
  have HX5 : Hid (V.heap[w.heap.size + 1]? = some (.cells #[.string x.n, .int .i64 x.g, .int .i64 x.i, .int .i64 x.t, .string x.a, .bool x.w] 26 (0, 0))) := by rw [hV]; exact Lib.hid ((Below.heap_alloc _ _ _ (by simp <;> omega)).trans (box_new2 w _ _ _))
  have HX3 : Hid (V.heap[w.heap.size]? = some (.cells #[.slice a l.length c, .int .i64 t] 24 (0, 0))) := by rw [hV]; exact Lib.hid ((Below.heap_alloc _ _ _ (by simp <;> omega)).trans ((Below.heap_alloc _ _ _ (by simp)).trans (box_new w _ _)))
  have HB : Hid (Below w.heap.size w V) := by rw [hV]; exact Lib.hid ((((Below.refl _ w).alloc (Nat.le_refl _) _).alloc (by simp) _).alloc (by simp <;> omega) _)
  have HN : Hid (V.heap.size = w.heap.size + 3) := by rw [hV]; exact Lib.hid (by simp)
  have HL := Lib.hid (hL.below HB.out)
  have HZ := Lib.hid hz
  clear hL hz
  go_enter Tryz.func10, Tryz.ntmps10
  go_upto_region 1 with fail
  rw [← hV]
  clear hV
  obtain ⟨m0, m1⟩ := bx2 HX3.out
  obtain ⟨x0, x1, x2, x3, x4, x5⟩ := bx6 HX5.out
  have f0 := bxf HX3.out 0
  go_wp2_with fail
  refine (twins_any l a c V HL.out hn HZ.out).mono ?_
  rintro e w1 ⟨b, d, rfl, hld, ho, hb⟩
  have HO1 := Lib.hid ho
  have HB1 := Lib.hid (HB.out.trans (hb.mono HB.out.size))
  have HN1 : Hid (w.heap.size + 3 ≤ w1.heap.size) := Lib.hid (by have := HN.out; have := hb.size; omega)
  have HX3a := kpB hb HX3
  have HX5a := kpB hb HX5
  have HX6a := kpB hb HX6
  clear hb ho HX3 HX5 HX6 HB HL f0
  clear m0 m1 x0 x1 x2 x3 x4 x5
  obtain ⟨m0, m1⟩ := bx2 HX3a.out
  have f0 := bxf HX3a.out 0
  go_upto_region 2 with fail
  have HX3 := Lib.hid (st1of2 HX3a.out (.slice b l.length d))
  have HX5 := kpS (i := 0) (v := .slice b l.length d) (show w.heap.size + 1 ≠ w.heap.size by omega) HX5a
  have HX6 := kpS (i := 0) (v := .slice b l.length d) (show w.heap.size + 1 + 1 ≠ w.heap.size by omega) HX6a
  have HO := Lib.hid (own_set (i := 0) (u := .slice b l.length d) HO1.out (show w.heap.size < V.heap.size by have := HN.out; omega))
  have HB : Hid (Below w.heap.size w (w1.setCell ⟨w.heap.size, 0, none⟩ (.slice b l.length d))) := HB1.out.setCell (p := ⟨w.heap.size, 0, none⟩) (Nat.le_refl _) _
  have HN2 : Hid (w.heap.size + 3 ≤ (w1.setCell ⟨w.heap.size, 0, none⟩ (.slice b l.length d)).heap.size) := Lib.hid (by have := HN1.out; simpa [World.setCell] using this)
  clear HX3a HX5a HX6a HO1 HB1 HN1 f0 m0 m1
  generalize w1.setCell ⟨w.heap.size, 0, none⟩ (.slice b l.length d) = w2 at HX3 HX5 HX6 HO HB HN2 ⊢
  clear w1
  have SC := Lib.hid fun B W (hb : Below w2.heap.size w2 W) (hC : CmB W B) => search_one l x jx b d B W hs (HO.out.its.below hb) hC hn hp
  refine region_psiH 9 (fun j => [16, 17, 18, 19, 20, 15, 21, 22, 8].getD j 0) (psL [.eq (.pointer (some ⟨w.heap.size, 0, none⟩)), .eq (.slice b l.length d), .eq (.agg #[.string x.n, .int .i64 x.g, .int .i64 x.i, .int .i64 x.t, .string x.a, .bool x.w]), cmP, .eq (.tuple #[.int .i64 jx, .bool (thr l x jx)]), .eq (.tuple #[.int .i64 jx, .bool (thr l x jx)]), .eq (.int .i64 jx), .eq (.bool (thr l x jx)), .eq (.int .i64 jx)]) (by kernel_rfl) (by kernel_rfl) (by kernel_rfl) (by kernel_rfl) (by decide) (by kernel_rfl) [] (fun j => [true, true, true, true, true, true, true, true, true].getD j true) (by kernel_rfl) ?_ ?_ (psL_mono _) ?_ ?_
  · intro k g v W hk
    exact absurd hk List.not_mem_nil
  · intro i W hi hr
    have hc : i = 0 ∨ i = 1 ∨ i = 2 ∨ i = 3 ∨ i = 4 ∨ i = 5 ∨ i = 6 ∨ i = 7 ∨ i = 8 := by omega
    rcases hc with rfl | rfl | rfl | rfl | rfl | rfl | rfl | rfl | rfl
    · cases hr
    · cases hr
    · cases hr
    · cases hr
    · cases hr
    · cases hr
    · cases hr
    · cases hr
    · cases hr
  · intro i o hi hrun ho q W hsz hout hbel hdep
    obtain ⟨m0, m1⟩ := bx2 ((hbel.block _ (heap_lt HX3.out)).trans HX3.out)
    obtain ⟨x0, x1, x2, x3, x4, x5⟩ := bx6 ((hbel.block _ (heap_lt HX5.out)).trans HX5.out)
    have hc : i = 0 ∨ i = 1 ∨ i = 2 ∨ i = 3 ∨ i = 4 ∨ i = 5 ∨ i = 6 ∨ i = 7 ∨ i = 8 := by omega
    rcases hc with rfl | rfl | rfl | rfl | rfl | rfl | rfl | rfl | rfl
    · -- 0
      cases ho
      have e3 : q.eval (.tmp 3) = .pointer (some ⟨w.heap.size, 0, none⟩) := (hout 3 (by decide)).trans rfl
      refine gives_read (v := .pointer (some ⟨w.heap.size, 0, none⟩)) ?_ rfl
      unfold execOp
      dsimp only
      rw [e3]
      go_simp
    · -- 1
      cases ho
      have e16 : q.eval (.tmp 16) = .pointer (some ⟨w.heap.size, 0, none⟩) := hdep ⟨0, .data⟩ (by simp) rfl (by decide)
      refine gives_read (v := .slice b l.length d) ?_ rfl
      unfold execOp
      dsimp only
      rw [e16]
      go_simp
    · -- 2
      cases ho
      have e5 : q.eval (.tmp 5) = .pointer (some ⟨w.heap.size + 1, 0, none⟩) := (hout 5 (by decide)).trans rfl
      refine gives_read (v := .agg #[.string x.n, .int .i64 x.g, .int .i64 x.i, .int .i64 x.t, .string x.a, .bool x.w]) ?_ rfl
      unfold execOp
      dsimp only
      rw [e5]
      go_simp
    · -- 3
      cases ho
      refine gives_call (f := 19) (args := #[.func (.func 20) #[] #[]]) ?_ ((by_any W).mono ?_)
      · unfold execOp
        dsimp only
        simp only [resolve, List.map_toArray, List.map_cons, List.map_nil]
        go_simp
      · rintro e W' ⟨rfl, h1, h2⟩
        exact ⟨_, rfl, h2, ⟨_, rfl, h1⟩⟩
    · -- 4
      cases ho
      have e17 : q.eval (.tmp 17) = .slice b l.length d := hdep ⟨1, .data⟩ (by simp) rfl (by decide)
      have e18 : q.eval (.tmp 18) = .agg #[.string x.n, .int .i64 x.g, .int .i64 x.i, .int .i64 x.t, .string x.a, .bool x.w] := hdep ⟨2, .data⟩ (by simp) rfl (by decide)
      obtain ⟨BB, e19, hBB⟩ : ∃ B : Nat, q.eval (.tmp 19) = cmV B ∧ CmB W B := hdep ⟨3, .data⟩ (by simp) rfl (by decide)
      refine gives_call (f := 28) (args := #[.slice b l.length d, .agg #[.string x.n, .int .i64 x.g, .int .i64 x.i, .int .i64 x.t, .string x.a, .bool x.w], cmV BB]) ?_ ((SC.out BB W hbel hBB).mono ?_)
      · unfold execOp
        dsimp only
        simp only [resolve, List.map_toArray, List.map_cons, List.map_nil, e17, e18, e19]
        go_simp
      · rintro e W' ⟨rfl, hb⟩
        exact ⟨_, rfl, hb, rfl⟩
    · -- 5
      cases ho
      have e20 : q.eval (.tmp 20) = .tuple #[.int .i64 jx, .bool (thr l x jx)] := hdep ⟨4, .data⟩ (by simp) rfl (by decide)
      refine gives_read (v := .tuple #[.int .i64 jx, .bool (thr l x jx)]) ?_ rfl
      unfold execOp
      dsimp only
      rw [e20]
      go_simp
    · -- 6
      cases ho
      have e15 : q.eval (.tmp 15) = .tuple #[.int .i64 jx, .bool (thr l x jx)] := hdep ⟨5, .data⟩ (by simp) rfl (by decide)
      refine gives_read (v := .int .i64 jx) ?_ rfl
      unfold execOp
      dsimp only
      rw [e15]
      go_simp
    · -- 7
      cases ho
      have e15 : q.eval (.tmp 15) = .tuple #[.int .i64 jx, .bool (thr l x jx)] := hdep ⟨5, .data⟩ (by simp) rfl (by decide)
      refine gives_read (v := .bool (thr l x jx)) ?_ rfl
      unfold execOp
      dsimp only
      rw [e15]
      go_simp
    · -- 8
      cases ho
      have e21 : q.eval (.tmp 21) = .int .i64 jx := hdep ⟨6, .data⟩ (by simp) rfl (by decide)
      refine gives_read (v := .int .i64 jx) ?_ rfl
      unfold execOp
      dsimp only
      rw [e21]
      go_simp
  · intro q W hq hbel hv
    have HBz := Lib.hid (HB.out.trans (hbel.mono HB.out.size))
    have HOz := Lib.hid (HO.out.below hbel)
    have HNz := Lib.hid (Nat.le_trans HN2.out hbel.size)
    have HX3z := kpB hbel HX3
    have HX5z := kpB hbel HX5
    have HX6z := kpB hbel HX6
    have e22 : q.eval (.tmp 22) = .bool (thr l x jx) := hv 7 (by decide)
    have e8 : q.eval (.tmp 8) = .int .i64 jx := hv 8 (by decide)
    have hq2 : q = canonL q [16, 17, 18, 19, 20, 15, 21, 22, 8] _ := hq
    simp only [canonL] at hq2
    rw [e22, e8] at hq2
    clear hq hv e22 e8
    generalize q.eval (.tmp 16) = u16 at hq2
    generalize q.eval (.tmp 17) = u17 at hq2
    generalize q.eval (.tmp 18) = u18 at hq2
    generalize q.eval (.tmp 19) = u19 at hq2
    generalize q.eval (.tmp 20) = u20 at hq2
    generalize q.eval (.tmp 15) = u15 at hq2
    generalize q.eval (.tmp 21) = u21 at hq2
    subst hq2
    clear HX3 HX5 HX6 HO HB HN2 SC hbel
    simp only [List.drop_succ_cons, List.drop_zero]
    generalize W = w3 at HBz HOz HNz HX3z HX5z HX6z ⊢
    obtain ⟨m0, m1⟩ := bx2 HX3z.out
    obtain ⟨x0, x1, x2, x3, x4, x5⟩ := bx6 HX5z.out
    go_wp2_with fail
    refine (codeOf_any l b d k x jx w3 HOz.out.its hn hx ha (fun y hy => (HZ.out y hy).1)).mono ?_
    rintro e w4 ⟨rfl, hb⟩
    have HB := Lib.hid (HBz.out.trans (hb.mono HBz.out.size))
    have HO := Lib.hid (HOz.out.below hb)
    have HN2 := Lib.hid (Nat.le_trans HNz.out hb.size)
    have HX3 := kpB hb HX3z
    have HX5 := kpB hb HX5z
    have HX6 := kpB hb HX6z
    clear hb HBz HOz HNz HX3z HX5z HX6z
    clear m0 m1 x0 x1 x2 x3 x4 x5
    obtain ⟨m0, m1⟩ := bx2 HX3.out
    obtain ⟨x0, x1, x2, x3, x4, x5⟩ := bx6 HX5.out
    have hV1 : Hid (w.heap.size < V.heap.size) := Lib.hid (by have := HN.out; omega)
    have hV2 : Hid (w.heap.size + 1 + 1 < V.heap.size) := Lib.hid (by have := HN.out; omega)
    by_cases h0 : code l k x jx = 0
    · have HA := Lib.hid (show aft l k x jx = app l k x jx from if_pos h0)
      have HC := Lib.hid h0
      rw [h0]
      rcases code_zero h0 with ⟨rfl, h1, h2, h3, h4⟩ | ⟨rfl, h1, h2, h3, h4⟩ | ⟨rfl, h2, h3⟩
      · have HF : Hid (aft l 20 x jx = l.take jx ++ x :: l.drop jx) := Lib.hid (HA.out.trans rfl)
        have HLn : Hid ((l.take jx ++ x :: l.drop jx).length = l.length + 1) := by exact Lib.hid (by rw [List.length_append, List.length_cons, List.length_take, List.length_drop]; have := hs.le; omega)
        clear h0 h1 h2 h3 h4 HA
        go_upto_region 8 with fail
        clear m0 m1 x0 x1 x2 x3 x4 x5
        refine region_psiH 6 (fun j => [37, 38, 39, 40, 41, 42].getD j 0) (psL [.eq (.pointer (some ⟨w.heap.size, 0, none⟩)), .eq (.slice b l.length d), .eq (.int .i64 jx), .eq (.agg #[.string x.n, .int .i64 x.g, .int .i64 x.i, .int .i64 x.t, .string x.a, .bool x.w]), .eq (.agg #[.string x.n, .int .i64 x.g, .int .i64 x.i, .int .i64 x.t, .string x.a, .bool x.w]), .ex (w4.heap.size) #[.string x.n, .int .i64 x.g, .int .i64 x.i, .int .i64 x.t, .string x.a, .bool x.w] 26 (fun B => .slice (some ⟨B, 0, none⟩) 1 1)]) (by kernel_rfl) (by kernel_rfl) (by kernel_rfl) (by kernel_rfl) (by decide) (by kernel_rfl) [] (fun j => [true, true, true, true, true, true].getD j true) (by kernel_rfl) ?_ ?_ (psL_mono _) ?_ ?_
        · intro k g v W hk
          exact absurd hk List.not_mem_nil
        · intro i W hi hr
          have hc : i = 0 ∨ i = 1 ∨ i = 2 ∨ i = 3 ∨ i = 4 ∨ i = 5 := by omega
          rcases hc with rfl | rfl | rfl | rfl | rfl | rfl
          · cases hr
          · cases hr
          · cases hr
          · cases hr
          · cases hr
          · cases hr
        · intro i o hi hrun ho q W hsz hout hbel hdep
          obtain ⟨m0, m1⟩ := bx2 ((hbel.block _ (heap_lt HX3.out)).trans HX3.out)
          obtain ⟨x0, x1, x2, x3, x4, x5⟩ := bx6 ((hbel.block _ (heap_lt HX5.out)).trans HX5.out)
          have hc : i = 0 ∨ i = 1 ∨ i = 2 ∨ i = 3 ∨ i = 4 ∨ i = 5 := by omega
          rcases hc with rfl | rfl | rfl | rfl | rfl | rfl
          · -- 0
            cases ho
            have e3 : q.eval (.tmp 3) = .pointer (some ⟨w.heap.size, 0, none⟩) := (hout 3 (by decide)).trans rfl
            refine gives_read (v := .pointer (some ⟨w.heap.size, 0, none⟩)) ?_ rfl
            unfold execOp
            dsimp only
            rw [e3]
            go_simp
          · -- 1
            cases ho
            have e37 : q.eval (.tmp 37) = .pointer (some ⟨w.heap.size, 0, none⟩) := hdep ⟨0, .data⟩ (by simp) rfl (by decide)
            refine gives_read (v := .slice b l.length d) ?_ rfl
            unfold execOp
            dsimp only
            rw [e37]
            go_simp
          · -- 2
            cases ho
            have e8 : q.eval (.tmp 8) = .int .i64 jx := (hout 8 (by decide)).trans rfl
            refine gives_read (v := .int .i64 jx) ?_ rfl
            unfold execOp
            dsimp only
            rw [e8]
            go_simp
          · -- 3
            cases ho
            have e5 : q.eval (.tmp 5) = .pointer (some ⟨w.heap.size + 1, 0, none⟩) := (hout 5 (by decide)).trans rfl
            refine gives_read (v := .agg #[.string x.n, .int .i64 x.g, .int .i64 x.i, .int .i64 x.t, .string x.a, .bool x.w]) ?_ rfl
            unfold execOp
            dsimp only
            rw [e5]
            go_simp
          · -- 4
            cases ho
            have e40 : q.eval (.tmp 40) = .agg #[.string x.n, .int .i64 x.g, .int .i64 x.i, .int .i64 x.t, .string x.a, .bool x.w] := hdep ⟨3, .data⟩ (by simp) rfl (by decide)
            refine gives_call (f := 31) (args := #[.agg #[.string x.n, .int .i64 x.g, .int .i64 x.i, .int .i64 x.t, .string x.a, .bool x.w]]) ?_ ((twin_any x W hx ha).mono ?_)
            · unfold execOp
              dsimp only
              simp only [resolve, List.map_toArray, List.map_cons, List.map_nil, e40]
              go_simp
            · rintro e W' ⟨rfl, hb⟩
              exact ⟨_, rfl, hb, rfl⟩
          · -- 5
            cases ho
            have e41 : q.eval (.tmp 41) = .agg #[.string x.n, .int .i64 x.g, .int .i64 x.i, .int .i64 x.t, .string x.a, .bool x.w] := hdep ⟨4, .data⟩ (by simp) rfl (by decide)
            refine gives_run (W' := W.alloc (.cells #[.string x.n, .int .i64 x.g, .int .i64 x.i, .int .i64 x.t, .string x.a, .bool x.w] 26)) (v := .slice (some ⟨W.heap.size, 0, none⟩) 1 1) ?_ ((Below.refl _ W).alloc (Nat.le_refl _) _) ⟨_, rfl, hbel.size, box_new W _ _⟩
            unfold execOp
            dsimp only
            simp only [List.map_toArray, List.map_cons, List.map_nil, e41]
            go_simp
        · intro q W hq hbel hv
          have HBq := Lib.hid (HB.out.trans (hbel.mono HB.out.size))
          have HOq := Lib.hid (HO.out.below hbel)
          have HNq := Lib.hid (Nat.le_trans HN2.out hbel.size)
          have HX3q := kpB hbel HX3
          have HX5q := kpB hbel HX5
          have HX6q := kpB hbel HX6
          have e38 : q.eval (.tmp 38) = .slice b l.length d := hv 1 (by decide)
          have e39 : q.eval (.tmp 39) = .int .i64 jx := hv 2 (by decide)
          obtain ⟨BV, e42, hBV, hBVh⟩ : ∃ B : Nat, q.eval (.tmp 42) = .slice (some ⟨B, 0, none⟩) 1 1 ∧ w4.heap.size ≤ B ∧ W.heap[B]? = some (.cells #[.string x.n, .int .i64 x.g, .int .i64 x.i, .int .i64 x.t, .string x.a, .bool x.w] 26 (0, 0)) := hv 5 (by decide)
          have hBV : w4.heap.size ≤ BV := hBV
          have hq2 : q = canonL q [37, 38, 39, 40, 41, 42] _ := hq
          simp only [canonL] at hq2
          rw [e38, e39, e42] at hq2
          clear hq hv e38 e39 e42
          generalize q.eval (.tmp 37) = u37 at hq2
          generalize q.eval (.tmp 40) = u40 at hq2
          generalize q.eval (.tmp 41) = u41 at hq2
          subst hq2
          have hne : ∀ a, b = some a → a.block ≠ BV := by
            rintro a1 rfl
            obtain ⟨_, cur, hc⟩ := own_heap HO.out (show Value.ownBlock (.slice (some a1) l.length d) = some a1.block from rfl)
            have := heap_lt hc
            omega
          clear HX3 HX5 HX6 HO HB HN2 hbel hBV
          simp only [List.drop_succ_cons, List.drop_zero]
          generalize W = w5 at HBq HOq HNq HX3q HX5q HX6q hBVh ⊢
          go_wp2_with fail
          refine (insert_any l x b d V.heap.size BV jx w5 HOq.out hs.le hn (by have := HNq.out; have := HN.out; omega) hBVh hne).mono ?_
          rintro e w6 ⟨b', d', rfl, ho, hg⟩
          have HOp := Lib.hid ho
          have HX3p := kpG HOq.out hg hV1.out HX3q
          have HX6p := kpG HOq.out hg hV2.out HX6q
          have HBp := Lib.hid (belG HBq.out HOq.out (Nat.le_of_lt hV1.out) (by have := HNq.out; omega) hg)
          clear hg ho HX3q HX5q HX6q HOq HBq HNq hne hBVh
          obtain ⟨m0, m1⟩ := bx2 HX3p.out
          have f0 := bxf HX3p.out 0
          go_upto_region 13 with fail
          have HX3 := Lib.hid (st1of2 HX3p.out (.slice b' (l.length + 1) d'))
          have HX6 := kpS (i := 0) (v := .slice b' (l.length + 1) d') (show w.heap.size + 1 + 1 ≠ w.heap.size by omega) HX6p
          have HO := Lib.hid (own_set (i := 0) (u := .slice b' (l.length + 1) d') HOp.out hV1.out)
          have HB : Hid (Below w.heap.size w (w6.setCell ⟨w.heap.size, 0, none⟩ (.slice b' (l.length + 1) d'))) := HBp.out.setCell (p := ⟨w.heap.size, 0, none⟩) (Nat.le_refl _) _
          clear HX3p HX6p HOp HBp m0 m1 f0
          generalize w6.setCell ⟨w.heap.size, 0, none⟩ (.slice b' (l.length + 1) d') = w8 at HX3 HX6 HO HB ⊢
          obtain ⟨m0, m1⟩ := bx2 HX3.out
          obtain ⟨z0, z1⟩ := bx2 HX6.out
          have y0 := bxf HX6.out 0
          have y1 := bxf HX6.out 1
          go_wp2_with fail
          exact bodyPost_ret (res_cell_tmp Tryz.results10 _ _ (w.heap.size + 1 + 1) _ rfl (load_l (st2 HX6.out _ _))) rfl ⟨b', d', by rw [HF.out, HLn.out, HC.out]; rfl, by rw [HF.out]; exact (own_set (i := 1) (own_set (i := 0) HO.out hV2.out) hV2.out).its, (HB.out.setCell (p := ⟨w.heap.size + 1 + 1, 0, none⟩) (by show _ ≤ w.heap.size + 1 + 1; omega) _).setCell (p := ⟨w.heap.size + 1 + 1, 1, none⟩) (by show _ ≤ w.heap.size + 1 + 1; omega) _⟩
      · obtain ⟨hq, _⟩ := thr_yes h2
        have HF : Hid (aft l 21 x jx = l.set jx x) := Lib.hid (HA.out.trans rfl)
        have HLn : Hid ((l.set jx x).length = l.length) := Lib.hid List.length_set
        clear h0 h1 h2 h3 h4 HA
        go_upto_region 10 with fail
        clear m0 m1 x0 x1 x2 x3 x4 x5
        refine region_psiH 5 (fun j => [47, 48, 49, 50, 51].getD j 0) (psL [.eq (.pointer (some ⟨w.heap.size, 0, none⟩)), .eq (.slice b l.length d), .eq (.int .i64 jx), .eq (.agg #[.string x.n, .int .i64 x.g, .int .i64 x.i, .int .i64 x.t, .string x.a, .bool x.w]), .eq (.agg #[.string x.n, .int .i64 x.g, .int .i64 x.i, .int .i64 x.t, .string x.a, .bool x.w])]) (by kernel_rfl) (by kernel_rfl) (by kernel_rfl) (by kernel_rfl) (by decide) (by kernel_rfl) [] (fun j => [true, true, true, true, true].getD j true) (by kernel_rfl) ?_ ?_ (psL_mono _) ?_ ?_
        · intro k g v W hk
          exact absurd hk List.not_mem_nil
        · intro i W hi hr
          have hc : i = 0 ∨ i = 1 ∨ i = 2 ∨ i = 3 ∨ i = 4 := by omega
          rcases hc with rfl | rfl | rfl | rfl | rfl
          · cases hr
          · cases hr
          · cases hr
          · cases hr
          · cases hr
        · intro i o hi hrun ho q W hsz hout hbel hdep
          obtain ⟨m0, m1⟩ := bx2 ((hbel.block _ (heap_lt HX3.out)).trans HX3.out)
          obtain ⟨x0, x1, x2, x3, x4, x5⟩ := bx6 ((hbel.block _ (heap_lt HX5.out)).trans HX5.out)
          have hc : i = 0 ∨ i = 1 ∨ i = 2 ∨ i = 3 ∨ i = 4 := by omega
          rcases hc with rfl | rfl | rfl | rfl | rfl
          · -- 0
            cases ho
            have e3 : q.eval (.tmp 3) = .pointer (some ⟨w.heap.size, 0, none⟩) := (hout 3 (by decide)).trans rfl
            refine gives_read (v := .pointer (some ⟨w.heap.size, 0, none⟩)) ?_ rfl
            unfold execOp
            dsimp only
            rw [e3]
            go_simp
          · -- 1
            cases ho
            have e47 : q.eval (.tmp 47) = .pointer (some ⟨w.heap.size, 0, none⟩) := hdep ⟨0, .data⟩ (by simp) rfl (by decide)
            refine gives_read (v := .slice b l.length d) ?_ rfl
            unfold execOp
            dsimp only
            rw [e47]
            go_simp
          · -- 2
            cases ho
            have e8 : q.eval (.tmp 8) = .int .i64 jx := (hout 8 (by decide)).trans rfl
            refine gives_read (v := .int .i64 jx) ?_ rfl
            unfold execOp
            dsimp only
            rw [e8]
            go_simp
          · -- 3
            cases ho
            have e5 : q.eval (.tmp 5) = .pointer (some ⟨w.heap.size + 1, 0, none⟩) := (hout 5 (by decide)).trans rfl
            refine gives_read (v := .agg #[.string x.n, .int .i64 x.g, .int .i64 x.i, .int .i64 x.t, .string x.a, .bool x.w]) ?_ rfl
            unfold execOp
            dsimp only
            rw [e5]
            go_simp
          · -- 4
            cases ho
            have e50 : q.eval (.tmp 50) = .agg #[.string x.n, .int .i64 x.g, .int .i64 x.i, .int .i64 x.t, .string x.a, .bool x.w] := hdep ⟨3, .data⟩ (by simp) rfl (by decide)
            refine gives_call (f := 31) (args := #[.agg #[.string x.n, .int .i64 x.g, .int .i64 x.i, .int .i64 x.t, .string x.a, .bool x.w]]) ?_ ((twin_any x W hx ha).mono ?_)
            · unfold execOp
              dsimp only
              simp only [resolve, List.map_toArray, List.map_cons, List.map_nil, e50]
              go_simp
            · rintro e W' ⟨rfl, hb⟩
              exact ⟨_, rfl, hb, rfl⟩
        · intro q W hq hbel hv
          have HBq := Lib.hid (HB.out.trans (hbel.mono HB.out.size))
          have HOq := Lib.hid (HO.out.below hbel)
          have HNq := Lib.hid (Nat.le_trans HN2.out hbel.size)
          have HX3q := kpB hbel HX3
          have HX5q := kpB hbel HX5
          have HX6q := kpB hbel HX6
          have e48 : q.eval (.tmp 48) = .slice b l.length d := hv 1 (by decide)
          have e49 : q.eval (.tmp 49) = .int .i64 jx := hv 2 (by decide)
          have e51 : q.eval (.tmp 51) = .agg #[.string x.n, .int .i64 x.g, .int .i64 x.i, .int .i64 x.t, .string x.a, .bool x.w] := hv 4 (by decide)
          have hq2 : q = canonL q [47, 48, 49, 50, 51] _ := hq
          simp only [canonL] at hq2
          rw [e48, e49, e51] at hq2
          clear hq hv e48 e49 e51
          generalize q.eval (.tmp 47) = u47 at hq2
          generalize q.eval (.tmp 50) = u50 at hq2
          subst hq2
          clear HX3 HX5 HX6 HO HB HN2 hbel
          simp only [List.drop_succ_cons, List.drop_zero]
          generalize W = w5 at HBq HOq HNq HX3q HX5q HX6q ⊢
          obtain ⟨_, r0⟩ := HOq.out
          rcases r0 with ⟨_, r0⟩ | ⟨g, cap, cur, r1, r2, r3, r4, r5, r6, r7⟩
          · omega
          simp only [Value.slice.injEq] at r1
          obtain ⟨rfl, _, rfl⟩ := r1
          have hcl : ∀ i, i < 6 → ∃ v, w5.cell? ⟨g, jx * 6 + i, none⟩ = some v := fun i hi => ⟨_, (Lib.cell_of_heap r3 _).trans (Array.getElem?_eq_getElem (show jx * 6 + i < cur.size by omega))⟩
          obtain ⟨v0, g0⟩ := hcl 0 (by omega)
          obtain ⟨v1, g1⟩ := hcl 1 (by omega)
          obtain ⟨v2, g2⟩ := hcl 2 (by omega)
          obtain ⟨v3, g3⟩ := hcl 3 (by omega)
          obtain ⟨v4, g4⟩ := hcl 4 (by omega)
          obtain ⟨v5, g5⟩ := hcl 5 (by omega)
          rw [Nat.add_zero] at g0
          have s0 := bxf r3 (jx * 6)
          have s1 := bxf r3 (jx * 6 + 1)
          have s2 := bxf r3 (jx * 6 + 2)
          have s3 := bxf r3 (jx * 6 + 3)
          have s4 := bxf r3 (jx * 6 + 4)
          have s5 := bxf r3 (jx * 6 + 5)
          have HO := Lib.hid (own_set6 x r2 hq r3 rfl r4 r5 r6 r7)
          have HS := Lib.hid (set6_bel (Below.refl g w5) (Nat.le_refl g) (jx * 6) (.string x.n) (.int .i64 x.g) (.int .i64 x.i) (.int .i64 x.t) (.string x.a) (.bool x.w))
          have HB := Lib.hid (set6_bel HBq.out (show w.heap.size ≤ g by have := hV1.out; omega) (jx * 6) (.string x.n) (.int .i64 x.g) (.int .i64 x.i) (.int .i64 x.t) (.string x.a) (.bool x.w))
          have HX3 := Lib.hid ((HS.out.block w.heap.size (by have := hV1.out; omega)).trans HX3q.out)
          have HX6 := Lib.hid ((HS.out.block (w.heap.size + 1 + 1) (by have := hV2.out; omega)).trans HX6q.out)
          clear hcl r2 r3 r4 r5 r6 r7 HS HOq HBq HNq HX3q HX5q HX6q
          go_upto_region 13 with fail
          clear g0 g1 g2 g3 g4 g5 s0 s1 s2 s3 s4 s5
          generalize (((((w5.setCell ⟨g, jx * 6, none⟩ (.string x.n)).setCell ⟨g, jx * 6 + 1, none⟩ (.int .i64 x.g)).setCell ⟨g, jx * 6 + 2, none⟩ (.int .i64 x.i)).setCell ⟨g, jx * 6 + 3, none⟩ (.int .i64 x.t)).setCell ⟨g, jx * 6 + 4, none⟩ (.string x.a)).setCell ⟨g, jx * 6 + 5, none⟩ (.bool x.w) = w8 at HX3 HX6 HO HB ⊢
          obtain ⟨m0, m1⟩ := bx2 HX3.out
          obtain ⟨z0, z1⟩ := bx2 HX6.out
          have y0 := bxf HX6.out 0
          have y1 := bxf HX6.out 1
          go_wp2_with fail
          exact bodyPost_ret (res_cell_tmp Tryz.results10 _ _ (w.heap.size + 1 + 1) _ rfl (load_l (st2 HX6.out _ _))) rfl ⟨(some ⟨g, 0, none⟩), d, by rw [HF.out, HLn.out, HC.out]; rfl, by rw [HF.out]; exact (own_set (i := 1) (own_set (i := 0) HO.out hV2.out) hV2.out).its, (HB.out.setCell (p := ⟨w.heap.size + 1 + 1, 0, none⟩) (by show _ ≤ w.heap.size + 1 + 1; omega) _).setCell (p := ⟨w.heap.size + 1 + 1, 1, none⟩) (by show _ ≤ w.heap.size + 1 + 1; omega) _⟩
      · obtain ⟨hq, _⟩ := thr_yes h2
        have HF : Hid (aft l 22 x jx = l.take jx ++ l.drop (jx + 1)) := Lib.hid (HA.out.trans rfl)
        have HLn : Hid ((l.take jx ++ l.drop (jx + 1)).length = l.length - 1) := Lib.hid (by rw [List.length_append, List.length_take, List.length_drop]; omega)
        clear h0 h2 h3 HA
        go_wp2_with fail
        refine (delete_any l b d V.heap.size jx (jx + 1) w4 HO.out hq rfl).mono ?_
        rintro e w6 ⟨rfl, ho, hg⟩
        have HOp := Lib.hid ho
        have HX3p := kpG HO.out hg hV1.out HX3
        have HX6p := kpG HO.out hg hV2.out HX6
        have HBp := Lib.hid (belG HB.out HO.out (Nat.le_of_lt hV1.out) (by have := HN2.out; omega) hg)
        clear hg ho HX3 HX5 HX6 HO HB HN2
        clear m0 m1 x0 x1 x2 x3 x4 x5
        obtain ⟨m0, m1⟩ := bx2 HX3p.out
        have f0 := bxf HX3p.out 0
        go_upto_region 13 with fail
        have HX3 := Lib.hid (st1of2 HX3p.out (.slice b (l.length - 1) d))
        have HX6 := kpS (i := 0) (v := .slice b (l.length - 1) d) (show w.heap.size + 1 + 1 ≠ w.heap.size by omega) HX6p
        have HO := Lib.hid (own_set (i := 0) (u := .slice b (l.length - 1) d) HOp.out hV1.out)
        have HB : Hid (Below w.heap.size w (w6.setCell ⟨w.heap.size, 0, none⟩ (.slice b (l.length - 1) d))) := HBp.out.setCell (p := ⟨w.heap.size, 0, none⟩) (Nat.le_refl _) _
        clear HX3p HX6p HOp HBp m0 m1 f0
        generalize w6.setCell ⟨w.heap.size, 0, none⟩ (.slice b (l.length - 1) d) = w8 at HX3 HX6 HO HB ⊢
        obtain ⟨m0, m1⟩ := bx2 HX3.out
        obtain ⟨z0, z1⟩ := bx2 HX6.out
        have y0 := bxf HX6.out 0
        have y1 := bxf HX6.out 1
        go_wp2_with fail
        exact bodyPost_ret (res_cell_tmp Tryz.results10 _ _ (w.heap.size + 1 + 1) _ rfl (load_l (st2 HX6.out _ _))) rfl ⟨b, d, by rw [HF.out, HLn.out, HC.out]; rfl, by rw [HF.out]; exact (own_set (i := 1) (own_set (i := 0) HO.out hV2.out) hV2.out).its, (HB.out.setCell (p := ⟨w.heap.size + 1 + 1, 0, none⟩) (by show _ ≤ w.heap.size + 1 + 1; omega) _).setCell (p := ⟨w.heap.size + 1 + 1, 1, none⟩) (by show _ ≤ w.heap.size + 1 + 1; omega) _⟩
    · have hb1 : (code l k x jx != 0) = true := by simpa using h0
      have HF : Hid (aft l k x jx = l) := Lib.hid (if_neg h0)
      clear h0
      obtain ⟨m0, m1⟩ := bx2 HX3.out
      obtain ⟨z0, z1⟩ := bx2 HX6.out
      have y0 := bxf HX6.out 0
      have y1 := bxf HX6.out 1
      go_wp2_with fail
      exact bodyPost_ret (res_cell_tmp Tryz.results10 _ _ (w.heap.size + 1 + 1) _ rfl (load_l (st2 HX6.out _ _))) rfl ⟨b, d, by rw [HF.out]; rfl, by rw [HF.out]; exact (own_set (i := 1) (own_set (i := 0) HO.out hV2.out) hV2.out).its, (HB.out.setCell (p := ⟨w.heap.size + 1 + 1, 0, none⟩) (by show _ ≤ w.heap.size + 1 + 1; omega) _).setCell (p := ⟨w.heap.size + 1 + 1, 1, none⟩) (by show _ ≤ w.heap.size + 1 + 1; omega) _⟩
end Go.Proofs.YtdmbngkkbgmlfaaGreatDoor.T
