/- Contract: Parse of package snac, whatever the bytes. Conditions: the table of widths holds what the program's text lays; a text takes at most what a machine can hold. -/
import Derived.Test.YthbpkdcjfcbngaaDoorVe
import Derived.Test.YthbpkdcjfcbngaaDoorShelf
import Derived.Laws.ResultCell
namespace Go.Proofs.YthbpkdcjfcbngaaDoor
open Go.RowKit Go.Lib

theorem results_load_tmp {fn : Func} {p u : Tmp} {ty : TypeId} {P : Program} (h : fn.results = #[.cell p ty, .tmp u]) (tmps : Array Value) (w : World) (g : Nat) (v : Value)
    (hp : tmps.getD p undef = .pointer (some ⟨g, 0, none⟩)) (hl : (loadVar ty ⟨g, 0, none⟩).run P w = .ok v w) : (results fn tmps).run P w = .ok (.tuple #[v, tmps.getD u undef]) w := by
  rw [results_cell_tmp h, hp]
  show (Result.ok (⟨g, 0, none⟩ : Addr) w).andThen _ = _
  dsimp only [Result.andThen]
  rw [hl]
theorem load_snac {w : World} {g : Nat} {v0 v1 v2 v3 v4 : Value} (h : w.heap[g]? = some (.cells #[v0, v1, v2, v3, v4] 23 (0, 0))) : (loadVar 23 ⟨g, 0, none⟩).run Tryd.prog w = .ok (.agg #[v0, v1, v2, v3, v4]) w :=
  run_loadVar_row w g 23 23 _ (0, 0) _ h Tryd.underlying23 rfl (by kernel_rfl)
theorem bx5f {w : World} {b : Nat} {v0 v1 v2 v3 v4 : Value} {t : TypeId} (h : w.heap[b]? = some (.cells #[v0, v1, v2, v3, v4] t (0, 0))) :
    w.frozen? ⟨b, 0, none⟩ = false ∧ w.frozen? ⟨b, 1, none⟩ = false ∧ w.frozen? ⟨b, 2, none⟩ = false ∧ w.frozen? ⟨b, 3, none⟩ = false ∧ w.frozen? ⟨b, 4, none⟩ = false := by
  simp [World.frozen?, h]
theorem set5 {w : World} {b : Nat} {v0 v1 v2 v3 v4 : Value} {t : TypeId} (h : w.heap[b]? = some (.cells #[v0, v1, v2, v3, v4] t (0, 0))) (u0 u1 u2 u3 u4 : Value) :
    (((((w.setCell ⟨b, 0, none⟩ u0).setCell ⟨b, 1, none⟩ u1).setCell ⟨b, 2, none⟩ u2).setCell ⟨b, 3, none⟩ u3).setCell ⟨b, 4, none⟩ u4).heap[b]? = some (.cells #[u0, u1, u2, u3, u4] t (0, 0)) := by
  simp [World.setCell, Array.getElem?_modify, h]
theorem below5 {w W : World} {b : Nat} (h : Below w.heap.size w W) (hb : w.heap.size ≤ b) (u0 u1 u2 u3 u4 : Value) :
    Below w.heap.size w (((((W.setCell ⟨b, 0, none⟩ u0).setCell ⟨b, 1, none⟩ u1).setCell ⟨b, 2, none⟩ u2).setCell ⟨b, 3, none⟩ u3).setCell ⟨b, 4, none⟩ u4) :=
  ((((h.setCell (p := ⟨b, 0, none⟩) hb u0).setCell (p := ⟨b, 1, none⟩) hb u1).setCell (p := ⟨b, 2, none⟩) hb u2).setCell (p := ⟨b, 3, none⟩) hb u3).setCell (p := ⟨b, 4, none⟩) hb u4
set_option maxRecDepth 100000 in
set_option maxHeartbeats 2000000 in
theorem clone_any (s : ByteArray) (w : World) (hs : s.size ≤ 140737488351232) : Calls Tryd.prog 21 #[.string s] w (Gives (.string s) w) := by
  have hc := Any.stringslite_Clone Tryd.laysM316 s w (by omega)
  change Calls Tryd.prog 28 _ _ _ at hc
  have H := Lib.hid hc
  clear hc hs
  go_enter Tryd.func21, Tryd.ntmps21
  go_wp2_with fail
  refine H.out.mono ?_
  rintro e w1 ⟨rfl, hb⟩
  have HB := Lib.hid hb
  go_wp2_with fail
  go_ret
  exact ⟨rfl, HB.out⟩
/-- What Parse gives. -/
def PsP (b : ByteArray) (w : World) (e : Ending) (w' : World) : Prop := e = .returned (.tuple #[.agg #[.int .i64 (prs b).f, .int .i64 (prs b).s, .int .i64 (prs b).g, .int .i64 (prs b).r, .string (prs b).b], .int .i64 (prsE b)]) ∧ Below w.heap.size w w'
theorem prs_no {b : ByteArray} (h : ¬ (10 ≤ b.size ∧ b.size ≤ 8192)) : prs b = ⟨0, 0, 0, 0, ⟨#[]⟩⟩ ∧ prsE b = 130 := by
  have e : prsOk b = false := by
    cases k : prsOk b
    · rfl
    · exact absurd (prsOk_iff.1 k) h
  unfold prs prsE
  rw [e]
  exact ⟨rfl, rfl⟩
theorem prs_yes {b : ByteArray} (h : 10 ≤ b.size ∧ b.size ≤ 8192) : prs b = ⟨n2 b 0 2, n2 b 2 4, n2 b 4 6, n2 b 6 10, b.extract 10 b.size⟩ ∧ prsE b = 0 := by
  have e : prsOk b = true := prsOk_iff.2 h
  unfold prs prsE
  rw [e]
  exact ⟨rfl, rfl⟩
set_option maxRecDepth 100000 in
set_option maxHeartbeats 8000000 in
theorem parse_no (b : ByteArray) (w : World) (hm : b.size ≤ 140737488351232) (h : ¬ (10 ≤ b.size ∧ b.size ≤ 8192)) : Calls Tryd.prog 10 #[.string b] w (PsP b w) := by
  unfold PsP
  rw [(prs_no h).1, (prs_no h).2]
  have HB : Hid (Below w.heap.size w (w.alloc (.cells #[.int .i64 0, .int .i64 0, .int .i64 0, .int .i64 0, .string ⟨#[]⟩] 23))) := (Below.refl _ w).alloc (Nat.le_refl _) _
  have HX := Lib.hid (box_new w #[.int .i64 0, .int .i64 0, .int .i64 0, .int .i64 0, .string ⟨#[]⟩] 23)
  by_cases h1 : b.size < 10
  · have q1 : ((b.size : Int) < 10) := by omega
    clear h
    go_enter Tryd.func10, Tryd.ntmps10
    go_wp2_with fail
    exact bodyPost_ret (results_load_tmp Tryd.results10 _ _ w.heap.size _ rfl (load_snac HX.out)) rfl ⟨rfl, HB.out⟩
  · have q1 : ¬ ((b.size : Int) < 10) := by omega
    have q2 : ((8192 : Int) < (b.size : Int)) := by omega
    clear h
    go_enter Tryd.func10, Tryd.ntmps10
    go_wp2_with fail
    exact bodyPost_ret (results_load_tmp Tryd.results10 _ _ w.heap.size _ rfl (load_snac HX.out)) rfl ⟨rfl, HB.out⟩
set_option maxRecDepth 100000 in
set_option maxHeartbeats 8000000 in
theorem parse_yes (b : ByteArray) (w : World) (hG : Gd w) (h : 10 ≤ b.size ∧ b.size ≤ 8192) : Calls Tryd.prog 10 #[.string b] w (PsP b w) := by
  unfold PsP
  rw [(prs_yes h).1, (prs_yes h).2]
  dsimp only
  obtain ⟨h1, h2⟩ := h
  have q1 : ¬ ((b.size : Int) < 10) := by omega
  have q2 : ¬ ((8192 : Int) < (b.size : Int)) := by omega
  have HB : Hid (Below w.heap.size w (w.alloc (.cells #[.int .i64 0, .int .i64 0, .int .i64 0, .int .i64 0, .string ⟨#[]⟩] 23))) := (Below.refl _ w).alloc (Nat.le_refl _) _
  have HX := Lib.hid (box_new w #[.int .i64 0, .int .i64 0, .int .i64 0, .int .i64 0, .string ⟨#[]⟩] 23)
  have CR := Lib.hid (readHead_any b _ h1 (by omega) (hG.below HB.out))
  have hz := cut_size b 10 b.size (Nat.le_refl _)
  have CL := Lib.hid (fun W => clone_any (b.extract 10 b.size) W (by omega))
  clear hG
  generalize n2 b 0 2 = N0 at CR ⊢
  generalize n2 b 2 4 = N1 at CR ⊢
  generalize n2 b 4 6 = N2 at CR ⊢
  generalize n2 b 6 10 = N3 at CR ⊢
  go_enter Tryd.func10, Tryd.ntmps10
  go_wp2_with fail
  refine CR.out.mono ?_
  rintro e w1 ⟨rfl, hb1⟩
  have HB1 := Lib.hid (HB.out.trans (hb1.mono HB.out.size))
  have HX1 := Lib.hid ((hb1.block _ (heap_lt HX.out)).trans HX.out)
  clear hb1 CR HB HX
  have HY := Lib.hid (box_new w1 #[.int .i64 N0, .int .i64 N1, .int .i64 N2, .int .i64 N3] 42)
  have HX2 := Lib.hid ((Below.heap_alloc w1 (.cells #[.int .i64 N0, .int .i64 N1, .int .i64 N2, .int .i64 N3] 42) _ (heap_lt HX1.out)).trans HX1.out)
  have HB2 := Lib.hid (HB1.out.alloc HB1.out.size (.cells #[.int .i64 N0, .int .i64 N1, .int .i64 N2, .int .i64 N3] 42))
  clear HB1 HX1
  go_wp2_with fail
  generalize w1.alloc (.cells #[.int .i64 N0, .int .i64 N1, .int .i64 N2, .int .i64 N3] 42) = W2 at HY HX2 HB2 ⊢
  obtain ⟨⟨c0, c1, c2, c3⟩, _⟩ := bx4 HY.out
  obtain ⟨d0, d1, d2, d3, d4⟩ := bx5 HX2.out
  obtain ⟨f0, f1, f2, f3, f4⟩ := bx5f HX2.out
  generalize w1.heap.size = A at c0 c1 c2 c3 HY ⊢
  have x0 : ∀ x : Ext W2, x.to.cell? ⟨A, 0, none⟩ = _ := fun x => ext_cell x c0
  have x1 : ∀ x : Ext W2, x.to.cell? ⟨A, 1, none⟩ = _ := fun x => ext_cell x c1
  have x2 : ∀ x : Ext W2, x.to.cell? ⟨A, 2, none⟩ = _ := fun x => ext_cell x c2
  have x3 : ∀ x : Ext W2, x.to.cell? ⟨A, 3, none⟩ = _ := fun x => ext_cell x c3
  have y0 : ∀ x : Ext W2, x.to.cell? ⟨w.heap.size, 0, none⟩ = _ := fun x => ext_cell x d0
  have u0 : ∀ x : Ext W2, x.to.frozen? ⟨w.heap.size, 0, none⟩ = false := fun x => ext_frozen x d0 f0
  have y1 : ∀ x : Ext W2, x.to.cell? ⟨w.heap.size, 1, none⟩ = _ := fun x => ext_cell x d1
  have u1 : ∀ x : Ext W2, x.to.frozen? ⟨w.heap.size, 1, none⟩ = false := fun x => ext_frozen x d1 f1
  have y2 : ∀ x : Ext W2, x.to.cell? ⟨w.heap.size, 2, none⟩ = _ := fun x => ext_cell x d2
  have u2 : ∀ x : Ext W2, x.to.frozen? ⟨w.heap.size, 2, none⟩ = false := fun x => ext_frozen x d2 f2
  have y3 : ∀ x : Ext W2, x.to.cell? ⟨w.heap.size, 3, none⟩ = _ := fun x => ext_cell x d3
  have u3 : ∀ x : Ext W2, x.to.frozen? ⟨w.heap.size, 3, none⟩ = false := fun x => ext_frozen x d3 f3
  have y4 : ∀ x : Ext W2, x.to.cell? ⟨w.heap.size, 4, none⟩ = _ := fun x => ext_cell x d4
  have u4 : ∀ x : Ext W2, x.to.frozen? ⟨w.heap.size, 4, none⟩ = false := fun x => ext_frozen x d4 f4
  have XL : Hid (∀ x : Ext W2, Calls Tryd.prog 21 #[.string (b.extract 10 b.size)] x.to fun e w' => e = .returned (.string (b.extract 10 b.size)) ∧ Below x.to.heap.size x.to w') := fun x => CL.out x.to
  have hsome := extSome W2
  clear CL c0 c1 c2 c3 d0 d1 d2 d3 d4 f0 f1 f2 f3 f4
  refine ext_tail 12 (by kernel_rfl) (by kernel_rfl) ?_
  simp only [List.take_succ_cons, List.take_zero, List.drop_succ_cons, List.drop_zero]
  repeat (go_big_quiet_step ((first | (go_at_call 21; with_reducible exact ext_call _ (XL.out _)))))
  refine wpQuiet_nil ?_
  rintro _ ⟨x, hx⟩
  subst hx
  have HX3 := Lib.hid ((x.below.block _ (heap_lt HX2.out)).trans HX2.out)
  have HB3 := Lib.hid (HB2.out.trans (x.below.mono HB2.out.size))
  have HR := Lib.hid (set5 HX3.out (.int .i64 N0) (.int .i64 N1) (.int .i64 N2) (.int .i64 N3) (.string (b.extract 10 b.size)))
  have HB4 := Lib.hid (below5 (b := w.heap.size) HB3.out (Nat.le_refl _) (.int .i64 N0) (.int .i64 N1) (.int .i64 N2) (.int .i64 N3) (.string (b.extract 10 b.size)))
  go_wp2_with fail
  exact bodyPost_ret (results_load_tmp Tryd.results10 _ _ w.heap.size _ rfl (load_snac HR.out)) rfl ⟨rfl, HB4.out⟩
theorem parse_any (b : ByteArray) (w : World) (hm : b.size ≤ 140737488351232) (hG : Gd w) : Calls Tryd.prog 10 #[.string b] w (PsP b w) := by
  by_cases h : 10 ≤ b.size ∧ b.size ≤ 8192
  · exact parse_yes b w hG h
  · exact parse_no b w hm h
end Go.Proofs.YthbpkdcjfcbngaaDoor
