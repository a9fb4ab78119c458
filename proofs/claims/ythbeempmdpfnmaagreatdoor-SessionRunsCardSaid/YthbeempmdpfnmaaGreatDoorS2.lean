/- Results that lie in cells; boxes at the head of a call; a session and what is said, stored; contracts of over, say, Sent. Conditions: those of each theorem's head. -/
import Derived.Test.YthbeempmdpfnmaaGreatDoorS1
import Derived.Laws.ResultCell
namespace Go.Proofs.YthbeempmdpfnmaaGreatDoor.T
open Go.RowKit Go.Lib

theorem alloc_size (w : World) (o : Obj) : (w.alloc o).heap.size = w.heap.size + 1 := by simp
theorem results_two {fn : Func} {p q : Tmp} {ty tu : TypeId} {P : Program} (h : fn.results = #[.cell p ty, .cell q tu]) (tmps : Array Value) (w : World) (g k : Nat) (v u : Value)
    (hp : tmps.getD p undef = .pointer (some ⟨g, 0, none⟩)) (hq : tmps.getD q undef = .pointer (some ⟨k, 0, none⟩)) (hl : (loadVar ty ⟨g, 0, none⟩).run P w = .ok v w) (hm : (loadVar tu ⟨k, 0, none⟩).run P w = .ok u w) :
    (results fn tmps).run P w = .ok (.tuple #[v, u]) w := by
  have hp' : tmps[p]?.getD undef = .pointer (some ⟨g, 0, none⟩) := by simpa using hp
  have hq' : tmps[q]?.getD undef = .pointer (some ⟨k, 0, none⟩) := by simpa using hq
  simp [results, h, hp', hq', asAddr, hl, hm]
theorem results_three {fn : Func} {p q r : Tmp} {ty tu : TypeId} {P : Program} (h : fn.results = #[.cell p ty, .cell q tu, .tmp r]) (tmps : Array Value) (w : World) (g k : Nat) (v u x : Value)
    (hp : tmps.getD p undef = .pointer (some ⟨g, 0, none⟩)) (hq : tmps.getD q undef = .pointer (some ⟨k, 0, none⟩)) (hx : tmps.getD r undef = x) (hl : (loadVar ty ⟨g, 0, none⟩).run P w = .ok v w) (hm : (loadVar tu ⟨k, 0, none⟩).run P w = .ok u w) :
    (results fn tmps).run P w = .ok (.tuple #[v, u, x]) w := by
  have hp' : tmps[p]?.getD undef = .pointer (some ⟨g, 0, none⟩) := by simpa using hp
  have hq' : tmps[q]?.getD undef = .pointer (some ⟨k, 0, none⟩) := by simpa using hq
  have hx' : tmps[r]?.getD undef = x := by simpa using hx
  simp [results, h, hp', hq', hx', asAddr, hl, hm]
theorem load_s {w : World} {g : Nat} {v0 v1 v2 v3 v4 v5 v6 v7 v8 : Value} (h : w.heap[g]? = some (.cells #[v0, v1, v2, v3, v4, v5, v6, v7, v8] 28 (0, 0))) : (loadVar 28 ⟨g, 0, none⟩).run Tryz.prog w = .ok (.agg #[v0, v1, v2, v3, v4, v5, v6, v7, v8]) w :=
  run_loadVar_row w g 28 28 _ (0, 0) _ h Tryz.underlying28 rfl (by kernel_rfl)
theorem load_o {w : World} {g : Nat} {y0 y1 y2 : Value} (h : w.heap[g]? = some (.cells #[y0, y1, y2] 31 (0, 0))) : (loadVar 31 ⟨g, 0, none⟩).run Tryz.prog w = .ok (.agg #[y0, y1, y2]) w :=
  run_loadVar_row w g 31 31 _ (0, 0) _ h Tryz.underlying31 rfl (by kernel_rfl)
theorem st9 {V : World} {A : Nat} {v0 v1 v2 v3 v4 v5 v6 v7 v8 : Value} {t : TypeId} (h : V.heap[A]? = some (.cells #[v0, v1, v2, v3, v4, v5, v6, v7, v8] t (0, 0))) (u0 u1 u2 u3 u4 u5 u6 u7 u8 : Value) : (((((((((V.setCell ⟨A, 0, none⟩ u0).setCell ⟨A, 1, none⟩ u1).setCell ⟨A, 2, none⟩ u2).setCell ⟨A, 3, none⟩ u3).setCell ⟨A, 4, none⟩ u4).setCell ⟨A, 5, none⟩ u5).setCell ⟨A, 6, none⟩ u6).setCell ⟨A, 7, none⟩ u7).setCell ⟨A, 8, none⟩ u8).heap[A]? = some (.cells #[u0, u1, u2, u3, u4, u5, u6, u7, u8] t (0, 0)) := by
  simp [World.setCell, Array.getElem?_modify, h]
theorem st9k {V : World} {A b : Nat} (hb : b ≠ A) (u0 u1 u2 u3 u4 u5 u6 u7 u8 : Value) : (((((((((V.setCell ⟨A, 0, none⟩ u0).setCell ⟨A, 1, none⟩ u1).setCell ⟨A, 2, none⟩ u2).setCell ⟨A, 3, none⟩ u3).setCell ⟨A, 4, none⟩ u4).setCell ⟨A, 5, none⟩ u5).setCell ⟨A, 6, none⟩ u6).setCell ⟨A, 7, none⟩ u7).setCell ⟨A, 8, none⟩ u8).heap[b]? = V.heap[b]? := by
  simp [World.setCell, Array.getElem?_modify, Ne.symm hb]
theorem st9b {w V : World} {A : Nat} (h : Below w.heap.size w V) (hA : w.heap.size ≤ A) (u0 u1 u2 u3 u4 u5 u6 u7 u8 : Value) : Below w.heap.size w (((((((((V.setCell ⟨A, 0, none⟩ u0).setCell ⟨A, 1, none⟩ u1).setCell ⟨A, 2, none⟩ u2).setCell ⟨A, 3, none⟩ u3).setCell ⟨A, 4, none⟩ u4).setCell ⟨A, 5, none⟩ u5).setCell ⟨A, 6, none⟩ u6).setCell ⟨A, 7, none⟩ u7).setCell ⟨A, 8, none⟩ u8) :=
  (((((((((h.setCell (p := ⟨A, 0, none⟩) hA _).setCell (p := ⟨A, 1, none⟩) hA _).setCell (p := ⟨A, 2, none⟩) hA _).setCell (p := ⟨A, 3, none⟩) hA _).setCell (p := ⟨A, 4, none⟩) hA _).setCell (p := ⟨A, 5, none⟩) hA _).setCell (p := ⟨A, 6, none⟩) hA _).setCell (p := ⟨A, 7, none⟩) hA _).setCell (p := ⟨A, 8, none⟩) hA _)
theorem st3 {V : World} {A : Nat} {v0 v1 v2 : Value} {t : TypeId} (h : V.heap[A]? = some (.cells #[v0, v1, v2] t (0, 0))) (u0 u1 u2 : Value) : (((V.setCell ⟨A, 0, none⟩ u0).setCell ⟨A, 1, none⟩ u1).setCell ⟨A, 2, none⟩ u2).heap[A]? = some (.cells #[u0, u1, u2] t (0, 0)) := by
  simp [World.setCell, Array.getElem?_modify, h]
theorem st3k {V : World} {A b : Nat} (hb : b ≠ A) (u0 u1 u2 : Value) : (((V.setCell ⟨A, 0, none⟩ u0).setCell ⟨A, 1, none⟩ u1).setCell ⟨A, 2, none⟩ u2).heap[b]? = V.heap[b]? := by
  simp [World.setCell, Array.getElem?_modify, Ne.symm hb]
theorem st3b {w V : World} {A : Nat} (h : Below w.heap.size w V) (hA : w.heap.size ≤ A) (u0 u1 u2 : Value) : Below w.heap.size w (((V.setCell ⟨A, 0, none⟩ u0).setCell ⟨A, 1, none⟩ u1).setCell ⟨A, 2, none⟩ u2) :=
  (((h.setCell (p := ⟨A, 0, none⟩) hA _).setCell (p := ⟨A, 1, none⟩) hA _).setCell (p := ⟨A, 2, none⟩) hA _)
theorem st_size {w : World} {p : Addr} {v : Value} : (w.setCell p v).heap.size = w.heap.size := by simp [World.setCell]
theorem bx9f {w : World} {b : Nat} {v0 v1 v2 v3 v4 v5 v6 v7 v8 : Value} {t : TypeId} (h : w.heap[b]? = some (.cells #[v0, v1, v2, v3, v4, v5, v6, v7, v8] t (0, 0))) : w.frozen? ⟨b, 0, none⟩ = false ∧ w.frozen? ⟨b, 1, none⟩ = false ∧ w.frozen? ⟨b, 2, none⟩ = false ∧ w.frozen? ⟨b, 3, none⟩ = false ∧ w.frozen? ⟨b, 4, none⟩ = false ∧ w.frozen? ⟨b, 5, none⟩ = false ∧ w.frozen? ⟨b, 6, none⟩ = false ∧ w.frozen? ⟨b, 7, none⟩ = false ∧ w.frozen? ⟨b, 8, none⟩ = false := by
  simp [World.frozen?, h]
theorem bx3f {w : World} {b : Nat} {v0 v1 v2 : Value} {t : TypeId} (h : w.heap[b]? = some (.cells #[v0, v1, v2] t (0, 0))) : w.frozen? ⟨b, 0, none⟩ = false ∧ w.frozen? ⟨b, 1, none⟩ = false ∧ w.frozen? ⟨b, 2, none⟩ = false := by
  simp [World.frozen?, h]
theorem bxTwo (w : World) (A0 : Array Value) (t0 : TypeId) (A1 : Array Value) (t1 : TypeId) : Hid (Below w.heap.size w ((w.alloc (.cells A0 t0)).alloc (.cells A1 t1))) ∧ Hid (((w.alloc (.cells A0 t0)).alloc (.cells A1 t1)).heap[w.heap.size]? = some (.cells A0 t0 (0, 0))) ∧ Hid (((w.alloc (.cells A0 t0)).alloc (.cells A1 t1)).heap[w.heap.size + 1]? = some (.cells A1 t1 (0, 0))) := by
  have e0 : Below w.heap.size w (w.alloc (.cells A0 t0)) := (Below.refl _ w).alloc (Nat.le_refl _) _
  have e1 : Below w.heap.size w ((w.alloc (.cells A0 t0)).alloc (.cells A1 t1)) := e0.alloc (by first | (simp; done) | (simp only [alloc_size]; omega)) _
  have h0_1 : (w.alloc (.cells A0 t0)).heap[w.heap.size]? = some (.cells A0 t0 (0, 0)) := by
    have h := box_new w A0 t0
    show _ = _
    simpa using h
  have h0_2 := (Below.heap_alloc (w.alloc (.cells A0 t0)) (.cells A1 t1) _ (heap_lt h0_1)).trans h0_1
  have h1_2 : ((w.alloc (.cells A0 t0)).alloc (.cells A1 t1)).heap[w.heap.size + 1]? = some (.cells A1 t1 (0, 0)) := by
    have h := box_new (w.alloc (.cells A0 t0)) A1 t1
    show _ = _
    simpa using h
  exact ⟨e1, h0_2, h1_2⟩
theorem bxThree (w : World) (A0 : Array Value) (t0 : TypeId) (A1 : Array Value) (t1 : TypeId) (A2 : Array Value) (t2 : TypeId) : Hid (Below w.heap.size w (((w.alloc (.cells A0 t0)).alloc (.cells A1 t1)).alloc (.cells A2 t2))) ∧ Hid ((((w.alloc (.cells A0 t0)).alloc (.cells A1 t1)).alloc (.cells A2 t2)).heap[w.heap.size]? = some (.cells A0 t0 (0, 0))) ∧ Hid ((((w.alloc (.cells A0 t0)).alloc (.cells A1 t1)).alloc (.cells A2 t2)).heap[w.heap.size + 1]? = some (.cells A1 t1 (0, 0))) ∧ Hid ((((w.alloc (.cells A0 t0)).alloc (.cells A1 t1)).alloc (.cells A2 t2)).heap[w.heap.size + 2]? = some (.cells A2 t2 (0, 0))) := by
  have e0 : Below w.heap.size w (w.alloc (.cells A0 t0)) := (Below.refl _ w).alloc (Nat.le_refl _) _
  have e1 : Below w.heap.size w ((w.alloc (.cells A0 t0)).alloc (.cells A1 t1)) := e0.alloc (by first | (simp; done) | (simp only [alloc_size]; omega)) _
  have e2 : Below w.heap.size w (((w.alloc (.cells A0 t0)).alloc (.cells A1 t1)).alloc (.cells A2 t2)) := e1.alloc (by first | (simp; done) | (simp only [alloc_size]; omega)) _
  have h0_1 : (w.alloc (.cells A0 t0)).heap[w.heap.size]? = some (.cells A0 t0 (0, 0)) := by
    have h := box_new w A0 t0
    show _ = _
    simpa using h
  have h0_2 := (Below.heap_alloc (w.alloc (.cells A0 t0)) (.cells A1 t1) _ (heap_lt h0_1)).trans h0_1
  have h1_2 : ((w.alloc (.cells A0 t0)).alloc (.cells A1 t1)).heap[w.heap.size + 1]? = some (.cells A1 t1 (0, 0)) := by
    have h := box_new (w.alloc (.cells A0 t0)) A1 t1
    show _ = _
    simpa using h
  have h0_3 := (Below.heap_alloc ((w.alloc (.cells A0 t0)).alloc (.cells A1 t1)) (.cells A2 t2) _ (heap_lt h0_2)).trans h0_2
  have h1_3 := (Below.heap_alloc ((w.alloc (.cells A0 t0)).alloc (.cells A1 t1)) (.cells A2 t2) _ (heap_lt h1_2)).trans h1_2
  have h2_3 : (((w.alloc (.cells A0 t0)).alloc (.cells A1 t1)).alloc (.cells A2 t2)).heap[w.heap.size + 2]? = some (.cells A2 t2 (0, 0)) := by
    have h := box_new ((w.alloc (.cells A0 t0)).alloc (.cells A1 t1)) A2 t2
    show _ = _
    simpa using h
  exact ⟨e2, h0_3, h1_3, h2_3⟩
theorem bxFour (w : World) (A0 : Array Value) (t0 : TypeId) (A1 : Array Value) (t1 : TypeId) (A2 : Array Value) (t2 : TypeId) (A3 : Array Value) (t3 : TypeId) : Hid (Below w.heap.size w ((((w.alloc (.cells A0 t0)).alloc (.cells A1 t1)).alloc (.cells A2 t2)).alloc (.cells A3 t3))) ∧ Hid (((((w.alloc (.cells A0 t0)).alloc (.cells A1 t1)).alloc (.cells A2 t2)).alloc (.cells A3 t3)).heap[w.heap.size]? = some (.cells A0 t0 (0, 0))) ∧ Hid (((((w.alloc (.cells A0 t0)).alloc (.cells A1 t1)).alloc (.cells A2 t2)).alloc (.cells A3 t3)).heap[w.heap.size + 1]? = some (.cells A1 t1 (0, 0))) ∧ Hid (((((w.alloc (.cells A0 t0)).alloc (.cells A1 t1)).alloc (.cells A2 t2)).alloc (.cells A3 t3)).heap[w.heap.size + 2]? = some (.cells A2 t2 (0, 0))) ∧ Hid (((((w.alloc (.cells A0 t0)).alloc (.cells A1 t1)).alloc (.cells A2 t2)).alloc (.cells A3 t3)).heap[w.heap.size + 3]? = some (.cells A3 t3 (0, 0))) := by
  have e0 : Below w.heap.size w (w.alloc (.cells A0 t0)) := (Below.refl _ w).alloc (Nat.le_refl _) _
  have e1 : Below w.heap.size w ((w.alloc (.cells A0 t0)).alloc (.cells A1 t1)) := e0.alloc (by first | (simp; done) | (simp only [alloc_size]; omega)) _
  have e2 : Below w.heap.size w (((w.alloc (.cells A0 t0)).alloc (.cells A1 t1)).alloc (.cells A2 t2)) := e1.alloc (by first | (simp; done) | (simp only [alloc_size]; omega)) _
  have e3 : Below w.heap.size w ((((w.alloc (.cells A0 t0)).alloc (.cells A1 t1)).alloc (.cells A2 t2)).alloc (.cells A3 t3)) := e2.alloc (by first | (simp; done) | (simp only [alloc_size]; omega)) _
  have h0_1 : (w.alloc (.cells A0 t0)).heap[w.heap.size]? = some (.cells A0 t0 (0, 0)) := by
    have h := box_new w A0 t0
    show _ = _
    simpa using h
  have h0_2 := (Below.heap_alloc (w.alloc (.cells A0 t0)) (.cells A1 t1) _ (heap_lt h0_1)).trans h0_1
  have h1_2 : ((w.alloc (.cells A0 t0)).alloc (.cells A1 t1)).heap[w.heap.size + 1]? = some (.cells A1 t1 (0, 0)) := by
    have h := box_new (w.alloc (.cells A0 t0)) A1 t1
    show _ = _
    simpa using h
  have h0_3 := (Below.heap_alloc ((w.alloc (.cells A0 t0)).alloc (.cells A1 t1)) (.cells A2 t2) _ (heap_lt h0_2)).trans h0_2
  have h1_3 := (Below.heap_alloc ((w.alloc (.cells A0 t0)).alloc (.cells A1 t1)) (.cells A2 t2) _ (heap_lt h1_2)).trans h1_2
  have h2_3 : (((w.alloc (.cells A0 t0)).alloc (.cells A1 t1)).alloc (.cells A2 t2)).heap[w.heap.size + 2]? = some (.cells A2 t2 (0, 0)) := by
    have h := box_new ((w.alloc (.cells A0 t0)).alloc (.cells A1 t1)) A2 t2
    show _ = _
    simpa using h
  have h0_4 := (Below.heap_alloc (((w.alloc (.cells A0 t0)).alloc (.cells A1 t1)).alloc (.cells A2 t2)) (.cells A3 t3) _ (heap_lt h0_3)).trans h0_3
  have h1_4 := (Below.heap_alloc (((w.alloc (.cells A0 t0)).alloc (.cells A1 t1)).alloc (.cells A2 t2)) (.cells A3 t3) _ (heap_lt h1_3)).trans h1_3
  have h2_4 := (Below.heap_alloc (((w.alloc (.cells A0 t0)).alloc (.cells A1 t1)).alloc (.cells A2 t2)) (.cells A3 t3) _ (heap_lt h2_3)).trans h2_3
  have h3_4 : ((((w.alloc (.cells A0 t0)).alloc (.cells A1 t1)).alloc (.cells A2 t2)).alloc (.cells A3 t3)).heap[w.heap.size + 3]? = some (.cells A3 t3 (0, 0)) := by
    have h := box_new (((w.alloc (.cells A0 t0)).alloc (.cells A1 t1)).alloc (.cells A2 t2)) A3 t3
    show _ = _
    simpa using h
  exact ⟨e3, h0_4, h1_4, h2_4, h3_4⟩
set_option maxRecDepth 100000 in
set_option maxHeartbeats 8000000 in
theorem over_any (s : Ss) (code : Int) (w : World) : Calls Tryz.prog 35 #[.agg #[.int .i64 s.p, .string s.n, .string s.d, .int .i64 s.s, .int .i64 s.t, .int .i64 s.c, .int .i64 s.h, .int .i64 s.a, .int .i64 s.e], .int .i64 code] w (Gives (.agg #[.int .i64 6, .string s.n, .string s.d, .int .i64 s.s, .int .i64 s.t, .int .i64 s.c, .int .i64 s.h, .int .i64 s.a, .int .i64 code]) w) := by
  obtain ⟨-, HX, HZ⟩ := bxTwo w #[.int .i64 s.p, .string s.n, .string s.d, .int .i64 s.s, .int .i64 s.t, .int .i64 s.c, .int .i64 s.h, .int .i64 s.a, .int .i64 s.e] 28 #[.int .i64 0, .string ⟨#[]⟩, .string ⟨#[]⟩, .int .i64 0, .int .i64 0, .int .i64 0, .int .i64 0, .int .i64 0, .int .i64 0] 28
  obtain ⟨m0, m1, m2, m3, m4, m5, m6, m7, m8⟩ := bx9 HX.out
  obtain ⟨f0, f1, f2, f3, f4, f5, f6, f7, f8⟩ := bx9f HX.out
  obtain ⟨z0, z1, z2, z3, z4, z5, z6, z7, z8⟩ := bx9 HZ.out
  obtain ⟨g0, g1, g2, g3, g4, g5, g6, g7, g8⟩ := bx9f HZ.out
  obtain ⟨HB, -, HR⟩ := bxTwo w #[.int .i64 6, .string s.n, .string s.d, .int .i64 s.s, .int .i64 s.t, .int .i64 s.c, .int .i64 s.h, .int .i64 s.a, .int .i64 code] 28 #[.int .i64 6, .string s.n, .string s.d, .int .i64 s.s, .int .i64 s.t, .int .i64 s.c, .int .i64 s.h, .int .i64 s.a, .int .i64 code] 28
  go_enter Tryz.func35, Tryz.ntmps35
  go_wp2_with fail
  exact bodyPost_ret (results_cell_row Tryz.results35 _ _ (w.heap.size + 1) 28 _ (0, 0) _ rfl HR.out Tryz.underlying28 rfl (by kernel_rfl)) rfl ⟨rfl, HB.out⟩
set_option maxRecDepth 100000 in
set_option maxHeartbeats 8000000 in
theorem say_any (s : Ss) (a : Option Addr) (n c : Nat) (w : World) : Calls Tryz.prog 33 #[.agg #[.int .i64 s.p, .string s.n, .string s.d, .int .i64 s.s, .int .i64 s.t, .int .i64 s.c, .int .i64 s.h, .int .i64 s.a, .int .i64 s.e], .slice a n c] w (Gives (.tuple #[.agg #[.int .i64 s.p, .string s.n, .string s.d, .int .i64 s.s, .int .i64 s.t, .int .i64 s.c, .int .i64 s.h, .int .i64 0, .int .i64 s.e], .agg #[.slice a n c, .bool false, .slice none 0 0]]) w) := by
  obtain ⟨-, HX, HZ, HO⟩ := bxThree w #[.int .i64 s.p, .string s.n, .string s.d, .int .i64 s.s, .int .i64 s.t, .int .i64 s.c, .int .i64 s.h, .int .i64 s.a, .int .i64 s.e] 28 #[.int .i64 0, .string ⟨#[]⟩, .string ⟨#[]⟩, .int .i64 0, .int .i64 0, .int .i64 0, .int .i64 0, .int .i64 0, .int .i64 0] 28 #[.slice none 0 0, .bool false, .slice none 0 0] 31
  obtain ⟨m0, m1, m2, m3, m4, m5, m6, m7, m8⟩ := bx9 HX.out
  obtain ⟨f0, f1, f2, f3, f4, f5, f6, f7, f8⟩ := bx9f HX.out
  obtain ⟨z0, z1, z2, z3, z4, z5, z6, z7, z8⟩ := bx9 HZ.out
  obtain ⟨g0, g1, g2, g3, g4, g5, g6, g7, g8⟩ := bx9f HZ.out
  obtain ⟨y0, y1, y2⟩ := bx3 HO.out
  obtain ⟨k0, k1, k2⟩ := bx3f HO.out
  obtain ⟨HB, -, HR, HQ⟩ := bxThree w #[.int .i64 s.p, .string s.n, .string s.d, .int .i64 s.s, .int .i64 s.t, .int .i64 s.c, .int .i64 s.h, .int .i64 0, .int .i64 s.e] 28 #[.int .i64 s.p, .string s.n, .string s.d, .int .i64 s.s, .int .i64 s.t, .int .i64 s.c, .int .i64 s.h, .int .i64 0, .int .i64 s.e] 28 #[.slice a n c, .bool false, .slice none 0 0] 31
  go_enter Tryz.func33, Tryz.ntmps33
  go_wp2_with fail
  exact bodyPost_ret (results_two Tryz.results33 _ _ (w.heap.size + 1) (w.heap.size + 2) _ _ rfl rfl (load_s HR.out) (load_o HQ.out)) rfl ⟨rfl, HB.out⟩
theorem kp1 {V : World} {A i b : Nat} {u : Value} {o : Option Obj} (hb : b ≠ A) (h : V.heap[b]? = o) : (V.setCell ⟨A, i, none⟩ u).heap[b]? = o := by
  rw [← h]
  simp [World.setCell, Array.getElem?_modify, Ne.symm hb]
set_option maxRecDepth 100000 in
set_option maxHeartbeats 8000000 in
theorem sent_any_0 (s : Ss) (w : World) (hu : undr s.p = false) : Calls Tryz.prog 24 #[.agg #[.int .i64 s.p, .string s.n, .string s.d, .int .i64 s.s, .int .i64 s.t, .int .i64 s.c, .int .i64 s.h, .int .i64 s.a, .int .i64 s.e]] w (Gives (.agg #[.int .i64 s.p, .string s.n, .string s.d, .int .i64 s.s, .int .i64 s.t, .int .i64 s.c, .int .i64 s.h, .int .i64 s.a, .int .i64 s.e]) w) := by
  have CU := Lib.hid (fun W => undr_any s W)
  rw [hu] at CU
  clear hu
  obtain ⟨HB, HX, HZ⟩ := bxTwo w #[.int .i64 s.p, .string s.n, .string s.d, .int .i64 s.s, .int .i64 s.t, .int .i64 s.c, .int .i64 s.h, .int .i64 s.a, .int .i64 s.e] 28 #[.int .i64 0, .string ⟨#[]⟩, .string ⟨#[]⟩, .int .i64 0, .int .i64 0, .int .i64 0, .int .i64 0, .int .i64 0, .int .i64 0] 28
  obtain ⟨m0, m1, m2, m3, m4, m5, m6, m7, m8⟩ := bx9 HX.out
  go_enter Tryz.func24, Tryz.ntmps24
  go_wp2_with fail
  refine (CU.out _).mono ?_
  rintro e w1 ⟨rfl, hb⟩
  clear m0 m1 m2 m3 m4 m5 m6 m7 m8
  replace HX := kpB hb HX
  replace HZ := kpB hb HZ
  have HB1 := Lib.hid (HB.out.trans (hb.mono HB.out.size))
  clear hb HB CU
  obtain ⟨m0, m1, m2, m3, m4, m5, m6, m7, m8⟩ := bx9 HX.out
  obtain ⟨f0, f1, f2, f3, f4, f5, f6, f7, f8⟩ := bx9f HX.out
  obtain ⟨z0, z1, z2, z3, z4, z5, z6, z7, z8⟩ := bx9 HZ.out
  obtain ⟨g0, g1, g2, g3, g4, g5, g6, g7, g8⟩ := bx9f HZ.out
  have hP : w.heap.size + 1 < w1.heap.size := heap_lt HZ.out
  go_wp2_with fail
  have HV : Hid (Below w.heap.size w w1) := HB1.out
  have HR := Lib.hid (st9 (V := w1) HZ.out (.int .i64 s.p) (.string s.n) (.string s.d) (.int .i64 s.s) (.int .i64 s.t) (.int .i64 s.c) (.int .i64 s.h) (.int .i64 s.a) (.int .i64 s.e))
  exact bodyPost_ret (results_cell_row Tryz.results24 _ _ (w.heap.size + 1) 28 _ (0, 0) _ rfl HR.out Tryz.underlying28 rfl (by kernel_rfl)) rfl ⟨rfl, st9b HV.out (Nat.le_succ _) _ _ _ _ _ _ _ _ _⟩
set_option maxRecDepth 100000 in
set_option maxHeartbeats 8000000 in
theorem sent_any_1 (s : Ss) (w : World) (hu : undr s.p = true) : Calls Tryz.prog 24 #[.agg #[.int .i64 s.p, .string s.n, .string s.d, .int .i64 s.s, .int .i64 s.t, .int .i64 s.c, .int .i64 s.h, .int .i64 s.a, .int .i64 s.e]] w (Gives (.agg #[.int .i64 s.p, .string s.n, .string s.d, .int .i64 s.s, .int .i64 s.t, .int .i64 s.c, .int .i64 s.h, .int .i64 0, .int .i64 s.e]) w) := by
  have CU := Lib.hid (fun W => undr_any s W)
  rw [hu] at CU
  clear hu
  obtain ⟨HB, HX, HZ⟩ := bxTwo w #[.int .i64 s.p, .string s.n, .string s.d, .int .i64 s.s, .int .i64 s.t, .int .i64 s.c, .int .i64 s.h, .int .i64 s.a, .int .i64 s.e] 28 #[.int .i64 0, .string ⟨#[]⟩, .string ⟨#[]⟩, .int .i64 0, .int .i64 0, .int .i64 0, .int .i64 0, .int .i64 0, .int .i64 0] 28
  obtain ⟨m0, m1, m2, m3, m4, m5, m6, m7, m8⟩ := bx9 HX.out
  go_enter Tryz.func24, Tryz.ntmps24
  go_wp2_with fail
  refine (CU.out _).mono ?_
  rintro e w1 ⟨rfl, hb⟩
  clear m0 m1 m2 m3 m4 m5 m6 m7 m8
  replace HX := kpB hb HX
  replace HZ := kpB hb HZ
  have HB1 := Lib.hid (HB.out.trans (hb.mono HB.out.size))
  clear hb HB CU
  obtain ⟨m0, m1, m2, m3, m4, m5, m6, m7, m8⟩ := bx9 HX.out
  obtain ⟨f0, f1, f2, f3, f4, f5, f6, f7, f8⟩ := bx9f HX.out
  obtain ⟨z0, z1, z2, z3, z4, z5, z6, z7, z8⟩ := bx9 HZ.out
  obtain ⟨g0, g1, g2, g3, g4, g5, g6, g7, g8⟩ := bx9f HZ.out
  have hP : w.heap.size + 1 < w1.heap.size := heap_lt HZ.out
  go_wp2_with fail
  have HV : Hid (Below w.heap.size w (w1.setCell ⟨w.heap.size, 7, none⟩ (.int .i64 0))) := HB1.out.setCell (p := ⟨w.heap.size, 7, none⟩) (Nat.le_refl _) _
  have HR := Lib.hid (st9 (V := (w1.setCell ⟨w.heap.size, 7, none⟩ (.int .i64 0))) (kp1 (Nat.succ_ne_self _) HZ.out) (.int .i64 s.p) (.string s.n) (.string s.d) (.int .i64 s.s) (.int .i64 s.t) (.int .i64 s.c) (.int .i64 s.h) (.int .i64 0) (.int .i64 s.e))
  exact bodyPost_ret (results_cell_row Tryz.results24 _ _ (w.heap.size + 1) 28 _ (0, 0) _ rfl HR.out Tryz.underlying28 rfl (by kernel_rfl)) rfl ⟨rfl, st9b HV.out (Nat.le_succ _) _ _ _ _ _ _ _ _ _⟩
theorem sent_any (s : Ss) (w : World) : Calls Tryz.prog 24 #[sA s] w (Gives (sA (sn s)) w) := by
  unfold sn
  cases hu : undr s.p
  · rw [if_pos rfl]
    exact sent_any_0 s w hu
  · rw [if_neg (by decide)]
    exact sent_any_1 s w hu
set_option maxRecDepth 100000 in
set_option maxHeartbeats 8000000 in
theorem rsent_any_0 (s : Ss) (w : World) (hu : undr s.p = false) : Calls Tryz.prog 28 #[.agg #[.int .i64 s.p, .string s.n, .string s.d, .int .i64 s.s, .int .i64 s.t, .int .i64 s.c, .int .i64 s.h, .int .i64 s.a, .int .i64 s.e]] w (Gives (.agg #[.int .i64 s.p, .string s.n, .string s.d, .int .i64 s.s, .int .i64 s.t, .int .i64 s.c, .int .i64 s.h, .int .i64 s.a, .int .i64 s.e]) w) := by
  have CU := Lib.hid (fun W => rundr_any s W)
  rw [hu] at CU
  clear hu
  obtain ⟨HB, HX, HZ⟩ := bxTwo w #[.int .i64 s.p, .string s.n, .string s.d, .int .i64 s.s, .int .i64 s.t, .int .i64 s.c, .int .i64 s.h, .int .i64 s.a, .int .i64 s.e] 28 #[.int .i64 0, .string ⟨#[]⟩, .string ⟨#[]⟩, .int .i64 0, .int .i64 0, .int .i64 0, .int .i64 0, .int .i64 0, .int .i64 0] 28
  obtain ⟨m0, m1, m2, m3, m4, m5, m6, m7, m8⟩ := bx9 HX.out
  go_enter Tryz.func28, Tryz.ntmps28
  go_wp2_with fail
  refine (CU.out _).mono ?_
  rintro e w1 ⟨rfl, hb⟩
  clear m0 m1 m2 m3 m4 m5 m6 m7 m8
  replace HX := kpB hb HX
  replace HZ := kpB hb HZ
  have HB1 := Lib.hid (HB.out.trans (hb.mono HB.out.size))
  clear hb HB CU
  obtain ⟨m0, m1, m2, m3, m4, m5, m6, m7, m8⟩ := bx9 HX.out
  obtain ⟨f0, f1, f2, f3, f4, f5, f6, f7, f8⟩ := bx9f HX.out
  obtain ⟨z0, z1, z2, z3, z4, z5, z6, z7, z8⟩ := bx9 HZ.out
  obtain ⟨g0, g1, g2, g3, g4, g5, g6, g7, g8⟩ := bx9f HZ.out
  have hP : w.heap.size + 1 < w1.heap.size := heap_lt HZ.out
  go_wp2_with fail
  have HV : Hid (Below w.heap.size w w1) := HB1.out
  have HR := Lib.hid (st9 (V := w1) HZ.out (.int .i64 s.p) (.string s.n) (.string s.d) (.int .i64 s.s) (.int .i64 s.t) (.int .i64 s.c) (.int .i64 s.h) (.int .i64 s.a) (.int .i64 s.e))
  exact bodyPost_ret (results_cell_row Tryz.results28 _ _ (w.heap.size + 1) 28 _ (0, 0) _ rfl HR.out Tryz.underlying28 rfl (by kernel_rfl)) rfl ⟨rfl, st9b HV.out (Nat.le_succ _) _ _ _ _ _ _ _ _ _⟩
set_option maxRecDepth 100000 in
set_option maxHeartbeats 8000000 in
theorem rsent_any_1 (s : Ss) (w : World) (hu : undr s.p = true) : Calls Tryz.prog 28 #[.agg #[.int .i64 s.p, .string s.n, .string s.d, .int .i64 s.s, .int .i64 s.t, .int .i64 s.c, .int .i64 s.h, .int .i64 s.a, .int .i64 s.e]] w (Gives (.agg #[.int .i64 s.p, .string s.n, .string s.d, .int .i64 s.s, .int .i64 s.t, .int .i64 s.c, .int .i64 s.h, .int .i64 0, .int .i64 s.e]) w) := by
  have CU := Lib.hid (fun W => rundr_any s W)
  rw [hu] at CU
  clear hu
  obtain ⟨HB, HX, HZ⟩ := bxTwo w #[.int .i64 s.p, .string s.n, .string s.d, .int .i64 s.s, .int .i64 s.t, .int .i64 s.c, .int .i64 s.h, .int .i64 s.a, .int .i64 s.e] 28 #[.int .i64 0, .string ⟨#[]⟩, .string ⟨#[]⟩, .int .i64 0, .int .i64 0, .int .i64 0, .int .i64 0, .int .i64 0, .int .i64 0] 28
  obtain ⟨m0, m1, m2, m3, m4, m5, m6, m7, m8⟩ := bx9 HX.out
  go_enter Tryz.func28, Tryz.ntmps28
  go_wp2_with fail
  refine (CU.out _).mono ?_
  rintro e w1 ⟨rfl, hb⟩
  clear m0 m1 m2 m3 m4 m5 m6 m7 m8
  replace HX := kpB hb HX
  replace HZ := kpB hb HZ
  have HB1 := Lib.hid (HB.out.trans (hb.mono HB.out.size))
  clear hb HB CU
  obtain ⟨m0, m1, m2, m3, m4, m5, m6, m7, m8⟩ := bx9 HX.out
  obtain ⟨f0, f1, f2, f3, f4, f5, f6, f7, f8⟩ := bx9f HX.out
  obtain ⟨z0, z1, z2, z3, z4, z5, z6, z7, z8⟩ := bx9 HZ.out
  obtain ⟨g0, g1, g2, g3, g4, g5, g6, g7, g8⟩ := bx9f HZ.out
  have hP : w.heap.size + 1 < w1.heap.size := heap_lt HZ.out
  go_wp2_with fail
  have HV : Hid (Below w.heap.size w (w1.setCell ⟨w.heap.size, 7, none⟩ (.int .i64 0))) := HB1.out.setCell (p := ⟨w.heap.size, 7, none⟩) (Nat.le_refl _) _
  have HR := Lib.hid (st9 (V := (w1.setCell ⟨w.heap.size, 7, none⟩ (.int .i64 0))) (kp1 (Nat.succ_ne_self _) HZ.out) (.int .i64 s.p) (.string s.n) (.string s.d) (.int .i64 s.s) (.int .i64 s.t) (.int .i64 s.c) (.int .i64 s.h) (.int .i64 0) (.int .i64 s.e))
  exact bodyPost_ret (results_cell_row Tryz.results28 _ _ (w.heap.size + 1) 28 _ (0, 0) _ rfl HR.out Tryz.underlying28 rfl (by kernel_rfl)) rfl ⟨rfl, st9b HV.out (Nat.le_succ _) _ _ _ _ _ _ _ _ _⟩
theorem rsent_any (s : Ss) (w : World) : Calls Tryz.prog 28 #[sA s] w (Gives (sA (sn s)) w) := by
  unfold sn
  cases hu : undr s.p
  · rw [if_pos rfl]
    exact rsent_any_0 s w hu
  · rw [if_neg (by decide)]
    exact rsent_any_1 s w hu
end Go.Proofs.YthbeempmdpfnmaaGreatDoor.T
