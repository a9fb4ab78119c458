/- Contract: twin. Conditions: those of the theorem's head. -/
import Derived.Test.YthbeempmdpfnmaaGreatDoorS3
namespace Go.Proofs.YthbeempmdpfnmaaGreatDoor.T
open Go.RowKit Go.Lib Go.Shelf

theorem own_set {V : World} {N A i n s : Nat} {T : TypeId} {v u : Value} {xs : List Value} (h : V.ownsRow N T s v n xs) (hA : A < N) : (V.setCell ⟨A, i, none⟩ u).ownsRow N T s v n xs :=
  own_keep h fun b e => by
    obtain ⟨h1, _⟩ := own_heap h e
    exact kp1 (by omega) rfl
theorem bx11g {w : World} {b : Nat} {v0 v1 v2 v3 v4 v5 v6 v7 v8 v9 v10 : Value} {t : TypeId} (h : w.heap[b]? = some (.cells #[v0, v1, v2, v3, v4, v5, v6, v7, v8, v9, v10] t (0, 0))) : w.frozen? ⟨b, 0, none⟩ = false ∧ w.frozen? ⟨b, 1, none⟩ = false ∧ w.frozen? ⟨b, 2, none⟩ = false ∧ w.frozen? ⟨b, 3, none⟩ = false ∧ w.frozen? ⟨b, 4, none⟩ = false ∧ w.frozen? ⟨b, 5, none⟩ = false ∧ w.frozen? ⟨b, 6, none⟩ = false ∧ w.frozen? ⟨b, 7, none⟩ = false ∧ w.frozen? ⟨b, 8, none⟩ = false ∧ w.frozen? ⟨b, 9, none⟩ = false ∧ w.frozen? ⟨b, 10, none⟩ = false := by
  simp [World.frozen?, h]
theorem st11 {V : World} {A : Nat} {v0 v1 v2 v3 v4 v5 v6 v7 v8 v9 v10 : Value} {t : TypeId} (h : V.heap[A]? = some (.cells #[v0, v1, v2, v3, v4, v5, v6, v7, v8, v9, v10] t (0, 0))) (u0 u1 u2 u3 u4 u5 u6 u7 u8 u9 u10 : Value) : (((((((((((V.setCell ⟨A, 0, none⟩ u0).setCell ⟨A, 1, none⟩ u1).setCell ⟨A, 2, none⟩ u2).setCell ⟨A, 3, none⟩ u3).setCell ⟨A, 4, none⟩ u4).setCell ⟨A, 5, none⟩ u5).setCell ⟨A, 6, none⟩ u6).setCell ⟨A, 7, none⟩ u7).setCell ⟨A, 8, none⟩ u8).setCell ⟨A, 9, none⟩ u9).setCell ⟨A, 10, none⟩ u10).heap[A]? = some (.cells #[u0, u1, u2, u3, u4, u5, u6, u7, u8, u9, u10] t (0, 0)) := by
  simp [World.setCell, Array.getElem?_modify, h]
theorem st11k {V : World} {A b : Nat} (hb : b ≠ A) (u0 u1 u2 u3 u4 u5 u6 u7 u8 u9 u10 : Value) : (((((((((((V.setCell ⟨A, 0, none⟩ u0).setCell ⟨A, 1, none⟩ u1).setCell ⟨A, 2, none⟩ u2).setCell ⟨A, 3, none⟩ u3).setCell ⟨A, 4, none⟩ u4).setCell ⟨A, 5, none⟩ u5).setCell ⟨A, 6, none⟩ u6).setCell ⟨A, 7, none⟩ u7).setCell ⟨A, 8, none⟩ u8).setCell ⟨A, 9, none⟩ u9).setCell ⟨A, 10, none⟩ u10).heap[b]? = V.heap[b]? := by
  simp [World.setCell, Array.getElem?_modify, Ne.symm hb]
theorem st11b {w V : World} {A : Nat} (h : Below w.heap.size w V) (hA : w.heap.size ≤ A) (u0 u1 u2 u3 u4 u5 u6 u7 u8 u9 u10 : Value) : Below w.heap.size w (((((((((((V.setCell ⟨A, 0, none⟩ u0).setCell ⟨A, 1, none⟩ u1).setCell ⟨A, 2, none⟩ u2).setCell ⟨A, 3, none⟩ u3).setCell ⟨A, 4, none⟩ u4).setCell ⟨A, 5, none⟩ u5).setCell ⟨A, 6, none⟩ u6).setCell ⟨A, 7, none⟩ u7).setCell ⟨A, 8, none⟩ u8).setCell ⟨A, 9, none⟩ u9).setCell ⟨A, 10, none⟩ u10) :=
  (((((((((((h.setCell (p := ⟨A, 0, none⟩) hA _).setCell (p := ⟨A, 1, none⟩) hA _).setCell (p := ⟨A, 2, none⟩) hA _).setCell (p := ⟨A, 3, none⟩) hA _).setCell (p := ⟨A, 4, none⟩) hA _).setCell (p := ⟨A, 5, none⟩) hA _).setCell (p := ⟨A, 6, none⟩) hA _).setCell (p := ⟨A, 7, none⟩) hA _).setCell (p := ⟨A, 8, none⟩) hA _).setCell (p := ⟨A, 9, none⟩) hA _).setCell (p := ⟨A, 10, none⟩) hA _)
theorem st_two {V : World} {A : Nat} {v0 v1 v2 v3 v4 v5 v6 v7 v8 v9 v10 : Value} {t : TypeId} (h : V.heap[A]? = some (.cells #[v0, v1, v2, v3, v4, v5, v6, v7, v8, v9, v10] t (0, 0))) (u v : Value) : ((V.setCell ⟨A, 9, none⟩ u).setCell ⟨A, 10, none⟩ v).heap[A]? = some (.cells #[v0, v1, v2, v3, v4, v5, v6, v7, v8, u, v] t (0, 0)) := by
  simp [World.setCell, Array.getElem?_modify, h]
theorem bx6 {w : World} {b : Nat} {v0 v1 v2 v3 v4 v5 : Value} {t : TypeId} (h : w.heap[b]? = some (.cells #[v0, v1, v2, v3, v4, v5] t (0, 0))) :
    w.cell? ⟨b, 0, none⟩ = some v0 ∧ w.cell? ⟨b, 1, none⟩ = some v1 ∧ w.cell? ⟨b, 2, none⟩ = some v2 ∧ w.cell? ⟨b, 3, none⟩ = some v3 ∧ w.cell? ⟨b, 4, none⟩ = some v4 ∧ w.cell? ⟨b, 5, none⟩ = some v5 := by
  refine ⟨?_, ?_, ?_, ?_, ?_, ?_⟩ <;> (rw [Lib.cell_of_heap h]; rfl)
theorem ext_frz {w : World} (x : Ext w) {b o : Nat} {v : Value} (h : w.cell? ⟨b, o, none⟩ = some v) (hf : w.frozen? ⟨b, o, none⟩ = false) : x.to.frozen? ⟨b, o, none⟩ = false := by
  have hlt := World.block_lt_of_cell? _ _ h
  have e := x.below.block b hlt
  rw [← hf]
  simp [World.frozen?, e]
/-- A row of items of one's own: from block N on; it may be written. -/
structure RwI (w : World) (N : Nat) (a : Option Addr) (l : List It) : Prop where
  s : ItS w a l
  n : ∀ b, a = some b → N ≤ b.block
  f : ∀ i, i < l.length → ∀ b, a = some b → ∀ j, w.frozen? ⟨b.block, j, none⟩ = false
theorem RwI.below {w w' : World} {N : Nat} {a : Option Addr} {l : List It} (h : RwI w N a l) (hb : Below w.heap.size w w') : RwI w' N a l :=
  ⟨h.s.below hb, h.n, fun i hi b e j => by
    obtain ⟨b', p', e', c0, _⟩ := h.s i hi
    rw [e] at e'
    cases e'
    have hlt := World.block_lt_of_cell? _ _ c0
    have q := hb.block _ hlt
    have := h.f i hi _ e j
    rw [← this]
    simp [World.frozen?, q]⟩
theorem RwI.mono {w : World} {N M : Nat} {a : Option Addr} {l : List It} (h : RwI w N a l) (hk : M ≤ N) : RwI w M a l := ⟨h.s, fun b e => Nat.le_trans hk (h.n b e), h.f⟩
theorem rwI_of {w : World} {N c n : Nat} {a : Option Addr} {l : List It} (h : w.ownsRow N 62 6 (.slice a n c) l.length (cellsI l)) : RwI w N a l := by
  refine ⟨itS_own h, ?_, ?_⟩
  · rintro b rfl
    rcases h.2 with ⟨h1, _⟩ | ⟨g, cap, cur, h1, q1, _⟩
    · cases h1
    · simp only [Value.slice.injEq, Option.some.injEq] at h1
      obtain ⟨rfl, _⟩ := h1
      exact q1
  · rintro i hi b rfl j
    rcases h.2 with ⟨h1, _⟩ | ⟨g, cap, cur, h1, q1, q2, _⟩
    · cases h1
    · simp only [Value.slice.injEq, Option.some.injEq] at h1
      obtain ⟨rfl, _⟩ := h1
      simp [World.frozen?, q2]
theorem own_sl {w : World} {N s n : Nat} {T : TypeId} {v : Value} {xs : List Value} (h : w.ownsRow N T s v n xs) : ∃ a c, v = .slice a n c := by
  rcases h.2 with ⟨rfl, rfl⟩ | ⟨g, cap, cur, rfl, _⟩
  · exact ⟨none, 0, rfl⟩
  · exact ⟨_, _, rfl⟩
theorem own_ge {w : World} {N n c m s : Nat} {T : TypeId} {a : Option Addr} {xs : List Value} (h : w.ownsRow N T s (.slice a n c) m xs) : ∀ b, a = some b → N ≤ b.block := by
  rintro b rfl
  rcases h.2 with ⟨h1, _⟩ | ⟨g, cap, cur, h1, q1, _⟩
  · cases h1
  · simp only [Value.slice.injEq, Option.some.injEq] at h1
    obtain ⟨rfl, _⟩ := h1
    exact q1
theorem load_n {w : World} {g : Nat} {v0 v1 v2 v3 v4 v5 v6 v7 v8 v9 v10 : Value} (h : w.heap[g]? = some (.cells #[v0, v1, v2, v3, v4, v5, v6, v7, v8, v9, v10] 42 (0, 0))) : (loadVar 42 ⟨g, 0, none⟩).run Tryz.prog w = .ok (.agg #[v0, v1, v2, v3, v4, v5, v6, v7, v8, v9, v10]) w :=
  run_loadVar_row w g 42 42 _ (0, 0) _ h Tryz.underlying42 rfl (by kernel_rfl)
def TwP (n : Nt) (w : World) (e : Ending) (w' : World) : Prop := ∃ (bi bz : Option Addr) (di dz : Nat), e = .returned (nA n bi bz di dz) ∧ Below w.heap.size w w' ∧ ItS w' bi n.l ∧ CdS w' bz n.z ∧ (∀ b, bi = some b → w.heap.size ≤ b.block) ∧ (∀ b, bz = some b → w.heap.size ≤ b.block)
set_option maxRecDepth 100000 in
set_option maxHeartbeats 8000000 in
theorem twin_any (n : Nt) (ai az : Option Addr) (ci cz : Nat) (w : World) (h : NtL w ai az n) : Calls Tryz.prog 36 #[.agg #[.int .i64 n.k, .string n.n, .string n.x, .string n.d, .int .i64 n.c, .int .i64 n.s, .int .i64 n.e, .int .i64 n.t, .bool n.o, .slice ai n.l.length ci, .slice az n.z.length cz]] w (TwP n w) := by
  have hn := h.hn
  have hx := h.hx
  have hd := h.hd
  have hin := h.hin
  have hzn := h.hzn
  have HI := Lib.hid h.hI
  have HZC := Lib.hid h.hZ
  have HSZ := Lib.hid h.hiz
  clear h
  obtain ⟨HB, HX, HR⟩ := bxTwo w #[.int .i64 n.k, .string n.n, .string n.x, .string n.d, .int .i64 n.c, .int .i64 n.s, .int .i64 n.e, .int .i64 n.t, .bool n.o, .slice ai n.l.length ci, .slice az n.z.length cz] 42 #[.int .i64 0, .string ⟨#[]⟩, .string ⟨#[]⟩, .string ⟨#[]⟩, .int .i64 0, .int .i64 0, .int .i64 0, .int .i64 0, .bool false, .slice none 0 0, .slice none 0 0] 42
  generalize hq : TwP n w = POST
  have HP : Hid (∀ bi bz di dz W, Below w.heap.size w W → ItS W bi n.l → CdS W bz n.z → (∀ b, bi = some b → w.heap.size ≤ b.block) → (∀ b, bz = some b → w.heap.size ≤ b.block) → POST (.returned (nA n bi bz di dz)) W) := by
    subst hq
    exact fun bi bz di dz W h1 h2 h3 h4 h5 => ⟨bi, bz, di, dz, rfl, h1, h2, h3, h4, h5⟩
  clear hq
  obtain ⟨m0, m1, m2, m3, m4, m5, m6, m7, m8, m9, m10⟩ := bx11 HX.out
  obtain ⟨f0, f1, f2, f3, f4, f5, f6, f7, f8, f9, f10⟩ := bx11g HX.out
  go_enter Tryz.func36, Tryz.ntmps36
  go_upto_region 1 with fail
  generalize ((w.alloc (.cells #[.int .i64 n.k, .string n.n, .string n.x, .string n.d, .int .i64 n.c, .int .i64 n.s, .int .i64 n.e, .int .i64 n.t, .bool n.o, .slice ai n.l.length ci, .slice az n.z.length cz] 42)).alloc (.cells #[.int .i64 0, .string ⟨#[]⟩, .string ⟨#[]⟩, .string ⟨#[]⟩, .int .i64 0, .int .i64 0, .int .i64 0, .int .i64 0, .bool false, .slice none 0 0, .slice none 0 0] 42)) = W0 at HB HX HR m0 m1 m2 m3 m4 m5 m6 m7 m8 m9 m10 f0 f1 f2 f3 f4 f5 f6 f7 f8 f9 f10 ⊢
  have x0 : ∀ y : Ext W0, y.to.cell? ⟨w.heap.size, 0, none⟩ = _ := fun y => ext_cell y m0
  have x1 : ∀ y : Ext W0, y.to.cell? ⟨w.heap.size, 1, none⟩ = _ := fun y => ext_cell y m1
  have x2 : ∀ y : Ext W0, y.to.cell? ⟨w.heap.size, 2, none⟩ = _ := fun y => ext_cell y m2
  have x3 : ∀ y : Ext W0, y.to.cell? ⟨w.heap.size, 3, none⟩ = _ := fun y => ext_cell y m3
  have x4 : ∀ y : Ext W0, y.to.cell? ⟨w.heap.size, 4, none⟩ = _ := fun y => ext_cell y m4
  have x5 : ∀ y : Ext W0, y.to.cell? ⟨w.heap.size, 5, none⟩ = _ := fun y => ext_cell y m5
  have x6 : ∀ y : Ext W0, y.to.cell? ⟨w.heap.size, 6, none⟩ = _ := fun y => ext_cell y m6
  have x7 : ∀ y : Ext W0, y.to.cell? ⟨w.heap.size, 7, none⟩ = _ := fun y => ext_cell y m7
  have x8 : ∀ y : Ext W0, y.to.cell? ⟨w.heap.size, 8, none⟩ = _ := fun y => ext_cell y m8
  have x9 : ∀ y : Ext W0, y.to.cell? ⟨w.heap.size, 9, none⟩ = _ := fun y => ext_cell y m9
  have x10 : ∀ y : Ext W0, y.to.cell? ⟨w.heap.size, 10, none⟩ = _ := fun y => ext_cell y m10
  have g1 : ∀ y : Ext W0, y.to.frozen? ⟨w.heap.size, 1, none⟩ = false := fun y => ext_frz y m1 f1
  have k1 : ∀ y : Ext W0, y.to.setCell ⟨w.heap.size, 1, none⟩ (.string n.n) = y.to := fun y => setCell_self (ext_cell y m1)
  have C1 : Hid (Xc W0 32 #[.string n.n] (.string n.n)) := fun y => clone_any n.n y.to (by omega)
  have g2 : ∀ y : Ext W0, y.to.frozen? ⟨w.heap.size, 2, none⟩ = false := fun y => ext_frz y m2 f2
  have k2 : ∀ y : Ext W0, y.to.setCell ⟨w.heap.size, 2, none⟩ (.string n.x) = y.to := fun y => setCell_self (ext_cell y m2)
  have C2 : Hid (Xc W0 32 #[.string n.x] (.string n.x)) := fun y => clone_any n.x y.to (by omega)
  have g3 : ∀ y : Ext W0, y.to.frozen? ⟨w.heap.size, 3, none⟩ = false := fun y => ext_frz y m3 f3
  have k3 : ∀ y : Ext W0, y.to.setCell ⟨w.heap.size, 3, none⟩ (.string n.d) = y.to := fun y => setCell_self (ext_cell y m3)
  have C3 : Hid (Xc W0 32 #[.string n.d] (.string n.d)) := fun y => clone_any n.d y.to (by omega)
  have hsome := extSome W0
  clear m0 f0 m1 f1 m2 f2 m3 f3 m4 f4 m5 f5 m6 f6 m7 f7 m8 f8 m9 f9 m10 f10
  refine ext_region (by kernel_rfl) (by kernel_rfl) ?_
  repeat (go_big_quiet_step ((first | (go_at_call 32; with_reducible exact ext_call _ (C1.out _)) | (go_at_call 32; with_reducible exact ext_call _ (C2.out _)) | (go_at_call 32; with_reducible exact ext_call _ (C3.out _)))))
  refine wpQuiet_nil ?_
  rintro _ ⟨y, hy⟩
  subst hy
  have HB1 := Lib.hid (HB.out.trans (y.below.mono HB.out.size))
  replace HX := kpB y.below HX
  replace HR := kpB y.below HR
  clear x0 x1 x2 x3 x4 x5 x6 x7 x8 x9 x10 g1 g2 g3 k1 k2 k3 C1 C2 C3 HB
  generalize y.to = W1 at HB1 HX HR ⊢
  clear y hsome
  have CI : Hid (∀ W, Below w.heap.size w W → Calls Tryz.prog 56 #[.slice ai n.l.length ci] W fun e w' => ∃ v, e = .returned v ∧ Below W.heap.size W w' ∧ w'.ownsRow W.heap.size 62 6 v n.l.length (cellsI n.l)) := fun W hb => cloneI_any n.l ai ci W (HI.out.below hb) hin
  have CZ : Hid (∀ W, Below w.heap.size w W → Calls Tryz.prog 57 #[.slice az n.z.length cz] W fun e w' => ∃ v, e = .returned v ∧ Below W.heap.size W w' ∧ w'.ownsRow W.heap.size 3 1 v n.z.length (cdsV n.z)) := fun W hb => cloneZ_any n.z az cz W (HZC.out.below hb) hzn
  obtain ⟨m0, m1, m2, m3, m4, m5, m6, m7, m8, m9, m10⟩ := bx11 HX.out
  obtain ⟨f0, f1, f2, f3, f4, f5, f6, f7, f8, f9, f10⟩ := bx11g HX.out
  have hP : w.heap.size + 1 < W1.heap.size := heap_lt HR.out
  go_upto_region 2 with fail
  go_cut [1] (fun s1 wx => ∃ (bi bz : Option Addr) (di dz : Nat), s1 = .pointer (some ⟨w.heap.size, 0, none⟩) ∧ Hid (wx.heap[w.heap.size]? = some (.cells #[.int .i64 n.k, .string n.n, .string n.x, .string n.d, .int .i64 n.c, .int .i64 n.s, .int .i64 n.e, .int .i64 n.t, .bool n.o, .slice bi n.l.length di, .slice bz n.z.length dz] 42 (0, 0))) ∧ Hid (wx.heap[w.heap.size + 1]? = some (.cells #[.int .i64 0, .string ⟨#[]⟩, .string ⟨#[]⟩, .string ⟨#[]⟩, .int .i64 0, .int .i64 0, .int .i64 0, .int .i64 0, .bool false, .slice none 0 0, .slice none 0 0] 42 (0, 0))) ∧ Hid (Below w.heap.size w wx) ∧ Hid (RwI wx (w.heap.size + 2) bi n.l ∧ CdS wx bz n.z ∧ (∀ b, bz = some b → w.heap.size + 2 ≤ b.block)))
  case first =>
    go_region_law (first
      | (go_simp; go_at_call 56; (with_reducible refine (CI.out _ (by first | exact HBZ.out | exact HB1.out.drew)).mono ?_); rintro e wI ⟨v, rfl, hbI, hoI⟩; obtain ⟨bi, di, rfl⟩ := own_sl hoI; have HBI : Hid (Below w.heap.size w wI) := (by first | exact HBZ.out.trans (hbI.mono HBZ.out.size) | exact HB1.out.drew.trans (hbI.mono HB1.out.size)); have HXI : Hid (wI.heap[w.heap.size]? = _) := (by first | exact kpB hbI HXZ | exact kpB hbI HX); have HRI : Hid (wI.heap[w.heap.size + 1]? = _) := (by first | exact kpB hbI HRZ | exact kpB hbI HR); have HOI := Lib.hid hoI; have HbI := Lib.hid hbI; clear hbI hoI; obtain ⟨i0, i1, i2, i3, i4, i5, i6, i7, i8, i9, i10⟩ := bx11 HXI.out; obtain ⟨j0, j1, j2, j3, j4, j5, j6, j7, j8, j9, j10⟩ := bx11g HXI.out)
      | (go_simp; go_at_call 57; (with_reducible refine (CZ.out _ (by first | exact HBI.out | exact HB1.out.drew)).mono ?_); rintro e wZ ⟨v, rfl, hbZ, hoZ⟩; obtain ⟨bz, dz, rfl⟩ := own_sl hoZ; have HBZ : Hid (Below w.heap.size w wZ) := (by first | exact HBI.out.trans (hbZ.mono HBI.out.size) | exact HB1.out.drew.trans (hbZ.mono HB1.out.size)); have HXZ : Hid (wZ.heap[w.heap.size]? = _) := (by first | exact kpB hbZ HXI | exact kpB hbZ HX); have HRZ : Hid (wZ.heap[w.heap.size + 1]? = _) := (by first | exact kpB hbZ HRI | exact kpB hbZ HR); have HOZ := Lib.hid hoZ; have HbZ := Lib.hid hbZ; clear hbZ hoZ; obtain ⟨p0, p1, p2, p3, p4, p5, p6, p7, p8, p9, p10⟩ := bx11 HXZ.out; obtain ⟨q0, q1, q2, q3, q4, q5, q6, q7, q8, q9, q10⟩ := bx11g HXZ.out))
    all_goals
      go_wp2_with fail
      go_meet
      exact ⟨bi, bz, di, dz, rfl, st_two HXZ.out _ _, kp1 (Nat.succ_ne_self _) (kp1 (Nat.succ_ne_self _) HRZ.out), (HBZ.out.setCell (p := ⟨w.heap.size, 9, none⟩) (Nat.le_refl _) _).setCell (p := ⟨w.heap.size, 10, none⟩) (Nat.le_refl _) _, (rwI_of (own_set (own_set (own_below HOI.out HbZ.out) (Nat.lt_of_succ_lt hP)) (Nat.lt_of_succ_lt hP))).mono hP, cdS_own (own_set (own_set HOZ.out (heap_lt HXI.out)) (heap_lt HXI.out)), fun b e => Nat.le_trans (heap_lt HRI.out) (own_ge HOZ.out b e)⟩
  case rest =>
  obtain ⟨bi, bz, di, dz, rfl, HX, HR, HB, HO⟩ := hcut
  clear CI CZ HB1 hP HI HZC m0 f0 m1 f1 m2 f2 m3 f3 m4 f4 m5 f5 m6 f6 m7 f7 m8 f8 m9 f9 m10 f10
  obtain ⟨m0, m1, m2, m3, m4, m5, m6, m7, m8, m9, m10⟩ := bx11 HX.out
  go_wp2_with fail
  go_loopw [28] (fun i wr => ∃ k : Nat, i = .int .i64 k ∧ k ≤ n.l.length ∧ Hid (wr.heap[w.heap.size]? = some (.cells #[.int .i64 n.k, .string n.n, .string n.x, .string n.d, .int .i64 n.c, .int .i64 n.s, .int .i64 n.e, .int .i64 n.t, .bool n.o, .slice bi n.l.length di, .slice bz n.z.length dz] 42 (0, 0))) ∧ Hid (wr.heap[w.heap.size + 1]? = some (.cells #[.int .i64 0, .string ⟨#[]⟩, .string ⟨#[]⟩, .string ⟨#[]⟩, .int .i64 0, .int .i64 0, .int .i64 0, .int .i64 0, .bool false, .slice none 0 0, .slice none 0 0] 42 (0, 0))) ∧ Hid (Below w.heap.size w wr) ∧ Hid (RwI wr (w.heap.size + 2) bi n.l ∧ CdS wr bz n.z ∧ (∀ b, bz = some b → w.heap.size + 2 ≤ b.block))) (fun i _ => n.l.length - (RowKit.intOf i).toNat)
  case atStart => exact ⟨0, rfl, Nat.zero_le _, HX, HR, HB, HO⟩
  case round =>
    clear m0 m1 m2 m3 m4 m5 m6 m7 m8 m9 m10
    clear HX HR HB HO
    obtain ⟨k, rfl, hk, HX, HR, HB, HO⟩ := hrel
    obtain ⟨m0, m1, m2, m3, m4, m5, m6, m7, m8, m9, m10⟩ := bx11 HX.out
    by_cases hlt : k < n.l.length
    · obtain ⟨b, p, rfl, e0, e1, e2, e3, e4, e5⟩ := HO.out.1.s k hlt
      have hz1 := (HSZ.out _ (List.getElem_mem hlt)).1
      have hz2 := (HSZ.out _ (List.getElem_mem hlt)).2
      have q0 := HO.out.1.f k hlt _ rfl (p + k * 6)
      have q4 := HO.out.1.f k hlt _ rfl (p + k * 6 + 4)
      have q1 : ((k : Int) < n.l.length) := by omega
      generalize n.l[k].n = I0 at e0 hz1
      generalize n.l[k].g = I1 at e1
      generalize n.l[k].i = I2 at e2
      generalize n.l[k].t = I3 at e3
      generalize n.l[k].a = I4 at e4 hz2
      generalize n.l[k].w = I5 at e5
      obtain ⟨HY, HBa⟩ := bxOne wr #[.string I0, .int .i64 I1, .int .i64 I2, .int .i64 I3, .string I4, .bool I5] 62
      have HX2 := kpB HBa.out HX
      have HR2 := kpB HBa.out HR
      have HB2 := Lib.hid (HB.out.trans (HBa.out.mono HB.out.size))
      have HO2 : Hid (RwI (wr.alloc (.cells #[.string I0, .int .i64 I1, .int .i64 I2, .int .i64 I3, .string I4, .bool I5] 62)) (w.heap.size + 2) (some ⟨b, p, none⟩) n.l ∧ CdS (wr.alloc (.cells #[.string I0, .int .i64 I1, .int .i64 I2, .int .i64 I3, .string I4, .bool I5] 62)) bz n.z ∧ (∀ b, bz = some b → w.heap.size + 2 ≤ b.block)) := ⟨HO.out.1.below HBa.out, HO.out.2.1.below HBa.out, HO.out.2.2⟩
      have hb0 := World.block_lt_of_cell? _ _ e0
      have a0 := keep_cell HBa.out e0 hb0
      have a4 := keep_cell HBa.out e4 hb0
      have b0 : (wr.alloc (.cells #[.string I0, .int .i64 I1, .int .i64 I2, .int .i64 I3, .string I4, .bool I5] 62)).frozen? ⟨b, p + k * 6, none⟩ = false := HO2.out.1.f k hlt _ rfl _
      have b4 : (wr.alloc (.cells #[.string I0, .int .i64 I1, .int .i64 I2, .int .i64 I3, .string I4, .bool I5] 62)).frozen? ⟨b, p + k * 6 + 4, none⟩ = false := HO2.out.1.f k hlt _ rfl _
      go_upto_region 6 with fail
      have hxx := (bx11 HX2.out).2.2.2.2.2.2.2.2.2.1
      obtain ⟨d0, d1, d2, d3, d4, d5⟩ := bx6 HY.out
      have HKV : Hid (k < n.l.length) := hlt
      generalize (wr.alloc (.cells #[.string I0, .int .i64 I1, .int .i64 I2, .int .i64 I3, .string I4, .bool I5] 62)) = V at HY HBa HX2 HR2 HB2 HO2 a0 a4 b0 b4 hxx d0 d1 d2 d3 d4 d5 ⊢
      generalize wr.heap.size = K at HY d0 d1 d2 d3 d4 d5 ⊢
      have x9 : ∀ y : Ext V, y.to.cell? ⟨w.heap.size, 9, none⟩ = _ := fun y => ext_cell y hxx
      have y0 : ∀ y : Ext V, y.to.cell? ⟨K, 0, none⟩ = _ := fun y => ext_cell y d0
      have y1 : ∀ y : Ext V, y.to.cell? ⟨K, 1, none⟩ = _ := fun y => ext_cell y d1
      have y2 : ∀ y : Ext V, y.to.cell? ⟨K, 2, none⟩ = _ := fun y => ext_cell y d2
      have y3 : ∀ y : Ext V, y.to.cell? ⟨K, 3, none⟩ = _ := fun y => ext_cell y d3
      have y4 : ∀ y : Ext V, y.to.cell? ⟨K, 4, none⟩ = _ := fun y => ext_cell y d4
      have y5 : ∀ y : Ext V, y.to.cell? ⟨K, 5, none⟩ = _ := fun y => ext_cell y d5
      have g0 : ∀ y : Ext V, y.to.frozen? ⟨b, p + k * 6, none⟩ = false := fun y => ext_frz y a0 b0
      have g4 : ∀ y : Ext V, y.to.frozen? ⟨b, p + k * 6 + 4, none⟩ = false := fun y => ext_frz y a4 b4
      have k0 : ∀ y : Ext V, y.to.setCell ⟨b, p + k * 6, none⟩ (.string I0) = y.to := fun y => setCell_self (ext_cell y a0)
      have k4 : ∀ y : Ext V, y.to.setCell ⟨b, p + k * 6 + 4, none⟩ (.string I4) = y.to := fun y => setCell_self (ext_cell y a4)
      have l0 : ∀ y : Ext V, y.to.cell? ⟨b, p + k * 6, none⟩ = _ := fun y => ext_cell y a0
      have l4 : ∀ y : Ext V, y.to.cell? ⟨b, p + k * 6 + 4, none⟩ = _ := fun y => ext_cell y a4
      have C0 : Hid (Xc V 32 #[.string I0] (.string I0)) := fun y => clone_any I0 y.to (by omega)
      have C4 : Hid (Xc V 32 #[.string I4] (.string I4)) := fun y => clone_any I4 y.to (by omega)
      have hsome := extSome V
      clear hxx a0 a4 b0 b4 e0 e1 e2 e3 e4 e5 q0 q4 HX HR HB HO HBa hb0 HY d0 m0 d1 m1 d2 m2 d3 m3 d4 m4 d5 m5 m6 m7 m8 m9 m10
      refine ext_region (by kernel_rfl) (by kernel_rfl) ?_
      repeat (go_big_quiet_step ((first | (go_at_call 32; with_reducible exact ext_call _ (C0.out _)) | (go_at_call 32; with_reducible exact ext_call _ (C4.out _)))))
      refine wpQuiet_nil ?_
      rintro _ ⟨y, hy⟩
      subst hy
      have HXf := kpB y.below HX2
      have HRf := kpB y.below HR2
      have HBf := Lib.hid (HB2.out.trans (y.below.mono HB2.out.size))
      have HOf : Hid (RwI y.to (w.heap.size + 2) (some ⟨b, p, none⟩) n.l ∧ CdS y.to bz n.z ∧ (∀ b, bz = some b → w.heap.size + 2 ≤ b.block)) := ⟨HO2.out.1.below y.below, HO2.out.2.1.below y.below, HO2.out.2.2⟩
      clear x9 y0 y1 y2 y3 y4 y5 g0 g4 k0 k4 l0 l4 C0 C4
      go_wp2_with fail
      exact ⟨⟨k + 1, by go_num, by omega, HXf, HRf, HBf, HOf⟩, by simp [RowKit.intOf]; omega⟩
    · have q1 : ¬ ((k : Int) < n.l.length) := by omega
      obtain rfl : k = n.l.length := by omega
      obtain ⟨f0, f1, f2, f3, f4, f5, f6, f7, f8, f9, f10⟩ := bx11g HX.out
      obtain ⟨z0, z1, z2, z3, z4, z5, z6, z7, z8, z9, z10⟩ := bx11 HR.out
      obtain ⟨u0, u1, u2, u3, u4, u5, u6, u7, u8, u9, u10⟩ := bx11g HR.out
      have hP : w.heap.size + 1 < wr.heap.size := heap_lt HR.out
      go_wp2_with fail
      have HRs := Lib.hid (st11 HR.out (.int .i64 n.k) (.string n.n) (.string n.x) (.string n.d) (.int .i64 n.c) (.int .i64 n.s) (.int .i64 n.e) (.int .i64 n.t) (.bool n.o) (.slice bi n.l.length di) (.slice bz n.z.length dz))
      exact bodyPost_ret (results_cell_row Tryz.results36 _ _ (w.heap.size + 1) 42 _ (0, 0) _ rfl HRs.out Tryz.underlying42 rfl (by kernel_rfl)) rfl (HP.out bi bz di dz _ (st11b HB.out (Nat.le_succ _) _ _ _ _ _ _ _ _ _ _ _) (HO.out.1.s.keep fun b e => st11k (by have := HO.out.1.n b e; omega) _ _ _ _ _ _ _ _ _ _ _) (HO.out.2.1.keep fun b e => st11k (by have := HO.out.2.2 b e; omega) _ _ _ _ _ _ _ _ _ _ _) (fun b e => Nat.le_trans (by omega) (HO.out.1.n b e)) (fun b e => Nat.le_trans (by omega) (HO.out.2.2 b e)))
end Go.Proofs.YthbeempmdpfnmaaGreatDoor.T
