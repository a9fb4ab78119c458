/- What twin gives, as a promise; Take of package session where a note is handed up, where nothing is done. Conditions: those of each theorem's head. -/
import Derived.Test.YthbeempmdpfnmaaGreatDoorS8
import Derived.Test.YthbeempmdpfnmaaGreatDoorS6
namespace Go.Proofs.YthbeempmdpfnmaaGreatDoor.T
open Go.RowKit Go.Lib

/-- A note's rows, behind N. -/
def Tw (W : World) (N : Nat) (n : Nt) (bi bz : Option Addr) : Prop := ItS W bi n.l ∧ CdS W bz n.z ∧ (∀ b, bi = some b → N ≤ b.block) ∧ (∀ b, bz = some b → N ≤ b.block)
theorem Tw.below {W W' : World} {N : Nat} {n : Nt} {bi bz : Option Addr} (h : Tw W N n bi bz) (hb : Below W.heap.size W W') : Tw W' N n bi bz := ⟨h.1.below hb, h.2.1.below hb, h.2.2⟩
theorem Tw.keep {W W' : World} {N Z : Nat} {n : Nt} {bi bz : Option Addr} (h : Tw W N n bi bz) (hZ : Z < N) (hk : ∀ b, b ≠ Z → W'.heap[b]? = W.heap[b]?) : Tw W' N n bi bz :=
  ⟨h.1.keep fun b e => hk _ (by have := h.2.2.1 b e; omega), h.2.1.keep fun b e => hk _ (by have := h.2.2.2 b e; omega), h.2.2⟩
def Pz.tw {w : World} {Z : Nat} (N : Nat) (hN : Z < N) (n : Nt) : Pz w Z :=
  ⟨fun v W => ∃ (bi bz : Option Addr) (di dz : Nat), v = .agg #[.int .i64 n.k, .string n.n, .string n.x, .string n.d, .int .i64 n.c, .int .i64 n.s, .int .i64 n.e, .int .i64 n.t, .bool n.o, .slice bi n.l.length di, .slice bz n.z.length dz] ∧ Tw W N n bi bz, false, fun _ _ _ _ hb ⟨bi, bz, di, dz, h1, h2⟩ => ⟨bi, bz, di, dz, h1, h2.below hb⟩,
    fun _ _ _ _ hs ⟨bi, bz, di, dz, h1, h2⟩ => ⟨bi, bz, di, dz, h1, h2.keep hN hs.2.2.1⟩, fun e => (by cases e)⟩
def Pz.tr {w : World} {Z : Nat} (N : Nat) (hN : Z < N) (n : Nt) (f : Nat → Value) : Pz w Z :=
  ⟨fun v W => ∃ (B : Nat) (bi bz : Option Addr) (di dz : Nat), v = f B ∧ N ≤ B ∧ W.heap[B]? = some (.cells #[.int .i64 n.k, .string n.n, .string n.x, .string n.d, .int .i64 n.c, .int .i64 n.s, .int .i64 n.e, .int .i64 n.t, .bool n.o, .slice bi n.l.length di, .slice bz n.z.length dz] 42 (0, 0)) ∧ Tw W N n bi bz, false, fun _ _ _ _ hb ⟨B, bi, bz, di, dz, h1, h2, h3, h4⟩ => ⟨B, bi, bz, di, dz, h1, h2, (hb.block _ (heap_lt h3)).trans h3, h4.below hb⟩,
    fun _ _ _ _ hs ⟨B, bi, bz, di, dz, h1, h2, h3, h4⟩ => ⟨B, bi, bz, di, dz, h1, h2, (hs.2.2.1 B (by omega)).trans h3, h4.keep hN hs.2.2.1⟩, fun e => (by cases e)⟩
theorem ntl_tw {w W : World} {ai az bi bz : Option Addr} {n : Nt} (h : NtL w ai az n) (hI : ItS W bi n.l) (hZ : CdS W bz n.z) : NtL W bi bz n := ⟨⟨h.hn, h.hx, h.hd, hI, hZ⟩, h.hin, h.hiz, h.hzn⟩
/-- Notes that lie in blocks from N on: they stay where those blocks stay. -/
def Fr (N : Nat) (w : World) (a : Option Addr) (l : List Nt) : Prop := ∀ W : World, (∀ k, N ≤ k → k < w.heap.size → W.heap[k]? = w.heap[k]?) → NtsS W a l
theorem Fr.self {N : Nat} {w : World} {a : Option Addr} {l : List Nt} (h : Fr N w a l) : NtsS w a l := h w fun _ _ _ => rfl
theorem Fr.agree {N : Nat} {w W : World} {a : Option Addr} {l : List Nt} (h : Fr N w a l) (hs : w.heap.size ≤ W.heap.size) (hk : ∀ k, N ≤ k → k < w.heap.size → W.heap[k]? = w.heap[k]?) : Fr N W a l := fun V hV => h V fun k h1 h2 => (hV k h1 (by omega)).trans (hk k h1 h2)
theorem Fr.below {N : Nat} {w W : World} {a : Option Addr} {l : List Nt} (h : Fr N w a l) (hb : Below w.heap.size w W) : Fr N W a l := h.agree hb.size fun k _ h2 => hb.block k h2
theorem Fr.mono {N M : Nat} {w : World} {a : Option Addr} {l : List Nt} (h : Fr N w a l) (hM : M ≤ N) : Fr M w a l := fun V hV => h V fun k h1 h2 => hV k (by omega) h2
theorem fr_nil (N : Nat) (w : World) (a : Option Addr) : Fr N w a [] := fun W _ => NtsS.nil W a
theorem fr_one {N : Nat} {w : World} {b : Nat} {t : TypeId} (n : Nt) {ai az : Option Addr} {ci cz : Nat} (hN : N ≤ b) (h : w.heap[b]? = some (.cells #[.int .i64 n.k, .string n.n, .string n.x, .string n.d, .int .i64 n.c, .int .i64 n.s, .int .i64 n.e, .int .i64 n.t, .bool n.o, .slice ai n.l.length ci, .slice az n.z.length cz] t (0, 0))) (hn : ∀ W : World, (∀ k, N ≤ k → k < w.heap.size → W.heap[k]? = w.heap[k]?) → NtL W ai az n) : Fr N w (some ⟨b, 0, none⟩) [n] := fun W hk => nts_one n ((hk b hN (heap_lt h)).trans h) (hn W hk)
theorem fr_two {N : Nat} {w : World} {b : Nat} {t : TypeId} (n m : Nt) {ai az bi bz : Option Addr} {ci cz di dz : Nat} (hN : N ≤ b) (h : w.heap[b]? = some (.cells #[.int .i64 n.k, .string n.n, .string n.x, .string n.d, .int .i64 n.c, .int .i64 n.s, .int .i64 n.e, .int .i64 n.t, .bool n.o, .slice ai n.l.length ci, .slice az n.z.length cz, .int .i64 m.k, .string m.n, .string m.x, .string m.d, .int .i64 m.c, .int .i64 m.s, .int .i64 m.e, .int .i64 m.t, .bool m.o, .slice bi m.l.length di, .slice bz m.z.length dz] t (0, 0))) (hn : ∀ W : World, (∀ k, N ≤ k → k < w.heap.size → W.heap[k]? = w.heap[k]?) → NtL W ai az n) (hm : ∀ W : World, (∀ k, N ≤ k → k < w.heap.size → W.heap[k]? = w.heap[k]?) → NtL W bi bz m) : Fr N w (some ⟨b, 0, none⟩) [n, m] := fun W hk => nts_two n m ((hk b hN (heap_lt h)).trans h) (hn W hk) (hm W hk)
theorem ItS.agree {N : Nat} {w W : World} {a : Option Addr} {l : List It} (h : ItS w a l) (hN : ∀ b, a = some b → N ≤ b.block) (hk : ∀ k, N ≤ k → k < w.heap.size → W.heap[k]? = w.heap[k]?) : ItS W a l := fun i hi => by
  obtain ⟨b, o, e, c0, c1, c2, c3, c4, c5⟩ := h i hi
  have q := hk b (hN _ e) (World.block_lt_of_cell? _ _ c0)
  exact ⟨b, o, e, (cell_keep q).trans c0, (cell_keep q).trans c1, (cell_keep q).trans c2, (cell_keep q).trans c3, (cell_keep q).trans c4, (cell_keep q).trans c5⟩
theorem CdS.agree {N : Nat} {w W : World} {a : Option Addr} {l : List Int} (h : CdS w a l) (hN : ∀ b, a = some b → N ≤ b.block) (hk : ∀ k, N ≤ k → k < w.heap.size → W.heap[k]? = w.heap[k]?) : CdS W a l := fun i hi => by
  obtain ⟨b, o, e, c0⟩ := h i hi
  exact ⟨b, o, e, (cell_keep (hk b (hN _ e) (World.block_lt_of_cell? _ _ c0))).trans c0⟩
/-- What a step gives: its notes lie in its own blocks. -/
def StQ (x : Ss × So) (w : World) (e : Ending) (w' : World) : Prop := ∃ (a b : Option Addr) (c d : Nat), e = .returned (.tuple #[sA x.1, oA x.2 a b c d]) ∧ Below w.heap.size w w' ∧ Fr w.heap.size w' a x.2.m ∧ Fr w.heap.size w' b x.2.u
set_option maxRecDepth 100000 in
set_option maxHeartbeats 8000000 in
theorem take_bye (s : Ss) (n : Nt) (ai az : Option Addr) (ci cz : Nat) (w : World) (hn : NtL w ai az n) (hu : undr s.p = true) (hk : n.k = 3) : Calls Tryz.prog 17 #[.agg #[.int .i64 s.p, .string s.n, .string s.d, .int .i64 s.s, .int .i64 s.t, .int .i64 s.c, .int .i64 s.h, .int .i64 s.a, .int .i64 s.e], .agg #[.int .i64 n.k, .string n.n, .string n.x, .string n.d, .int .i64 n.c, .int .i64 n.s, .int .i64 n.e, .int .i64 n.t, .bool n.o, .slice ai n.l.length ci, .slice az n.z.length cz]] w (StQ ({ s with h := 0, p := 6, e := n.c }, ⟨[], false, [n]⟩) w) := by
  have HNL := Lib.hid (fun W (hb : Below w.heap.size w W) => hn.below hb)
  have CO : Hid (∀ W, Calls Tryz.prog 35 #[.agg #[.int .i64 s.p, .string s.n, .string s.d, .int .i64 s.s, .int .i64 s.t, .int .i64 s.c, .int .i64 0, .int .i64 s.a, .int .i64 s.e], .int .i64 n.c] W (Gives (.agg #[.int .i64 6, .string s.n, .string s.d, .int .i64 s.s, .int .i64 s.t, .int .i64 s.c, .int .i64 0, .int .i64 s.a, .int .i64 n.c]) W)) := fun W => over_any { s with h := 0 } n.c W
  have q3 : (n.k == 3) = true := by rw [hk]; rfl
  clear hk
  have CU : Hid (∀ W, Calls Tryz.prog 34 #[.agg #[.int .i64 s.p, .string s.n, .string s.d, .int .i64 s.s, .int .i64 s.t, .int .i64 s.c, .int .i64 s.h, .int .i64 s.a, .int .i64 s.e]] W (Gives (.bool true) W)) := fun W => by
    have q := undr_any s W
    rw [show undr _ = true from hu] at q
    exact q
  clear hu
  obtain ⟨HB, HX, HN, HZ, HO⟩ := bxFour w #[.int .i64 s.p, .string s.n, .string s.d, .int .i64 s.s, .int .i64 s.t, .int .i64 s.c, .int .i64 s.h, .int .i64 s.a, .int .i64 s.e] 28 #[.int .i64 n.k, .string n.n, .string n.x, .string n.d, .int .i64 n.c, .int .i64 n.s, .int .i64 n.e, .int .i64 n.t, .bool n.o, .slice ai n.l.length ci, .slice az n.z.length cz] 42 #[.int .i64 0, .string ⟨#[]⟩, .string ⟨#[]⟩, .int .i64 0, .int .i64 0, .int .i64 0, .int .i64 0, .int .i64 0, .int .i64 0] 28 #[.slice none 0 0, .bool false, .slice none 0 0] 31
  obtain ⟨m0, m1, m2, m3, m4, m5, m6, m7, m8⟩ := bx9 HX.out
  go_enter Tryz.func17, Tryz.ntmps17
  go_wp2_with fail
  refine (CU.out _).mono ?_
  rintro e w1 ⟨rfl, hb⟩
  clear m0 m1 m2 m3 m4 m5 m6 m7 m8
  have HX1 := kpB hb HX
  have HN1 := kpB hb HN
  have HZ1 := kpB hb HZ
  have HO1 := kpB hb HO
  have HB1 := Lib.hid (HB.out.trans (hb.mono HB.out.size))
  clear hb HB HX HN HZ HO CU
  obtain ⟨m0, m1, m2, m3, m4, m5, m6, m7, m8⟩ := bx9 HX1.out
  have hPx : w.heap.size + 3 < w1.heap.size := heap_lt HO1.out
  obtain ⟨f0, f1, f2, f3, f4, f5, f6, f7, f8⟩ := bx9f HX1.out
  obtain ⟨k0, k1, k2, k3, k4, k5, k6, k7, k8, k9, k10⟩ := bx11 HN1.out
  go_upto_region 4 with fail
  clear m0 m1 m2 m3 m4 m5 m6 m7 m8 f0 f1 f2 f3 f4 f5 f6 f7 f8
  clear k0 k1 k2 k3 k4 k5 k6 k7 k8 k9 k10
  have HX2 : Hid ((w1.setCell ⟨w.heap.size, 6, none⟩ (.int .i64 0)).heap[w.heap.size]? = some (.cells #[.int .i64 s.p, .string s.n, .string s.d, .int .i64 s.s, .int .i64 s.t, .int .i64 s.c, .int .i64 0, .int .i64 s.a, .int .i64 s.e] 28 (0, 0))) := by
    show _ = _
    simp [World.setCell, Array.getElem?_modify, HX1.out]
  have HN2 := Lib.hid (kp1 (A := w.heap.size) (i := 6) (u := .int .i64 0) (b := w.heap.size + 1) (by omega) HN1.out)
  have HZ2 := Lib.hid (kp1 (A := w.heap.size) (i := 6) (u := .int .i64 0) (b := w.heap.size + 2) (by omega) HZ1.out)
  have HO2 := Lib.hid (kp1 (A := w.heap.size) (i := 6) (u := .int .i64 0) (b := w.heap.size + 3) (by omega) HO1.out)
  have HB2 := Lib.hid (HB1.out.setCell (p := ⟨w.heap.size, 6, none⟩) (Nat.le_refl _) (.int .i64 0))
  clear HX1 HN1 HZ1 HO1 HB1 hPx
  generalize (w1.setCell ⟨w.heap.size, 6, none⟩ (.int .i64 0)) = w2 at HX2 HN2 HZ2 HO2 HB2 ⊢
  obtain ⟨m0, m1, m2, m3, m4, m5, m6, m7, m8⟩ := bx9 HX2.out
  obtain ⟨k0, k1, k2, k3, k4, k5, k6, k7, k8, k9, k10⟩ := bx11 HN2.out
  obtain ⟨HP, HBp⟩ := bxOne w2 #[.int .i64 s.p, .int .i64 n.k] 69
  have HX3 := kpB HBp.out HX2
  have HN3 := kpB HBp.out HN2
  have HZ3 := kpB HBp.out HZ2
  have HO3 := kpB HBp.out HO2
  have HB3 := Lib.hid (HB2.out.trans (HBp.out.mono HB2.out.size))
  have hPy : w.heap.size + 3 < w2.heap.size := heap_lt HO2.out
  have p0 : (w2.alloc (.cells #[.int .i64 s.p, .int .i64 n.k] 69)).cell? ⟨w2.heap.size, 0, none⟩ = some (.int .i64 s.p) := by rw [Lib.cell_of_heap HP.out]; rfl
  have p1 : (w2.alloc (.cells #[.int .i64 s.p, .int .i64 n.k] 69)).cell? ⟨w2.heap.size, 1, none⟩ = some (.int .i64 n.k) := by rw [Lib.cell_of_heap HP.out]; rfl
  obtain ⟨mm0, mm1, mm2, mm3, mm4, mm5, mm6, mm7, mm8⟩ := bx9 HX3.out
  obtain ⟨kk0, kk1, kk2, kk3, kk4, kk5, kk6, kk7, kk8, kk9, kk10⟩ := bx11 HN3.out
  go_upto_region 6 with fail
  clear m0 m1 m2 m3 m4 m5 m6 m7 m8 mm0 mm1 mm2 mm3 mm4 mm5 mm6 mm7 mm8
  clear k0 k1 k2 k3 k4 k5 k6 k7 k8 k9 k10 kk0 kk1 kk2 kk3 kk4 kk5 kk6 kk7 kk8 kk9 kk10
  clear p0 p1 HP HBp HX2 HN2 HZ2 HO2 HB2
  generalize (w2.alloc (.cells #[.int .i64 s.p, .int .i64 n.k] 69)) = w3 at HX3 HN3 HZ3 HO3 HB3 ⊢
  generalize w2.heap.size = A6 at hPy ⊢
  have hPz : w.heap.size + 3 < w3.heap.size := heap_lt HO3.out
  have hZN : w.heap.size + 1 + 1 < w3.heap.size := heap_lt HZ3.out
  refine region_Z (w := w) (Z := w.heap.size + 1 + 1) 9 8 (fun j => [24, 25, 26, 27, 28, 29, 30, 31, 100008].getD j 0) [24, 25, 26, 27, 28, 29, 30, 31] [.eq (.agg #[.int .i64 s.p, .string s.n, .string s.d, .int .i64 s.s, .int .i64 s.t, .int .i64 s.c, .int .i64 0, .int .i64 s.a, .int .i64 s.e]), .eq (.pointer (some ⟨w.heap.size + 1, 4, none⟩)), .eq (.int .i64 n.c), .eq (.agg #[.int .i64 6, .string s.n, .string s.d, .int .i64 s.s, .int .i64 s.t, .int .i64 s.c, .int .i64 0, .int .i64 s.a, .int .i64 n.c]), .eq (.agg #[.int .i64 n.k, .string n.n, .string n.x, .string n.d, .int .i64 n.c, .int .i64 n.s, .int .i64 n.e, .int .i64 n.t, .bool n.o, .slice ai n.l.length ci, .slice az n.z.length cz]), .tw (w3.heap.size) hZN n, .tr (w3.heap.size) hZN n (fun B => .slice (some ⟨B, 0, none⟩) 1 1), .tr (w3.heap.size) hZN n (fun B => .agg #[.slice none 0 0, .bool false, .slice (some ⟨B, 0, none⟩) 1 1]), .st #[.int .i64 6, .string s.n, .string s.d, .int .i64 s.s, .int .i64 s.t, .int .i64 s.c, .int .i64 0, .int .i64 s.a, .int .i64 n.c]] (by kernel_rfl) (by kernel_rfl) (by kernel_rfl) (by kernel_rfl) (by decide) (by kernel_rfl) (by kernel_rfl) (by kernel_rfl) (by kernel_rfl) (fun h => absurd (show 8 < 9 by decide) h) HB3.out HZ3.out ?_ ?_
  · intro i o hi ho q W hsz hout hJ hZ0 hdep
    have HXW := oldJ hJ (by omega) HX3
    obtain ⟨x0, x1, x2, x3, x4, x5, x6, x7, x8⟩ := bx9 HXW.out
    have HNW := oldJ hJ (by omega) HN3
    obtain ⟨y0, y1, y2, y3, y4, y5, y6, y7, y8, y9, y10⟩ := bx11 HNW.out
    have hc : i = 0 ∨ i = 1 ∨ i = 2 ∨ i = 3 ∨ i = 4 ∨ i = 5 ∨ i = 6 ∨ i = 7 ∨ i = 8 := by omega
    rcases hc with rfl | rfl | rfl | rfl | rfl | rfl | rfl | rfl | rfl
    · -- 0
      cases ho
      refine plainR (by decide) ?_
      have e2 : q.eval (.tmp 2) = .pointer (some ⟨w.heap.size, 0, none⟩) := (hout 2 (by decide)).trans rfl
      refine gives_read (v := .agg #[.int .i64 s.p, .string s.n, .string s.d, .int .i64 s.s, .int .i64 s.t, .int .i64 s.c, .int .i64 0, .int .i64 s.a, .int .i64 s.e]) ?_ rfl
      unfold execOp
      dsimp only
      rw [e2]
      go_simp
    · -- 1
      cases ho
      refine plainR (by decide) ?_
      have e3 : q.eval (.tmp 3) = .pointer (some ⟨w.heap.size + 1, 0, none⟩) := (hout 3 (by decide)).trans rfl
      refine gives_read (v := .pointer (some ⟨w.heap.size + 1, 4, none⟩)) ?_ rfl
      unfold execOp
      dsimp only
      rw [e3]
      go_simp
    · -- 2
      cases ho
      refine plainR (by decide) ?_
      have e25 : q.eval (.tmp 25) = .pointer (some ⟨w.heap.size + 1, 4, none⟩) := hdep ⟨1, .data⟩ (by simp) rfl (by decide)
      refine gives_read (v := .int .i64 n.c) ?_ rfl
      unfold execOp
      dsimp only
      rw [e25]
      go_simp
    · -- 3
      cases ho
      refine plainR (by decide) ?_
      have e24 : q.eval (.tmp 24) = .agg #[.int .i64 s.p, .string s.n, .string s.d, .int .i64 s.s, .int .i64 s.t, .int .i64 s.c, .int .i64 0, .int .i64 s.a, .int .i64 s.e] := hdep ⟨0, .data⟩ (by simp) rfl (by decide)
      have e26 : q.eval (.tmp 26) = .int .i64 n.c := hdep ⟨2, .data⟩ (by simp) rfl (by decide)
      refine gives_call (f := 35) (args := #[.agg #[.int .i64 s.p, .string s.n, .string s.d, .int .i64 s.s, .int .i64 s.t, .int .i64 s.c, .int .i64 0, .int .i64 s.a, .int .i64 s.e], .int .i64 n.c]) ?_ ((CO.out W).mono ?_)
      · unfold execOp
        dsimp only
        simp only [resolve, List.map_toArray, List.map_cons, List.map_nil, e24, e26]
        go_simp
      · rintro e W' ⟨rfl, hb⟩
        exact ⟨_, rfl, hb, rfl⟩
    · -- 4
      cases ho
      refine plainR (by decide) ?_
      have e3 : q.eval (.tmp 3) = .pointer (some ⟨w.heap.size + 1, 0, none⟩) := (hout 3 (by decide)).trans rfl
      refine gives_read (v := .agg #[.int .i64 n.k, .string n.n, .string n.x, .string n.d, .int .i64 n.c, .int .i64 n.s, .int .i64 n.e, .int .i64 n.t, .bool n.o, .slice ai n.l.length ci, .slice az n.z.length cz]) ?_ rfl
      unfold execOp
      dsimp only
      rw [e3]
      go_simp
    · -- 5
      cases ho
      refine plainR (by decide) ?_
      have e28 : q.eval (.tmp 28) = .agg #[.int .i64 n.k, .string n.n, .string n.x, .string n.d, .int .i64 n.c, .int .i64 n.s, .int .i64 n.e, .int .i64 n.t, .bool n.o, .slice ai n.l.length ci, .slice az n.z.length cz] := hdep ⟨4, .data⟩ (by simp) rfl (by decide)
      refine gives_call (f := 36) (args := #[.agg #[.int .i64 n.k, .string n.n, .string n.x, .string n.d, .int .i64 n.c, .int .i64 n.s, .int .i64 n.e, .int .i64 n.t, .bool n.o, .slice ai n.l.length ci, .slice az n.z.length cz]]) ?_ ((twin_any n ai az ci cz W (HNL.out W hJ.bel)).mono ?_)
      · unfold execOp
        dsimp only
        simp only [resolve, List.map_toArray, List.map_cons, List.map_nil, e28]
        go_simp
      · rintro e W' ⟨bi, bz, di, dz, rfl, hb, h1, h2, h3, h4⟩
        exact ⟨_, rfl, hb, bi, bz, di, dz, rfl, h1, h2, fun b e => Nat.le_trans hJ.sz (h3 b e), fun b e => Nat.le_trans hJ.sz (h4 b e)⟩
    · -- 6
      cases ho
      refine plainR (by decide) ?_
      obtain ⟨bi, bz, di, dz, e29, hT⟩ : ∃ (bi bz : Option Addr) (di dz : Nat), q.eval (.tmp 29) = .agg #[.int .i64 n.k, .string n.n, .string n.x, .string n.d, .int .i64 n.c, .int .i64 n.s, .int .i64 n.e, .int .i64 n.t, .bool n.o, .slice bi n.l.length di, .slice bz n.z.length dz] ∧ Tw W (w3.heap.size) n bi bz := hdep ⟨5, .data⟩ (by simp) rfl (by decide)
      refine gives_run (W' := W.alloc (.cells #[.int .i64 n.k, .string n.n, .string n.x, .string n.d, .int .i64 n.c, .int .i64 n.s, .int .i64 n.e, .int .i64 n.t, .bool n.o, .slice bi n.l.length di, .slice bz n.z.length dz] 42)) (v := .slice (some ⟨W.heap.size, 0, none⟩) 1 1) ?_ ((Below.refl _ W).alloc (Nat.le_refl _) _) ⟨_, bi, bz, di, dz, rfl, hJ.sz, box_new W _ _, hT.below ((Below.refl _ W).alloc (Nat.le_refl _) _)⟩
      unfold execOp
      dsimp only
      simp only [List.map_toArray, List.map_cons, List.map_nil, e29]
      go_simp
    · -- 7
      cases ho
      refine plainR (by decide) ?_
      obtain ⟨BB, bi, bz, di, dz, e30, hB, hBB, hT⟩ : ∃ (B : Nat) (bi bz : Option Addr) (di dz : Nat), q.eval (.tmp 30) = .slice (some ⟨B, 0, none⟩) 1 1 ∧ w3.heap.size ≤ B ∧ W.heap[B]? = some (.cells #[.int .i64 n.k, .string n.n, .string n.x, .string n.d, .int .i64 n.c, .int .i64 n.s, .int .i64 n.e, .int .i64 n.t, .bool n.o, .slice bi n.l.length di, .slice bz n.z.length dz] 42 (0, 0)) ∧ Tw W (w3.heap.size) n bi bz := hdep ⟨6, .data⟩ (by simp) rfl (by decide)
      refine gives_read (v := .agg #[.slice none 0 0, .bool false, .slice (some ⟨BB, 0, none⟩) 1 1]) ?_ ⟨BB, bi, bz, di, dz, rfl, hB, hBB, hT⟩
      unfold execOp
      dsimp only
      simp only [List.map_toArray, List.map_cons, List.map_nil, e30]
      go_simp
    · -- 8
      cases ho
      have e4 : q.eval (.tmp 4) = .pointer (some ⟨w.heap.size + 1 + 1, 0, none⟩) := (hout 4 (by decide)).trans rfl
      have e27 : q.eval (.tmp 27) = .agg #[.int .i64 6, .string s.n, .string s.d, .int .i64 s.s, .int .i64 s.t, .int .i64 s.c, .int .i64 0, .int .i64 s.a, .int .i64 n.c] := hdep ⟨3, .data⟩ (by simp) rfl (by decide)
      have hz := hZ0 (by kernel_rfl)
      obtain ⟨zc0, zc1, zc2, zc3, zc4, zc5, zc6, zc7, zc8⟩ := bx9 hz
      obtain ⟨zf0, zf1, zf2, zf3, zf4, zf5, zf6, zf7, zf8⟩ := bx9f hz
      refine givesR_skip ?_ (stZ_of (by omega) hz (.int .i64 6) (.string s.n) (.string s.d) (.int .i64 s.s) (.int .i64 s.t) (.int .i64 s.c) (.int .i64 0) (.int .i64 s.a) (.int .i64 n.c)) (st9 hz (.int .i64 6) (.string s.n) (.string s.d) (.int .i64 s.s) (.int .i64 s.t) (.int .i64 s.c) (.int .i64 0) (.int .i64 s.a) (.int .i64 n.c))
      unfold execOp
      dsimp only
      rw [e4, e27]
      go_simp
  · intro q W hq hJ hv
    obtain ⟨B, bi, bz, di, dz, e31, hB, hBB, hT⟩ : ∃ (B : Nat) (bi bz : Option Addr) (di dz : Nat), q.eval (.tmp 31) = .agg #[.slice none 0 0, .bool false, .slice (some ⟨B, 0, none⟩) 1 1] ∧ w3.heap.size ≤ B ∧ W.heap[B]? = some (.cells #[.int .i64 n.k, .string n.n, .string n.x, .string n.d, .int .i64 n.c, .int .i64 n.s, .int .i64 n.e, .int .i64 n.t, .bool n.o, .slice bi n.l.length di, .slice bz n.z.length dz] 42 (0, 0)) ∧ Tw W (w3.heap.size) n bi bz := hv 7 (by decide)
    have hZW : W.heap[w.heap.size + 1 + 1]? = some (.cells #[.int .i64 6, .string s.n, .string s.d, .int .i64 s.s, .int .i64 s.t, .int .i64 s.c, .int .i64 0, .int .i64 s.a, .int .i64 n.c] 28 (0, 0)) := hv 8 (by decide)
    have HBW := Lib.hid hJ.bel
    have HOW := oldJ hJ (by omega) HO3
    have HZW := Lib.hid hZW
    have HRW := Lib.hid hBB
    have hT := Lib.hid hT
    clear hBB hJ HX3 HN3 HZ3 HO3 hZW
    have hq2 : q = canonL q [24, 25, 26, 27, 28, 29, 30, 31] _ := hq
    simp only [canonL] at hq2
    rw [e31] at hq2
    clear hq hv e31
    generalize q.eval (.tmp 24) = u24 at hq2
    generalize q.eval (.tmp 25) = u25 at hq2
    generalize q.eval (.tmp 26) = u26 at hq2
    generalize q.eval (.tmp 27) = u27 at hq2
    generalize q.eval (.tmp 28) = u28 at hq2
    generalize q.eval (.tmp 29) = u29 at hq2
    generalize q.eval (.tmp 30) = u30 at hq2
    subst hq2
    obtain ⟨y0, y1, y2⟩ := bx3 HOW.out
    obtain ⟨v0, v1, v2⟩ := bx3f HOW.out
    simp only [List.drop_succ_cons, List.drop_zero]
    go_wp2_with fail
    have hT2 := Tw.keep (W' := (((W.setCell ⟨w.heap.size + 3, 0, none⟩ (.slice none 0 0)).setCell ⟨w.heap.size + 3, 1, none⟩ (.bool false)).setCell ⟨w.heap.size + 3, 2, none⟩ (.slice (some ⟨B, 0, none⟩) 1 1))) hT.out (show w.heap.size + 3 < w3.heap.size by omega) (fun b hb => st3k hb (.slice none 0 0) (.bool false) (.slice (some ⟨B, 0, none⟩) 1 1))
    exact bodyPost_ret (results_two Tryz.results17 _ _ (w.heap.size + 2) (w.heap.size + 3) _ _ rfl rfl (load_s ((st3k (by omega) (.slice none 0 0) (.bool false) (.slice (some ⟨B, 0, none⟩) 1 1)).trans HZW.out)) (load_o (st3 HOW.out (.slice none 0 0) (.bool false) (.slice (some ⟨B, 0, none⟩) 1 1)))) rfl ⟨none, some ⟨B, 0, none⟩, 0, 1, rfl, st3b HBW.out (by omega) (.slice none 0 0) (.bool false) (.slice (some ⟨B, 0, none⟩) 1 1), fr_nil _ _ _, fr_one n (by omega) ((st3k (by omega) (.slice none 0 0) (.bool false) (.slice (some ⟨B, 0, none⟩) 1 1)).trans HRW.out) (fun _ hk => ntl_tw hn (hT2.1.agree (fun b e => by have := hT2.2.2.1 b e; omega) hk) (hT2.2.1.agree (fun b e => by have := hT2.2.2.2 b e; omega) hk))⟩
set_option maxRecDepth 100000 in
set_option maxHeartbeats 8000000 in
theorem take_up (s : Ss) (n : Nt) (ai az : Option Addr) (ci cz : Nat) (w : World) (hn : NtL w ai az n) (hG : Gl w) (hk : (n.k == 3) = false) (hup : upK n.k = true) : Calls Tryz.prog 17 #[.agg #[.int .i64 5, .string s.n, .string s.d, .int .i64 s.s, .int .i64 s.t, .int .i64 s.c, .int .i64 s.h, .int .i64 s.a, .int .i64 s.e], .agg #[.int .i64 n.k, .string n.n, .string n.x, .string n.d, .int .i64 n.c, .int .i64 n.s, .int .i64 n.e, .int .i64 n.t, .bool n.o, .slice ai n.l.length ci, .slice az n.z.length cz]] w (StQ ({ s with p := 5, h := 0 }, ⟨[], false, [n]⟩) w) := by
  have HNL := Lib.hid (fun W (hb : Below w.heap.size w W) => hn.below hb)
  have CUp : Hid (∀ W, Below w.heap.size w W → Calls Tryz.prog 40 #[.agg #[.int .i64 5, .int .i64 n.k]] W (Gives (.bool true) W)) := fun W hb => by
    have q := isUpward_yes n.k W (hG.below hb).s
    rw [hup] at q
    exact q
  clear hup hG
  have hu : undr 5 = true := rfl
  have CU : Hid (∀ W, Calls Tryz.prog 34 #[.agg #[.int .i64 5, .string s.n, .string s.d, .int .i64 s.s, .int .i64 s.t, .int .i64 s.c, .int .i64 s.h, .int .i64 s.a, .int .i64 s.e]] W (Gives (.bool true) W)) := fun W => by
    have q := undr_any { s with p := 5 } W
    rw [show undr _ = true from hu] at q
    exact q
  clear hu
  obtain ⟨HB, HX, HN, HZ, HO⟩ := bxFour w #[.int .i64 5, .string s.n, .string s.d, .int .i64 s.s, .int .i64 s.t, .int .i64 s.c, .int .i64 s.h, .int .i64 s.a, .int .i64 s.e] 28 #[.int .i64 n.k, .string n.n, .string n.x, .string n.d, .int .i64 n.c, .int .i64 n.s, .int .i64 n.e, .int .i64 n.t, .bool n.o, .slice ai n.l.length ci, .slice az n.z.length cz] 42 #[.int .i64 0, .string ⟨#[]⟩, .string ⟨#[]⟩, .int .i64 0, .int .i64 0, .int .i64 0, .int .i64 0, .int .i64 0, .int .i64 0] 28 #[.slice none 0 0, .bool false, .slice none 0 0] 31
  obtain ⟨m0, m1, m2, m3, m4, m5, m6, m7, m8⟩ := bx9 HX.out
  go_enter Tryz.func17, Tryz.ntmps17
  go_wp2_with fail
  refine (CU.out _).mono ?_
  rintro e w1 ⟨rfl, hb⟩
  clear m0 m1 m2 m3 m4 m5 m6 m7 m8
  have HX1 := kpB hb HX
  have HN1 := kpB hb HN
  have HZ1 := kpB hb HZ
  have HO1 := kpB hb HO
  have HB1 := Lib.hid (HB.out.trans (hb.mono HB.out.size))
  clear hb HB HX HN HZ HO CU
  obtain ⟨m0, m1, m2, m3, m4, m5, m6, m7, m8⟩ := bx9 HX1.out
  have hPx : w.heap.size + 3 < w1.heap.size := heap_lt HO1.out
  obtain ⟨f0, f1, f2, f3, f4, f5, f6, f7, f8⟩ := bx9f HX1.out
  obtain ⟨k0, k1, k2, k3, k4, k5, k6, k7, k8, k9, k10⟩ := bx11 HN1.out
  go_upto_region 4 with fail
  clear m0 m1 m2 m3 m4 m5 m6 m7 m8 f0 f1 f2 f3 f4 f5 f6 f7 f8
  clear k0 k1 k2 k3 k4 k5 k6 k7 k8 k9 k10
  have HX2 : Hid ((w1.setCell ⟨w.heap.size, 6, none⟩ (.int .i64 0)).heap[w.heap.size]? = some (.cells #[.int .i64 5, .string s.n, .string s.d, .int .i64 s.s, .int .i64 s.t, .int .i64 s.c, .int .i64 0, .int .i64 s.a, .int .i64 s.e] 28 (0, 0))) := by
    show _ = _
    simp [World.setCell, Array.getElem?_modify, HX1.out]
  have HN2 := Lib.hid (kp1 (A := w.heap.size) (i := 6) (u := .int .i64 0) (b := w.heap.size + 1) (by omega) HN1.out)
  have HZ2 := Lib.hid (kp1 (A := w.heap.size) (i := 6) (u := .int .i64 0) (b := w.heap.size + 2) (by omega) HZ1.out)
  have HO2 := Lib.hid (kp1 (A := w.heap.size) (i := 6) (u := .int .i64 0) (b := w.heap.size + 3) (by omega) HO1.out)
  have HB2 := Lib.hid (HB1.out.setCell (p := ⟨w.heap.size, 6, none⟩) (Nat.le_refl _) (.int .i64 0))
  clear HX1 HN1 HZ1 HO1 HB1 hPx
  generalize (w1.setCell ⟨w.heap.size, 6, none⟩ (.int .i64 0)) = w2 at HX2 HN2 HZ2 HO2 HB2 ⊢
  obtain ⟨m0, m1, m2, m3, m4, m5, m6, m7, m8⟩ := bx9 HX2.out
  obtain ⟨k0, k1, k2, k3, k4, k5, k6, k7, k8, k9, k10⟩ := bx11 HN2.out
  obtain ⟨HP, HBp⟩ := bxOne w2 #[.int .i64 5, .int .i64 n.k] 69
  have HX3 := kpB HBp.out HX2
  have HN3 := kpB HBp.out HN2
  have HZ3 := kpB HBp.out HZ2
  have HO3 := kpB HBp.out HO2
  have HB3 := Lib.hid (HB2.out.trans (HBp.out.mono HB2.out.size))
  have hPy : w.heap.size + 3 < w2.heap.size := heap_lt HO2.out
  have p0 : (w2.alloc (.cells #[.int .i64 5, .int .i64 n.k] 69)).cell? ⟨w2.heap.size, 0, none⟩ = some (.int .i64 5) := by rw [Lib.cell_of_heap HP.out]; rfl
  have p1 : (w2.alloc (.cells #[.int .i64 5, .int .i64 n.k] 69)).cell? ⟨w2.heap.size, 1, none⟩ = some (.int .i64 n.k) := by rw [Lib.cell_of_heap HP.out]; rfl
  obtain ⟨mm0, mm1, mm2, mm3, mm4, mm5, mm6, mm7, mm8⟩ := bx9 HX3.out
  obtain ⟨kk0, kk1, kk2, kk3, kk4, kk5, kk6, kk7, kk8, kk9, kk10⟩ := bx11 HN3.out
  go_wp2_with fail
  refine (CUp.out _ HB3.out).mono ?_
  rintro e w3 ⟨rfl, hb⟩
  clear m0 m1 m2 m3 m4 m5 m6 m7 m8 mm0 mm1 mm2 mm3 mm4 mm5 mm6 mm7 mm8
  clear k0 k1 k2 k3 k4 k5 k6 k7 k8 k9 k10 kk0 kk1 kk2 kk3 kk4 kk5 kk6 kk7 kk8 kk9 kk10
  have hbs := hb.size
  replace HX3 := kpB hb HX3
  replace HN3 := kpB hb HN3
  replace HZ3 := kpB hb HZ3
  replace HO3 := kpB hb HO3
  replace HB3 := Lib.hid (HB3.out.trans (hb.mono HB3.out.size))
  clear hb p0 p1 HP HBp HX2 HN2 HZ2 HO2 HB2 CUp
  obtain ⟨m0, m1, m2, m3, m4, m5, m6, m7, m8⟩ := bx9 HX3.out
  obtain ⟨k0, k1, k2, k3, k4, k5, k6, k7, k8, k9, k10⟩ := bx11 HN3.out
  go_upto_region 21 with fail
  clear m0 m1 m2 m3 m4 m5 m6 m7 m8
  clear k0 k1 k2 k3 k4 k5 k6 k7 k8 k9 k10
  have hPy2 : w.heap.size + 3 < w3.heap.size := heap_lt HO3.out
  clear hPy hbs
  have hPy := hPy2
  generalize w2.heap.size = A6
  have hZN : w.heap.size + 1 + 1 < w3.heap.size := heap_lt HZ3.out
  refine region_Z (w := w) (Z := w.heap.size + 1 + 1) 6 5 (fun j => [100, 101, 102, 103, 104, 100005].getD j 0) [100, 101, 102, 103, 104] [.eq (.agg #[.int .i64 5, .string s.n, .string s.d, .int .i64 s.s, .int .i64 s.t, .int .i64 s.c, .int .i64 0, .int .i64 s.a, .int .i64 s.e]), .eq (.agg #[.int .i64 n.k, .string n.n, .string n.x, .string n.d, .int .i64 n.c, .int .i64 n.s, .int .i64 n.e, .int .i64 n.t, .bool n.o, .slice ai n.l.length ci, .slice az n.z.length cz]), .tw (w3.heap.size) hZN n, .tr (w3.heap.size) hZN n (fun B => .slice (some ⟨B, 0, none⟩) 1 1), .tr (w3.heap.size) hZN n (fun B => .agg #[.slice none 0 0, .bool false, .slice (some ⟨B, 0, none⟩) 1 1]), .st #[.int .i64 5, .string s.n, .string s.d, .int .i64 s.s, .int .i64 s.t, .int .i64 s.c, .int .i64 0, .int .i64 s.a, .int .i64 s.e]] (by kernel_rfl) (by kernel_rfl) (by kernel_rfl) (by kernel_rfl) (by decide) (by kernel_rfl) (by kernel_rfl) (by kernel_rfl) (by kernel_rfl) (fun h => absurd (show 5 < 6 by decide) h) HB3.out HZ3.out ?_ ?_
  · intro i o hi ho q W hsz hout hJ hZ0 hdep
    have HXW := oldJ hJ (by omega) HX3
    obtain ⟨x0, x1, x2, x3, x4, x5, x6, x7, x8⟩ := bx9 HXW.out
    have HNW := oldJ hJ (by omega) HN3
    obtain ⟨y0, y1, y2, y3, y4, y5, y6, y7, y8, y9, y10⟩ := bx11 HNW.out
    have hc : i = 0 ∨ i = 1 ∨ i = 2 ∨ i = 3 ∨ i = 4 ∨ i = 5 := by omega
    rcases hc with rfl | rfl | rfl | rfl | rfl | rfl
    · -- 0
      cases ho
      refine plainR (by decide) ?_
      have e2 : q.eval (.tmp 2) = .pointer (some ⟨w.heap.size, 0, none⟩) := (hout 2 (by decide)).trans rfl
      refine gives_read (v := .agg #[.int .i64 5, .string s.n, .string s.d, .int .i64 s.s, .int .i64 s.t, .int .i64 s.c, .int .i64 0, .int .i64 s.a, .int .i64 s.e]) ?_ rfl
      unfold execOp
      dsimp only
      rw [e2]
      go_simp
    · -- 1
      cases ho
      refine plainR (by decide) ?_
      have e3 : q.eval (.tmp 3) = .pointer (some ⟨w.heap.size + 1, 0, none⟩) := (hout 3 (by decide)).trans rfl
      refine gives_read (v := .agg #[.int .i64 n.k, .string n.n, .string n.x, .string n.d, .int .i64 n.c, .int .i64 n.s, .int .i64 n.e, .int .i64 n.t, .bool n.o, .slice ai n.l.length ci, .slice az n.z.length cz]) ?_ rfl
      unfold execOp
      dsimp only
      rw [e3]
      go_simp
    · -- 2
      cases ho
      refine plainR (by decide) ?_
      have e101 : q.eval (.tmp 101) = .agg #[.int .i64 n.k, .string n.n, .string n.x, .string n.d, .int .i64 n.c, .int .i64 n.s, .int .i64 n.e, .int .i64 n.t, .bool n.o, .slice ai n.l.length ci, .slice az n.z.length cz] := hdep ⟨1, .data⟩ (by simp) rfl (by decide)
      refine gives_call (f := 36) (args := #[.agg #[.int .i64 n.k, .string n.n, .string n.x, .string n.d, .int .i64 n.c, .int .i64 n.s, .int .i64 n.e, .int .i64 n.t, .bool n.o, .slice ai n.l.length ci, .slice az n.z.length cz]]) ?_ ((twin_any n ai az ci cz W (HNL.out W hJ.bel)).mono ?_)
      · unfold execOp
        dsimp only
        simp only [resolve, List.map_toArray, List.map_cons, List.map_nil, e101]
        go_simp
      · rintro e W' ⟨bi, bz, di, dz, rfl, hb, h1, h2, h3, h4⟩
        exact ⟨_, rfl, hb, bi, bz, di, dz, rfl, h1, h2, fun b e => Nat.le_trans hJ.sz (h3 b e), fun b e => Nat.le_trans hJ.sz (h4 b e)⟩
    · -- 3
      cases ho
      refine plainR (by decide) ?_
      obtain ⟨bi, bz, di, dz, e102, hT⟩ : ∃ (bi bz : Option Addr) (di dz : Nat), q.eval (.tmp 102) = .agg #[.int .i64 n.k, .string n.n, .string n.x, .string n.d, .int .i64 n.c, .int .i64 n.s, .int .i64 n.e, .int .i64 n.t, .bool n.o, .slice bi n.l.length di, .slice bz n.z.length dz] ∧ Tw W (w3.heap.size) n bi bz := hdep ⟨2, .data⟩ (by simp) rfl (by decide)
      refine gives_run (W' := W.alloc (.cells #[.int .i64 n.k, .string n.n, .string n.x, .string n.d, .int .i64 n.c, .int .i64 n.s, .int .i64 n.e, .int .i64 n.t, .bool n.o, .slice bi n.l.length di, .slice bz n.z.length dz] 42)) (v := .slice (some ⟨W.heap.size, 0, none⟩) 1 1) ?_ ((Below.refl _ W).alloc (Nat.le_refl _) _) ⟨_, bi, bz, di, dz, rfl, hJ.sz, box_new W _ _, hT.below ((Below.refl _ W).alloc (Nat.le_refl _) _)⟩
      unfold execOp
      dsimp only
      simp only [List.map_toArray, List.map_cons, List.map_nil, e102]
      go_simp
    · -- 4
      cases ho
      refine plainR (by decide) ?_
      obtain ⟨BB, bi, bz, di, dz, e103, hB, hBB, hT⟩ : ∃ (B : Nat) (bi bz : Option Addr) (di dz : Nat), q.eval (.tmp 103) = .slice (some ⟨B, 0, none⟩) 1 1 ∧ w3.heap.size ≤ B ∧ W.heap[B]? = some (.cells #[.int .i64 n.k, .string n.n, .string n.x, .string n.d, .int .i64 n.c, .int .i64 n.s, .int .i64 n.e, .int .i64 n.t, .bool n.o, .slice bi n.l.length di, .slice bz n.z.length dz] 42 (0, 0)) ∧ Tw W (w3.heap.size) n bi bz := hdep ⟨3, .data⟩ (by simp) rfl (by decide)
      refine gives_read (v := .agg #[.slice none 0 0, .bool false, .slice (some ⟨BB, 0, none⟩) 1 1]) ?_ ⟨BB, bi, bz, di, dz, rfl, hB, hBB, hT⟩
      unfold execOp
      dsimp only
      simp only [List.map_toArray, List.map_cons, List.map_nil, e103]
      go_simp
    · -- 5
      cases ho
      have e4 : q.eval (.tmp 4) = .pointer (some ⟨w.heap.size + 1 + 1, 0, none⟩) := (hout 4 (by decide)).trans rfl
      have e100 : q.eval (.tmp 100) = .agg #[.int .i64 5, .string s.n, .string s.d, .int .i64 s.s, .int .i64 s.t, .int .i64 s.c, .int .i64 0, .int .i64 s.a, .int .i64 s.e] := hdep ⟨0, .data⟩ (by simp) rfl (by decide)
      have hz := hZ0 (by kernel_rfl)
      obtain ⟨zc0, zc1, zc2, zc3, zc4, zc5, zc6, zc7, zc8⟩ := bx9 hz
      obtain ⟨zf0, zf1, zf2, zf3, zf4, zf5, zf6, zf7, zf8⟩ := bx9f hz
      refine givesR_skip ?_ (stZ_of (by omega) hz (.int .i64 5) (.string s.n) (.string s.d) (.int .i64 s.s) (.int .i64 s.t) (.int .i64 s.c) (.int .i64 0) (.int .i64 s.a) (.int .i64 s.e)) (st9 hz (.int .i64 5) (.string s.n) (.string s.d) (.int .i64 s.s) (.int .i64 s.t) (.int .i64 s.c) (.int .i64 0) (.int .i64 s.a) (.int .i64 s.e))
      unfold execOp
      dsimp only
      rw [e4, e100]
      go_simp
  · intro q W hq hJ hv
    obtain ⟨B, bi, bz, di, dz, e104, hB, hBB, hT⟩ : ∃ (B : Nat) (bi bz : Option Addr) (di dz : Nat), q.eval (.tmp 104) = .agg #[.slice none 0 0, .bool false, .slice (some ⟨B, 0, none⟩) 1 1] ∧ w3.heap.size ≤ B ∧ W.heap[B]? = some (.cells #[.int .i64 n.k, .string n.n, .string n.x, .string n.d, .int .i64 n.c, .int .i64 n.s, .int .i64 n.e, .int .i64 n.t, .bool n.o, .slice bi n.l.length di, .slice bz n.z.length dz] 42 (0, 0)) ∧ Tw W (w3.heap.size) n bi bz := hv 4 (by decide)
    have hZW : W.heap[w.heap.size + 1 + 1]? = some (.cells #[.int .i64 5, .string s.n, .string s.d, .int .i64 s.s, .int .i64 s.t, .int .i64 s.c, .int .i64 0, .int .i64 s.a, .int .i64 s.e] 28 (0, 0)) := hv 5 (by decide)
    have HBW := Lib.hid hJ.bel
    have HOW := oldJ hJ (by omega) HO3
    have HZW := Lib.hid hZW
    have HRW := Lib.hid hBB
    have hT := Lib.hid hT
    clear hBB hJ HX3 HN3 HZ3 HO3 hZW
    have hq2 : q = canonL q [100, 101, 102, 103, 104] _ := hq
    simp only [canonL] at hq2
    rw [e104] at hq2
    clear hq hv e104
    generalize q.eval (.tmp 100) = u100 at hq2
    generalize q.eval (.tmp 101) = u101 at hq2
    generalize q.eval (.tmp 102) = u102 at hq2
    generalize q.eval (.tmp 103) = u103 at hq2
    subst hq2
    obtain ⟨y0, y1, y2⟩ := bx3 HOW.out
    obtain ⟨v0, v1, v2⟩ := bx3f HOW.out
    simp only [List.drop_succ_cons, List.drop_zero]
    go_wp2_with fail
    have hT2 := Tw.keep (W' := (((W.setCell ⟨w.heap.size + 3, 0, none⟩ (.slice none 0 0)).setCell ⟨w.heap.size + 3, 1, none⟩ (.bool false)).setCell ⟨w.heap.size + 3, 2, none⟩ (.slice (some ⟨B, 0, none⟩) 1 1))) hT.out (show w.heap.size + 3 < w3.heap.size by omega) (fun b hb => st3k hb (.slice none 0 0) (.bool false) (.slice (some ⟨B, 0, none⟩) 1 1))
    exact bodyPost_ret (results_two Tryz.results17 _ _ (w.heap.size + 2) (w.heap.size + 3) _ _ rfl rfl (load_s ((st3k (by omega) (.slice none 0 0) (.bool false) (.slice (some ⟨B, 0, none⟩) 1 1)).trans HZW.out)) (load_o (st3 HOW.out (.slice none 0 0) (.bool false) (.slice (some ⟨B, 0, none⟩) 1 1)))) rfl ⟨none, some ⟨B, 0, none⟩, 0, 1, rfl, st3b HBW.out (by omega) (.slice none 0 0) (.bool false) (.slice (some ⟨B, 0, none⟩) 1 1), fr_nil _ _ _, fr_one n (by omega) ((st3k (by omega) (.slice none 0 0) (.bool false) (.slice (some ⟨B, 0, none⟩) 1 1)).trans HRW.out) (fun _ hk => ntl_tw hn (hT2.1.agree (fun b e => by have := hT2.2.2.1 b e; omega) hk) (hT2.2.1.agree (fun b e => by have := hT2.2.2.2 b e; omega) hk))⟩
end Go.Proofs.YthbeempmdpfnmaaGreatDoor.T
