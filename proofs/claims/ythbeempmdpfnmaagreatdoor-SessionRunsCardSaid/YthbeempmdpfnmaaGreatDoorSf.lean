/- Take of package session: a list, and one that is the same; take_any. Conditions: those of each theorem's head. -/
import Derived.Test.YthbeempmdpfnmaaGreatDoorSe
namespace Go.Proofs.YthbeempmdpfnmaaGreatDoor.T
open Go.RowKit Go.Lib

theorem its_far {w w' : World} {a : Option Addr} {l : List It} (h : ItS w a l) (hk : ∀ b, a = some b → b.block < w.heap.size → w'.heap[b.block]? = w.heap[b.block]?) : ItS w' a l := fun i hi => by
  obtain ⟨b, p, e, c0, c1, c2, c3, c4, c5⟩ := h i hi
  have hlt := World.block_lt_of_cell? _ _ c0
  have q := hk _ e hlt
  exact ⟨b, p, e, (cell_keep q).trans c0, (cell_keep q).trans c1, (cell_keep q).trans c2, (cell_keep q).trans c3, (cell_keep q).trans c4, (cell_keep q).trans c5⟩
theorem cds_far {w w' : World} {a : Option Addr} {l : List Int} (h : CdS w a l) (hk : ∀ b, a = some b → b.block < w.heap.size → w'.heap[b.block]? = w.heap[b.block]?) : CdS w' a l := fun i hi => by
  obtain ⟨b, p, e, c0⟩ := h i hi
  have hlt := World.block_lt_of_cell? _ _ c0
  exact ⟨b, p, e, (cell_keep (hk _ e hlt)).trans c0⟩
set_option maxRecDepth 100000 in
set_option maxHeartbeats 8000000 in
theorem take_l18 (s : Ss) (n : Nt) (ai az : Option Addr) (ci cz : Nat) (w : World) (hn : NtL w ai az n) : Calls Tryz.prog 17 #[.agg #[.int .i64 4, .string s.n, .string s.d, .int .i64 s.s, .int .i64 s.t, .int .i64 s.c, .int .i64 s.h, .int .i64 s.a, .int .i64 s.e], .agg #[.int .i64 18, .string n.n, .string n.x, .string n.d, .int .i64 n.c, .int .i64 n.s, .int .i64 n.e, .int .i64 n.t, .bool n.o, .slice ai n.l.length ci, .slice az n.z.length cz]] w (StQ ({ s with p := 5, h := 0, a := 0 }, ⟨[nK 10, { nK 11 with s := s.s }], false, [{ n with k := 18 }]⟩) w) := by
  have CY : Hid (∀ (a : Option Addr) (k e : Nat) (W : World), Calls Tryz.prog 33 #[.agg #[.int .i64 5, .string s.n, .string s.d, .int .i64 s.s, .int .i64 s.t, .int .i64 s.c, .int .i64 0, .int .i64 s.a, .int .i64 s.e], .slice a k e] W (Gives (.tuple #[.agg #[.int .i64 5, .string s.n, .string s.d, .int .i64 s.s, .int .i64 s.t, .int .i64 s.c, .int .i64 0, .int .i64 0, .int .i64 s.e], .agg #[.slice a k e, .bool false, .slice none 0 0]]) W)) := fun a k e W => say_any { s with p := 5, h := 0 } a k e W
  have hnk : NtL w ai az { n with k := 18 } := ⟨⟨hn.hn, hn.hx, hn.hd, hn.hI, hn.hZ⟩, hn.hin, hn.hiz, hn.hzn⟩
  have CT : Hid (∀ W, Below w.heap.size w W → Calls Tryz.prog 36 #[.agg #[.int .i64 18, .string n.n, .string n.x, .string n.d, .int .i64 n.c, .int .i64 n.s, .int .i64 n.e, .int .i64 n.t, .bool n.o, .slice ai n.l.length ci, .slice az n.z.length cz]] W fun e w' => ∃ (bi bz : Option Addr) (di dz : Nat), e = .returned (.agg #[.int .i64 18, .string n.n, .string n.x, .string n.d, .int .i64 n.c, .int .i64 n.s, .int .i64 n.e, .int .i64 n.t, .bool n.o, .slice bi n.l.length di, .slice bz n.z.length dz]) ∧ Below W.heap.size W w' ∧ ItS w' bi n.l ∧ CdS w' bz n.z ∧ (∀ b, bi = some b → W.heap.size ≤ b.block) ∧ (∀ b, bz = some b → W.heap.size ≤ b.block)) := fun W hb => twin_any { n with k := 18 } ai az ci cz W (hnk.below hb)
  have HNK := Lib.hid hnk
  clear hn hnk
  have hu : undr 4 = true := rfl
  have CU : Hid (∀ W, Calls Tryz.prog 34 #[.agg #[.int .i64 4, .string s.n, .string s.d, .int .i64 s.s, .int .i64 s.t, .int .i64 s.c, .int .i64 s.h, .int .i64 s.a, .int .i64 s.e]] W (Gives (.bool true) W)) := fun W => by
    have q := undr_any { s with p := 4 } W
    rw [show undr _ = true from hu] at q
    exact q
  clear hu
  obtain ⟨HB, HX, HN, HZ, HO⟩ := bxFour w #[.int .i64 4, .string s.n, .string s.d, .int .i64 s.s, .int .i64 s.t, .int .i64 s.c, .int .i64 s.h, .int .i64 s.a, .int .i64 s.e] 28 #[.int .i64 18, .string n.n, .string n.x, .string n.d, .int .i64 n.c, .int .i64 n.s, .int .i64 n.e, .int .i64 n.t, .bool n.o, .slice ai n.l.length ci, .slice az n.z.length cz] 42 #[.int .i64 0, .string ⟨#[]⟩, .string ⟨#[]⟩, .int .i64 0, .int .i64 0, .int .i64 0, .int .i64 0, .int .i64 0, .int .i64 0] 28 #[.slice none 0 0, .bool false, .slice none 0 0] 31
  obtain ⟨m0, m1, m2, m3, m4, m5, m6, m7, m8⟩ := bx9 HX.out
  go_enter Tryz.func17, Tryz.ntmps17
  go_wp2_with fail
  refine (CU.out _).mono ?_
  rintro e w1 ⟨rfl, hb⟩
  clear m0 m1 m2 m3 m4 m5 m6 m7 m8
  have HX1 := kpB hb HX
  have HN1 := kpB hb HN
  have HZ1 := kpB hb HZ
  have HO1 := kpB hb HO
  have HB1 := Lib.hid (HB.out.trans (hb.mono HB.out.size))
  clear hb HB HX HN HZ HO CU
  obtain ⟨m0, m1, m2, m3, m4, m5, m6, m7, m8⟩ := bx9 HX1.out
  have hPx : w.heap.size + 3 < w1.heap.size := heap_lt HO1.out
  obtain ⟨f0, f1, f2, f3, f4, f5, f6, f7, f8⟩ := bx9f HX1.out
  obtain ⟨k0, k1, k2, k3, k4, k5, k6, k7, k8, k9, k10⟩ := bx11 HN1.out
  go_upto_region 4 with fail
  clear m0 m1 m2 m3 m4 m5 m6 m7 m8 f0 f1 f2 f3 f4 f5 f6 f7 f8
  clear k0 k1 k2 k3 k4 k5 k6 k7 k8 k9 k10
  have HX2 : Hid ((w1.setCell ⟨w.heap.size, 6, none⟩ (.int .i64 0)).heap[w.heap.size]? = some (.cells #[.int .i64 4, .string s.n, .string s.d, .int .i64 s.s, .int .i64 s.t, .int .i64 s.c, .int .i64 0, .int .i64 s.a, .int .i64 s.e] 28 (0, 0))) := by
    show _ = _
    simp [World.setCell, Array.getElem?_modify, HX1.out]
  have HN2 := Lib.hid (kp1 (A := w.heap.size) (i := 6) (u := .int .i64 0) (b := w.heap.size + 1) (by omega) HN1.out)
  have HZ2 := Lib.hid (kp1 (A := w.heap.size) (i := 6) (u := .int .i64 0) (b := w.heap.size + 2) (by omega) HZ1.out)
  have HO2 := Lib.hid (kp1 (A := w.heap.size) (i := 6) (u := .int .i64 0) (b := w.heap.size + 3) (by omega) HO1.out)
  have HB2 := Lib.hid (HB1.out.setCell (p := ⟨w.heap.size, 6, none⟩) (Nat.le_refl _) (.int .i64 0))
  clear HX1 HN1 HZ1 HO1 HB1 hPx
  generalize (w1.setCell ⟨w.heap.size, 6, none⟩ (.int .i64 0)) = w2 at HX2 HN2 HZ2 HO2 HB2 ⊢
  obtain ⟨m0, m1, m2, m3, m4, m5, m6, m7, m8⟩ := bx9 HX2.out
  obtain ⟨k0, k1, k2, k3, k4, k5, k6, k7, k8, k9, k10⟩ := bx11 HN2.out
  obtain ⟨HP, HBp⟩ := bxOne w2 #[.int .i64 4, .int .i64 18] 69
  have HX3 := kpB HBp.out HX2
  have HN3 := kpB HBp.out HN2
  have HZ3 := kpB HBp.out HZ2
  have HO3 := kpB HBp.out HO2
  have HB3 := Lib.hid (HB2.out.trans (HBp.out.mono HB2.out.size))
  have hPy : w.heap.size + 3 < w2.heap.size := heap_lt HO2.out
  have p0 : (w2.alloc (.cells #[.int .i64 4, .int .i64 18] 69)).cell? ⟨w2.heap.size, 0, none⟩ = some (.int .i64 4) := by rw [Lib.cell_of_heap HP.out]; rfl
  have p1 : (w2.alloc (.cells #[.int .i64 4, .int .i64 18] 69)).cell? ⟨w2.heap.size, 1, none⟩ = some (.int .i64 18) := by rw [Lib.cell_of_heap HP.out]; rfl
  obtain ⟨mm0, mm1, mm2, mm3, mm4, mm5, mm6, mm7, mm8⟩ := bx9 HX3.out
  obtain ⟨kk0, kk1, kk2, kk3, kk4, kk5, kk6, kk7, kk8, kk9, kk10⟩ := bx11 HN3.out
  obtain ⟨xf0, xf1, xf2, xf3, xf4, xf5, xf6, xf7, xf8⟩ := bx9f HX3.out
  go_upto_region 17 with fail
  clear xf0 xf1 xf2 xf3 xf4 xf5 xf6 xf7 xf8
  have HX4 : Hid (((w2.alloc (.cells #[.int .i64 4, .int .i64 18] 69)).setCell ⟨w.heap.size, 0, none⟩ (.int .i64 5)).heap[w.heap.size]? = some (.cells #[.int .i64 5, .string s.n, .string s.d, .int .i64 s.s, .int .i64 s.t, .int .i64 s.c, .int .i64 0, .int .i64 s.a, .int .i64 s.e] 28 (0, 0))) := by
    show _ = _
    simp only [World.setCell, Array.getElem?_modify, HX3.out]
    simp
  have HN4 := Lib.hid (kp1 (A := w.heap.size) (i := 0) (u := .int .i64 5) (b := w.heap.size + 1) (by omega) HN3.out)
  have HZ4 := Lib.hid (kp1 (A := w.heap.size) (i := 0) (u := .int .i64 5) (b := w.heap.size + 2) (by omega) HZ3.out)
  have HO4 := Lib.hid (kp1 (A := w.heap.size) (i := 0) (u := .int .i64 5) (b := w.heap.size + 3) (by omega) HO3.out)
  have HB4 := Lib.hid (HB3.out.setCell (p := ⟨w.heap.size, 0, none⟩) (Nat.le_refl _) (.int .i64 5))
  clear m0 m1 m2 m3 m4 m5 m6 m7 m8 mm0 mm1 mm2 mm3 mm4 mm5 mm6 mm7 mm8
  clear k0 k1 k2 k3 k4 k5 k6 k7 k8 k9 k10 kk0 kk1 kk2 kk3 kk4 kk5 kk6 kk7 kk8 kk9 kk10
  clear p0 p1 HP HBp HX2 HN2 HZ2 HO2 HB2
  clear HX3 HN3 HZ3 HO3 HB3
  generalize ((w2.alloc (.cells #[.int .i64 4, .int .i64 18] 69)).setCell ⟨w.heap.size, 0, none⟩ (.int .i64 5)) = w4 at HX4 HN4 HZ4 HO4 HB4 ⊢
  generalize w2.heap.size = A6 at hPy ⊢
  have hs4 : w.heap.size + 3 < w4.heap.size := heap_lt HO4.out
  obtain ⟨m0, m1, m2, m3, m4, m5, m6, m7, m8⟩ := bx9 HX4.out
  obtain ⟨k0, k1, k2, k3, k4, k5, k6, k7, k8, k9, k10⟩ := bx11 HN4.out
  have HA := bxOne w4 #[.int .i64 10, .string ⟨#[]⟩, .string ⟨#[]⟩, .string ⟨#[]⟩, .int .i64 0, .int .i64 0, .int .i64 0, .int .i64 0, .bool false, .slice none 0 0, .slice none 0 0, .int .i64 11, .string ⟨#[]⟩, .string ⟨#[]⟩, .string ⟨#[]⟩, .int .i64 0, .int .i64 s.s, .int .i64 0, .int .i64 0, .bool false, .slice none 0 0, .slice none 0 0] 42
  go_wp2_with fail
  refine (CY.out _ _ _ _).mono ?_
  rintro e w5 ⟨rfl, hb⟩
  clear m0 m1 m2 m3 m4 m5 m6 m7 m8
  clear k0 k1 k2 k3 k4 k5 k6 k7 k8 k9 k10
  have hba := HA.2.out.trans (hb.mono HA.2.out.size)
  have HX5 := kpB hba HX4
  have HN5 := kpB hba HN4
  have HZ5 := kpB hba HZ4
  have HO5 := kpB hba HO4
  have HB5 := Lib.hid (HB4.out.trans (hba.mono HB4.out.size))
  have HR5 := kpB hb HA.1
  have hs5 : w4.heap.size < w5.heap.size := heap_lt HR5.out
  clear hb hba HA HX4 HN4 HZ4 HO4 HB4 CY
  obtain ⟨HBa, H7, H8⟩ := bxTwo w5 #[.int .i64 5, .string s.n, .string s.d, .int .i64 s.s, .int .i64 s.t, .int .i64 s.c, .int .i64 0, .int .i64 0, .int .i64 s.e] 28 #[.slice (some ⟨w4.heap.size, 0, none⟩) 2 2, .bool false, .slice none 0 0] 31
  go_upto_region 18 with fail
  have HN6 := kpB HBa.out HN5
  have HZ6 := kpB HBa.out HZ5
  have HO6 := kpB HBa.out HO5
  have HR6 := kpB HBa.out HR5
  have HB6 := Lib.hid (HB5.out.trans (HBa.out.mono HB5.out.size))
  clear HBa HX5 HN5 HZ5 HO5 HB5 HR5
  generalize ((w5.alloc (.cells #[.int .i64 5, .string s.n, .string s.d, .int .i64 s.s, .int .i64 s.t, .int .i64 s.c, .int .i64 0, .int .i64 0, .int .i64 s.e] 28)).alloc (.cells #[.slice (some ⟨w4.heap.size, 0, none⟩) 2 2, .bool false, .slice none 0 0] 31)) = w6 at H7 H8 HN6 HZ6 HO6 HR6 HB6 ⊢
  obtain ⟨k0, k1, k2, k3, k4, k5, k6, k7, k8, k9, k10⟩ := bx11 HN6.out
  go_wp2_with fail
  refine (CT.out _ HB6.out).mono ?_
  rintro e w7 ⟨bi, bz, di, dz, rfl, hb, hI, hZ, hg1, hg2⟩
  clear k0 k1 k2 k3 k4 k5 k6 k7 k8 k9 k10
  have HZ7 := kpB hb HZ6
  have HO7 := kpB hb HO6
  have HR7 := kpB hb HR6
  have H77 := kpB hb H7
  have H87 := kpB hb H8
  have HB7 := Lib.hid (HB6.out.trans (hb.mono HB6.out.size))
  have hlt6 : w5.heap.size + 1 < w6.heap.size := heap_lt H8.out
  have hs7 : w6.heap.size ≤ w7.heap.size := hb.size
  have HTw : Hid (Tw w7 w6.heap.size n bi bz) := ⟨hI, hZ, hg1, hg2⟩
  clear hb hI hZ hg1 hg2 H7 H8 HN6 HZ6 HO6 HR6 HB6 CT
  obtain ⟨HT, HBt⟩ := bxOne w7 #[.int .i64 18, .string n.n, .string n.x, .string n.d, .int .i64 n.c, .int .i64 n.s, .int .i64 n.e, .int .i64 n.t, .bool n.o, .slice bi n.l.length di, .slice bz n.z.length dz] 42
  have HZ8 := kpB HBt.out HZ7
  have HO8 := kpB HBt.out HO7
  have HR8 := kpB HBt.out HR7
  have H78 := kpB HBt.out H77
  have H88 := kpB HBt.out H87
  have HB8 := Lib.hid (HB7.out.trans (HBt.out.mono HB7.out.size))
  have HT8 := Lib.hid (HTw.out.below HBt.out)
  obtain ⟨y0, y1, y2⟩ := bx3 H88.out
  obtain ⟨yf0, yf1, yf2⟩ := bx3f H88.out
  have hq8 : w5.heap.size + 1 < w7.heap.size := by omega
  clear HBt
  go_upto_region 19 with fail
  clear y0 y1 y2 yf0 yf1 yf2
  have GA8 : Hid ((w7.setCell ⟨w5.heap.size + 1, 2, none⟩ (.slice (some ⟨w7.heap.size, 0, none⟩) 1 1)).heap[w5.heap.size + 1]? = some (.cells #[.slice (some ⟨w4.heap.size, 0, none⟩) 2 2, .bool false, .slice (some ⟨w7.heap.size, 0, none⟩) 1 1] 31 (0, 0))) := by
    show _ = _
    simp only [World.setCell, Array.getElem?_modify, H87.out]
    simp
  have GA7 := Lib.hid (kp1 (A := w5.heap.size + 1) (i := 2) (u := (.slice (some ⟨w7.heap.size, 0, none⟩) 1 1)) (b := w5.heap.size) (by omega) H77.out)
  have GZ := Lib.hid (kp1 (A := w5.heap.size + 1) (i := 2) (u := (.slice (some ⟨w7.heap.size, 0, none⟩) 1 1)) (b := w.heap.size + 1 + 1) (by omega) HZ7.out)
  have GO := Lib.hid (kp1 (A := w5.heap.size + 1) (i := 2) (u := (.slice (some ⟨w7.heap.size, 0, none⟩) 1 1)) (b := w.heap.size + 1 + 1 + 1) (by omega) HO7.out)
  have GR := Lib.hid (kp1 (A := w5.heap.size + 1) (i := 2) (u := (.slice (some ⟨w7.heap.size, 0, none⟩) 1 1)) (b := w4.heap.size) (by omega) HR7.out)
  have GB := Lib.hid (HB7.out.setCell (p := ⟨w5.heap.size + 1, 2, none⟩) (show w.heap.size ≤ w5.heap.size + 1 by omega) (.slice (some ⟨w7.heap.size, 0, none⟩) 1 1))
  have GT : Hid (Tw (w7.setCell ⟨w5.heap.size + 1, 2, none⟩ (.slice (some ⟨w7.heap.size, 0, none⟩) 1 1)) w6.heap.size n bi bz) := Tw.keep (Z := w5.heap.size + 1) HTw.out (by omega) (fun b hb => kp1 (A := w5.heap.size + 1) (i := 2) (u := (.slice (some ⟨w7.heap.size, 0, none⟩) 1 1)) hb rfl)
  obtain ⟨HTn, HBn⟩ := bxOne (w7.setCell ⟨w5.heap.size + 1, 2, none⟩ (.slice (some ⟨w7.heap.size, 0, none⟩) 1 1)) #[.int .i64 18, .string n.n, .string n.x, .string n.d, .int .i64 n.c, .int .i64 n.s, .int .i64 n.e, .int .i64 n.t, .bool n.o, .slice bi n.l.length di, .slice bz n.z.length dz] 42
  have HTr : Hid (((w7.setCell ⟨w5.heap.size + 1, 2, none⟩ (.slice (some ⟨w7.heap.size, 0, none⟩) 1 1)).alloc (.cells #[.int .i64 18, .string n.n, .string n.x, .string n.d, .int .i64 n.c, .int .i64 n.s, .int .i64 n.e, .int .i64 n.t, .bool n.o, .slice bi n.l.length di, .slice bz n.z.length dz] 42)).heap[w7.heap.size]? = some (.cells #[.int .i64 18, .string n.n, .string n.x, .string n.d, .int .i64 n.c, .int .i64 n.s, .int .i64 n.e, .int .i64 n.t, .bool n.o, .slice bi n.l.length di, .slice bz n.z.length dz] 42 (0, 0))) := by
    have h := HTn.out
    rw [st_size] at h
    exact h
  have HA8 := kpB HBn.out GA8
  have HA7 := kpB HBn.out GA7
  have HZ := kpB HBn.out GZ
  have HO := kpB HBn.out GO
  have HR := kpB HBn.out GR
  have HB := Lib.hid (GB.out.trans (HBn.out.mono (by rw [st_size]; exact HB7.out.size)))
  have HTw2 := Lib.hid (GT.out.below HBn.out)
  clear GA8 GA7 GZ GO GR GB GT HTn HBn HZ7 HO7 HR7 H77 H87 HB7 HTw H78 H88 HZ8 HO8 HR8 HB8 HT8 HT
  have HTw := HTw2
  clear HTw2
  generalize ((w7.setCell ⟨w5.heap.size + 1, 2, none⟩ (.slice (some ⟨w7.heap.size, 0, none⟩) 1 1)).alloc (.cells #[.int .i64 18, .string n.n, .string n.x, .string n.d, .int .i64 n.c, .int .i64 n.s, .int .i64 n.e, .int .i64 n.t, .bool n.o, .slice bi n.l.length di, .slice bz n.z.length dz] 42)) = W1 at HA8 HA7 HZ HO HR HTr HB HTw ⊢
  have hZN : w.heap.size + 1 + 1 < W1.heap.size := heap_lt HZ.out
  refine region_Z (w := w) (Z := w.heap.size + 1 + 1) 3 2 (fun j => [95, 96, 100002].getD j 0) [95, 96] [.eq (.agg #[.int .i64 5, .string s.n, .string s.d, .int .i64 s.s, .int .i64 s.t, .int .i64 s.c, .int .i64 0, .int .i64 0, .int .i64 s.e]), .eq (.agg #[.slice (some ⟨w4.heap.size, 0, none⟩) 2 2, .bool false, .slice (some ⟨w7.heap.size, 0, none⟩) 1 1]), .st #[.int .i64 5, .string s.n, .string s.d, .int .i64 s.s, .int .i64 s.t, .int .i64 s.c, .int .i64 0, .int .i64 0, .int .i64 s.e]] (by kernel_rfl) (by kernel_rfl) (by kernel_rfl) (by kernel_rfl) (by decide) (by kernel_rfl) (by kernel_rfl) (by kernel_rfl) (by kernel_rfl) (fun h => absurd (show 2 < 3 by decide) h) HB.out HZ.out ?_ ?_
  · intro i o hi ho q W hsz hout hJ hZ0 hdep
    have HAW := oldJ hJ (by omega) HA7
    obtain ⟨x0, x1, x2, x3, x4, x5, x6, x7, x8⟩ := bx9 HAW.out
    have HCW := oldJ hJ (by omega) HA8
    obtain ⟨y0, y1, y2⟩ := bx3 HCW.out
    have hc : i = 0 ∨ i = 1 ∨ i = 2 := by omega
    rcases hc with rfl | rfl | rfl
    · -- 0
      cases ho
      refine plainR (by decide) ?_
      have e7 : q.eval (.tmp 7) = .pointer (some ⟨w5.heap.size, 0, none⟩) := (hout 7 (by decide)).trans rfl
      refine gives_read (v := .agg #[.int .i64 5, .string s.n, .string s.d, .int .i64 s.s, .int .i64 s.t, .int .i64 s.c, .int .i64 0, .int .i64 0, .int .i64 s.e]) ?_ rfl
      unfold execOp
      dsimp only
      rw [e7]
      go_simp
    · -- 1
      cases ho
      refine plainR (by decide) ?_
      have e8 : q.eval (.tmp 8) = .pointer (some ⟨w5.heap.size + 1, 0, none⟩) := (hout 8 (by decide)).trans rfl
      refine gives_read (v := .agg #[.slice (some ⟨w4.heap.size, 0, none⟩) 2 2, .bool false, .slice (some ⟨w7.heap.size, 0, none⟩) 1 1]) ?_ rfl
      unfold execOp
      dsimp only
      rw [e8]
      go_simp
    · -- 2
      cases ho
      have e4 : q.eval (.tmp 4) = .pointer (some ⟨w.heap.size + 1 + 1, 0, none⟩) := (hout 4 (by decide)).trans rfl
      have e95 : q.eval (.tmp 95) = .agg #[.int .i64 5, .string s.n, .string s.d, .int .i64 s.s, .int .i64 s.t, .int .i64 s.c, .int .i64 0, .int .i64 0, .int .i64 s.e] := hdep ⟨0, .data⟩ (by simp) rfl (by decide)
      have hz := hZ0 (by kernel_rfl)
      obtain ⟨zc0, zc1, zc2, zc3, zc4, zc5, zc6, zc7, zc8⟩ := bx9 hz
      obtain ⟨zf0, zf1, zf2, zf3, zf4, zf5, zf6, zf7, zf8⟩ := bx9f hz
      refine givesR_skip ?_ (stZ_of (by omega) hz (.int .i64 5) (.string s.n) (.string s.d) (.int .i64 s.s) (.int .i64 s.t) (.int .i64 s.c) (.int .i64 0) (.int .i64 0) (.int .i64 s.e)) (st9 hz (.int .i64 5) (.string s.n) (.string s.d) (.int .i64 s.s) (.int .i64 s.t) (.int .i64 s.c) (.int .i64 0) (.int .i64 0) (.int .i64 s.e))
      unfold execOp
      dsimp only
      rw [e4, e95]
      go_simp
  · intro q W hq hJ hv
    have e96 : q.eval (.tmp 96) = .agg #[.slice (some ⟨w4.heap.size, 0, none⟩) 2 2, .bool false, .slice (some ⟨w7.heap.size, 0, none⟩) 1 1] := hv 1 (by decide)
    have hZW : W.heap[w.heap.size + 1 + 1]? = some (.cells #[.int .i64 5, .string s.n, .string s.d, .int .i64 s.s, .int .i64 s.t, .int .i64 s.c, .int .i64 0, .int .i64 0, .int .i64 s.e] 28 (0, 0)) := hv 2 (by decide)
    have HBW := Lib.hid hJ.bel
    have HOW := oldJ hJ (by omega) HO
    have HZW := Lib.hid hZW
    have HRW := oldJ hJ (by omega) HR
    have HTW := oldJ hJ (by omega) HTr
    have hO := Lib.hid hJ.old
    clear hJ HA7 HA8 HO HR HTr hZW
    have hq2 : q = canonL q [95, 96] _ := hq
    simp only [canonL] at hq2
    rw [e96] at hq2
    clear hq hv e96
    generalize q.eval (.tmp 95) = u95 at hq2
    subst hq2
    obtain ⟨y0, y1, y2⟩ := bx3 HOW.out
    obtain ⟨v0, v1, v2⟩ := bx3f HOW.out
    simp only [List.drop_succ_cons, List.drop_zero]
    go_wp2_with fail
    have hI : ItS (((W.setCell ⟨w.heap.size + 3, 0, none⟩ (.slice (some ⟨w4.heap.size, 0, none⟩) 2 2)).setCell ⟨w.heap.size + 3, 1, none⟩ (.bool false)).setCell ⟨w.heap.size + 3, 2, none⟩ (.slice (some ⟨w7.heap.size, 0, none⟩) 1 1)) bi n.l := its_far HTw.out.1 fun b e hb => (st3k (by have h := HTw.out.2.2.1 b e; omega) (.slice (some ⟨w4.heap.size, 0, none⟩) 2 2) (.bool false) (.slice (some ⟨w7.heap.size, 0, none⟩) 1 1)).trans (hO.out _ hb (by have h := HTw.out.2.2.1 b e; omega))
    have hC : CdS (((W.setCell ⟨w.heap.size + 3, 0, none⟩ (.slice (some ⟨w4.heap.size, 0, none⟩) 2 2)).setCell ⟨w.heap.size + 3, 1, none⟩ (.bool false)).setCell ⟨w.heap.size + 3, 2, none⟩ (.slice (some ⟨w7.heap.size, 0, none⟩) 1 1)) bz n.z := cds_far HTw.out.2.1 fun b e hb => (st3k (by have h := HTw.out.2.2.2 b e; omega) (.slice (some ⟨w4.heap.size, 0, none⟩) 2 2) (.bool false) (.slice (some ⟨w7.heap.size, 0, none⟩) 1 1)).trans (hO.out _ hb (by have h := HTw.out.2.2.2 b e; omega))
    exact bodyPost_ret (results_two Tryz.results17 _ _ (w.heap.size + 2) (w.heap.size + 3) _ _ rfl rfl (load_s ((st3k (by omega) (.slice (some ⟨w4.heap.size, 0, none⟩) 2 2) (.bool false) (.slice (some ⟨w7.heap.size, 0, none⟩) 1 1)).trans HZW.out)) (load_o (st3 HOW.out (.slice (some ⟨w4.heap.size, 0, none⟩) 2 2) (.bool false) (.slice (some ⟨w7.heap.size, 0, none⟩) 1 1)))) rfl ⟨some ⟨w4.heap.size, 0, none⟩, some ⟨w7.heap.size, 0, none⟩, 2, 1, rfl, st3b HBW.out (by omega) (.slice (some ⟨w4.heap.size, 0, none⟩) 2 2) (.bool false) (.slice (some ⟨w7.heap.size, 0, none⟩) 1 1), fr_two (nK 10) { nK 11 with s := s.s } (by omega) ((st3k (by omega) (.slice (some ⟨w4.heap.size, 0, none⟩) 2 2) (.bool false) (.slice (some ⟨w7.heap.size, 0, none⟩) 1 1)).trans HRW.out) (fun _ _ => ntl_plain _ rfl rfl (Nat.zero_le _) (Nat.zero_le _) (Nat.zero_le _)) (fun _ _ => ntl_plain _ rfl rfl (Nat.zero_le _) (Nat.zero_le _) (Nat.zero_le _)), fr_one { n with k := 18 } (by omega) ((st3k (by omega) (.slice (some ⟨w4.heap.size, 0, none⟩) 2 2) (.bool false) (.slice (some ⟨w7.heap.size, 0, none⟩) 1 1)).trans HTW.out) (fun _ hk => ntl_tw HNK.out (hI.agree (fun b e => by have := HTw.out.2.2.1 b e; omega) hk) (hC.agree (fun b e => by have := HTw.out.2.2.2 b e; omega) hk))⟩
set_option maxRecDepth 100000 in
set_option maxHeartbeats 8000000 in
theorem take_l19 (s : Ss) (n : Nt) (ai az : Option Addr) (ci cz : Nat) (w : World) (hn : NtL w ai az n) : Calls Tryz.prog 17 #[.agg #[.int .i64 4, .string s.n, .string s.d, .int .i64 s.s, .int .i64 s.t, .int .i64 s.c, .int .i64 s.h, .int .i64 s.a, .int .i64 s.e], .agg #[.int .i64 19, .string n.n, .string n.x, .string n.d, .int .i64 n.c, .int .i64 n.s, .int .i64 n.e, .int .i64 n.t, .bool n.o, .slice ai n.l.length ci, .slice az n.z.length cz]] w (StQ ({ s with p := 5, h := 0, a := 0 }, ⟨[nK 10, { nK 11 with s := s.s }], false, [{ n with k := 19 }]⟩) w) := by
  have CY : Hid (∀ (a : Option Addr) (k e : Nat) (W : World), Calls Tryz.prog 33 #[.agg #[.int .i64 5, .string s.n, .string s.d, .int .i64 s.s, .int .i64 s.t, .int .i64 s.c, .int .i64 0, .int .i64 s.a, .int .i64 s.e], .slice a k e] W (Gives (.tuple #[.agg #[.int .i64 5, .string s.n, .string s.d, .int .i64 s.s, .int .i64 s.t, .int .i64 s.c, .int .i64 0, .int .i64 0, .int .i64 s.e], .agg #[.slice a k e, .bool false, .slice none 0 0]]) W)) := fun a k e W => say_any { s with p := 5, h := 0 } a k e W
  have hnk : NtL w ai az { n with k := 19 } := ⟨⟨hn.hn, hn.hx, hn.hd, hn.hI, hn.hZ⟩, hn.hin, hn.hiz, hn.hzn⟩
  have CT : Hid (∀ W, Below w.heap.size w W → Calls Tryz.prog 36 #[.agg #[.int .i64 19, .string n.n, .string n.x, .string n.d, .int .i64 n.c, .int .i64 n.s, .int .i64 n.e, .int .i64 n.t, .bool n.o, .slice ai n.l.length ci, .slice az n.z.length cz]] W fun e w' => ∃ (bi bz : Option Addr) (di dz : Nat), e = .returned (.agg #[.int .i64 19, .string n.n, .string n.x, .string n.d, .int .i64 n.c, .int .i64 n.s, .int .i64 n.e, .int .i64 n.t, .bool n.o, .slice bi n.l.length di, .slice bz n.z.length dz]) ∧ Below W.heap.size W w' ∧ ItS w' bi n.l ∧ CdS w' bz n.z ∧ (∀ b, bi = some b → W.heap.size ≤ b.block) ∧ (∀ b, bz = some b → W.heap.size ≤ b.block)) := fun W hb => twin_any { n with k := 19 } ai az ci cz W (hnk.below hb)
  have HNK := Lib.hid hnk
  clear hn hnk
  have hu : undr 4 = true := rfl
  have CU : Hid (∀ W, Calls Tryz.prog 34 #[.agg #[.int .i64 4, .string s.n, .string s.d, .int .i64 s.s, .int .i64 s.t, .int .i64 s.c, .int .i64 s.h, .int .i64 s.a, .int .i64 s.e]] W (Gives (.bool true) W)) := fun W => by
    have q := undr_any { s with p := 4 } W
    rw [show undr _ = true from hu] at q
    exact q
  clear hu
  obtain ⟨HB, HX, HN, HZ, HO⟩ := bxFour w #[.int .i64 4, .string s.n, .string s.d, .int .i64 s.s, .int .i64 s.t, .int .i64 s.c, .int .i64 s.h, .int .i64 s.a, .int .i64 s.e] 28 #[.int .i64 19, .string n.n, .string n.x, .string n.d, .int .i64 n.c, .int .i64 n.s, .int .i64 n.e, .int .i64 n.t, .bool n.o, .slice ai n.l.length ci, .slice az n.z.length cz] 42 #[.int .i64 0, .string ⟨#[]⟩, .string ⟨#[]⟩, .int .i64 0, .int .i64 0, .int .i64 0, .int .i64 0, .int .i64 0, .int .i64 0] 28 #[.slice none 0 0, .bool false, .slice none 0 0] 31
  obtain ⟨m0, m1, m2, m3, m4, m5, m6, m7, m8⟩ := bx9 HX.out
  go_enter Tryz.func17, Tryz.ntmps17
  go_wp2_with fail
  refine (CU.out _).mono ?_
  rintro e w1 ⟨rfl, hb⟩
  clear m0 m1 m2 m3 m4 m5 m6 m7 m8
  have HX1 := kpB hb HX
  have HN1 := kpB hb HN
  have HZ1 := kpB hb HZ
  have HO1 := kpB hb HO
  have HB1 := Lib.hid (HB.out.trans (hb.mono HB.out.size))
  clear hb HB HX HN HZ HO CU
  obtain ⟨m0, m1, m2, m3, m4, m5, m6, m7, m8⟩ := bx9 HX1.out
  have hPx : w.heap.size + 3 < w1.heap.size := heap_lt HO1.out
  obtain ⟨f0, f1, f2, f3, f4, f5, f6, f7, f8⟩ := bx9f HX1.out
  obtain ⟨k0, k1, k2, k3, k4, k5, k6, k7, k8, k9, k10⟩ := bx11 HN1.out
  go_upto_region 4 with fail
  clear m0 m1 m2 m3 m4 m5 m6 m7 m8 f0 f1 f2 f3 f4 f5 f6 f7 f8
  clear k0 k1 k2 k3 k4 k5 k6 k7 k8 k9 k10
  have HX2 : Hid ((w1.setCell ⟨w.heap.size, 6, none⟩ (.int .i64 0)).heap[w.heap.size]? = some (.cells #[.int .i64 4, .string s.n, .string s.d, .int .i64 s.s, .int .i64 s.t, .int .i64 s.c, .int .i64 0, .int .i64 s.a, .int .i64 s.e] 28 (0, 0))) := by
    show _ = _
    simp [World.setCell, Array.getElem?_modify, HX1.out]
  have HN2 := Lib.hid (kp1 (A := w.heap.size) (i := 6) (u := .int .i64 0) (b := w.heap.size + 1) (by omega) HN1.out)
  have HZ2 := Lib.hid (kp1 (A := w.heap.size) (i := 6) (u := .int .i64 0) (b := w.heap.size + 2) (by omega) HZ1.out)
  have HO2 := Lib.hid (kp1 (A := w.heap.size) (i := 6) (u := .int .i64 0) (b := w.heap.size + 3) (by omega) HO1.out)
  have HB2 := Lib.hid (HB1.out.setCell (p := ⟨w.heap.size, 6, none⟩) (Nat.le_refl _) (.int .i64 0))
  clear HX1 HN1 HZ1 HO1 HB1 hPx
  generalize (w1.setCell ⟨w.heap.size, 6, none⟩ (.int .i64 0)) = w2 at HX2 HN2 HZ2 HO2 HB2 ⊢
  obtain ⟨m0, m1, m2, m3, m4, m5, m6, m7, m8⟩ := bx9 HX2.out
  obtain ⟨k0, k1, k2, k3, k4, k5, k6, k7, k8, k9, k10⟩ := bx11 HN2.out
  obtain ⟨HP, HBp⟩ := bxOne w2 #[.int .i64 4, .int .i64 19] 69
  have HX3 := kpB HBp.out HX2
  have HN3 := kpB HBp.out HN2
  have HZ3 := kpB HBp.out HZ2
  have HO3 := kpB HBp.out HO2
  have HB3 := Lib.hid (HB2.out.trans (HBp.out.mono HB2.out.size))
  have hPy : w.heap.size + 3 < w2.heap.size := heap_lt HO2.out
  have p0 : (w2.alloc (.cells #[.int .i64 4, .int .i64 19] 69)).cell? ⟨w2.heap.size, 0, none⟩ = some (.int .i64 4) := by rw [Lib.cell_of_heap HP.out]; rfl
  have p1 : (w2.alloc (.cells #[.int .i64 4, .int .i64 19] 69)).cell? ⟨w2.heap.size, 1, none⟩ = some (.int .i64 19) := by rw [Lib.cell_of_heap HP.out]; rfl
  obtain ⟨mm0, mm1, mm2, mm3, mm4, mm5, mm6, mm7, mm8⟩ := bx9 HX3.out
  obtain ⟨kk0, kk1, kk2, kk3, kk4, kk5, kk6, kk7, kk8, kk9, kk10⟩ := bx11 HN3.out
  obtain ⟨xf0, xf1, xf2, xf3, xf4, xf5, xf6, xf7, xf8⟩ := bx9f HX3.out
  go_upto_region 17 with fail
  clear xf0 xf1 xf2 xf3 xf4 xf5 xf6 xf7 xf8
  have HX4 : Hid (((w2.alloc (.cells #[.int .i64 4, .int .i64 19] 69)).setCell ⟨w.heap.size, 0, none⟩ (.int .i64 5)).heap[w.heap.size]? = some (.cells #[.int .i64 5, .string s.n, .string s.d, .int .i64 s.s, .int .i64 s.t, .int .i64 s.c, .int .i64 0, .int .i64 s.a, .int .i64 s.e] 28 (0, 0))) := by
    show _ = _
    simp only [World.setCell, Array.getElem?_modify, HX3.out]
    simp
  have HN4 := Lib.hid (kp1 (A := w.heap.size) (i := 0) (u := .int .i64 5) (b := w.heap.size + 1) (by omega) HN3.out)
  have HZ4 := Lib.hid (kp1 (A := w.heap.size) (i := 0) (u := .int .i64 5) (b := w.heap.size + 2) (by omega) HZ3.out)
  have HO4 := Lib.hid (kp1 (A := w.heap.size) (i := 0) (u := .int .i64 5) (b := w.heap.size + 3) (by omega) HO3.out)
  have HB4 := Lib.hid (HB3.out.setCell (p := ⟨w.heap.size, 0, none⟩) (Nat.le_refl _) (.int .i64 5))
  clear m0 m1 m2 m3 m4 m5 m6 m7 m8 mm0 mm1 mm2 mm3 mm4 mm5 mm6 mm7 mm8
  clear k0 k1 k2 k3 k4 k5 k6 k7 k8 k9 k10 kk0 kk1 kk2 kk3 kk4 kk5 kk6 kk7 kk8 kk9 kk10
  clear p0 p1 HP HBp HX2 HN2 HZ2 HO2 HB2
  clear HX3 HN3 HZ3 HO3 HB3
  generalize ((w2.alloc (.cells #[.int .i64 4, .int .i64 19] 69)).setCell ⟨w.heap.size, 0, none⟩ (.int .i64 5)) = w4 at HX4 HN4 HZ4 HO4 HB4 ⊢
  generalize w2.heap.size = A6 at hPy ⊢
  have hs4 : w.heap.size + 3 < w4.heap.size := heap_lt HO4.out
  obtain ⟨m0, m1, m2, m3, m4, m5, m6, m7, m8⟩ := bx9 HX4.out
  obtain ⟨k0, k1, k2, k3, k4, k5, k6, k7, k8, k9, k10⟩ := bx11 HN4.out
  have HA := bxOne w4 #[.int .i64 10, .string ⟨#[]⟩, .string ⟨#[]⟩, .string ⟨#[]⟩, .int .i64 0, .int .i64 0, .int .i64 0, .int .i64 0, .bool false, .slice none 0 0, .slice none 0 0, .int .i64 11, .string ⟨#[]⟩, .string ⟨#[]⟩, .string ⟨#[]⟩, .int .i64 0, .int .i64 s.s, .int .i64 0, .int .i64 0, .bool false, .slice none 0 0, .slice none 0 0] 42
  go_wp2_with fail
  refine (CY.out _ _ _ _).mono ?_
  rintro e w5 ⟨rfl, hb⟩
  clear m0 m1 m2 m3 m4 m5 m6 m7 m8
  clear k0 k1 k2 k3 k4 k5 k6 k7 k8 k9 k10
  have hba := HA.2.out.trans (hb.mono HA.2.out.size)
  have HX5 := kpB hba HX4
  have HN5 := kpB hba HN4
  have HZ5 := kpB hba HZ4
  have HO5 := kpB hba HO4
  have HB5 := Lib.hid (HB4.out.trans (hba.mono HB4.out.size))
  have HR5 := kpB hb HA.1
  have hs5 : w4.heap.size < w5.heap.size := heap_lt HR5.out
  clear hb hba HA HX4 HN4 HZ4 HO4 HB4 CY
  obtain ⟨HBa, H7, H8⟩ := bxTwo w5 #[.int .i64 5, .string s.n, .string s.d, .int .i64 s.s, .int .i64 s.t, .int .i64 s.c, .int .i64 0, .int .i64 0, .int .i64 s.e] 28 #[.slice (some ⟨w4.heap.size, 0, none⟩) 2 2, .bool false, .slice none 0 0] 31
  go_upto_region 18 with fail
  have HN6 := kpB HBa.out HN5
  have HZ6 := kpB HBa.out HZ5
  have HO6 := kpB HBa.out HO5
  have HR6 := kpB HBa.out HR5
  have HB6 := Lib.hid (HB5.out.trans (HBa.out.mono HB5.out.size))
  clear HBa HX5 HN5 HZ5 HO5 HB5 HR5
  generalize ((w5.alloc (.cells #[.int .i64 5, .string s.n, .string s.d, .int .i64 s.s, .int .i64 s.t, .int .i64 s.c, .int .i64 0, .int .i64 0, .int .i64 s.e] 28)).alloc (.cells #[.slice (some ⟨w4.heap.size, 0, none⟩) 2 2, .bool false, .slice none 0 0] 31)) = w6 at H7 H8 HN6 HZ6 HO6 HR6 HB6 ⊢
  obtain ⟨k0, k1, k2, k3, k4, k5, k6, k7, k8, k9, k10⟩ := bx11 HN6.out
  go_wp2_with fail
  refine (CT.out _ HB6.out).mono ?_
  rintro e w7 ⟨bi, bz, di, dz, rfl, hb, hI, hZ, hg1, hg2⟩
  clear k0 k1 k2 k3 k4 k5 k6 k7 k8 k9 k10
  have HZ7 := kpB hb HZ6
  have HO7 := kpB hb HO6
  have HR7 := kpB hb HR6
  have H77 := kpB hb H7
  have H87 := kpB hb H8
  have HB7 := Lib.hid (HB6.out.trans (hb.mono HB6.out.size))
  have hlt6 : w5.heap.size + 1 < w6.heap.size := heap_lt H8.out
  have hs7 : w6.heap.size ≤ w7.heap.size := hb.size
  have HTw : Hid (Tw w7 w6.heap.size n bi bz) := ⟨hI, hZ, hg1, hg2⟩
  clear hb hI hZ hg1 hg2 H7 H8 HN6 HZ6 HO6 HR6 HB6 CT
  obtain ⟨HT, HBt⟩ := bxOne w7 #[.int .i64 19, .string n.n, .string n.x, .string n.d, .int .i64 n.c, .int .i64 n.s, .int .i64 n.e, .int .i64 n.t, .bool n.o, .slice bi n.l.length di, .slice bz n.z.length dz] 42
  have HZ8 := kpB HBt.out HZ7
  have HO8 := kpB HBt.out HO7
  have HR8 := kpB HBt.out HR7
  have H78 := kpB HBt.out H77
  have H88 := kpB HBt.out H87
  have HB8 := Lib.hid (HB7.out.trans (HBt.out.mono HB7.out.size))
  have HT8 := Lib.hid (HTw.out.below HBt.out)
  obtain ⟨y0, y1, y2⟩ := bx3 H88.out
  obtain ⟨yf0, yf1, yf2⟩ := bx3f H88.out
  have hq8 : w5.heap.size + 1 < w7.heap.size := by omega
  clear HBt
  go_upto_region 19 with fail
  clear y0 y1 y2 yf0 yf1 yf2
  have GA8 : Hid ((w7.setCell ⟨w5.heap.size + 1, 2, none⟩ (.slice (some ⟨w7.heap.size, 0, none⟩) 1 1)).heap[w5.heap.size + 1]? = some (.cells #[.slice (some ⟨w4.heap.size, 0, none⟩) 2 2, .bool false, .slice (some ⟨w7.heap.size, 0, none⟩) 1 1] 31 (0, 0))) := by
    show _ = _
    simp only [World.setCell, Array.getElem?_modify, H87.out]
    simp
  have GA7 := Lib.hid (kp1 (A := w5.heap.size + 1) (i := 2) (u := (.slice (some ⟨w7.heap.size, 0, none⟩) 1 1)) (b := w5.heap.size) (by omega) H77.out)
  have GZ := Lib.hid (kp1 (A := w5.heap.size + 1) (i := 2) (u := (.slice (some ⟨w7.heap.size, 0, none⟩) 1 1)) (b := w.heap.size + 1 + 1) (by omega) HZ7.out)
  have GO := Lib.hid (kp1 (A := w5.heap.size + 1) (i := 2) (u := (.slice (some ⟨w7.heap.size, 0, none⟩) 1 1)) (b := w.heap.size + 1 + 1 + 1) (by omega) HO7.out)
  have GR := Lib.hid (kp1 (A := w5.heap.size + 1) (i := 2) (u := (.slice (some ⟨w7.heap.size, 0, none⟩) 1 1)) (b := w4.heap.size) (by omega) HR7.out)
  have GB := Lib.hid (HB7.out.setCell (p := ⟨w5.heap.size + 1, 2, none⟩) (show w.heap.size ≤ w5.heap.size + 1 by omega) (.slice (some ⟨w7.heap.size, 0, none⟩) 1 1))
  have GT : Hid (Tw (w7.setCell ⟨w5.heap.size + 1, 2, none⟩ (.slice (some ⟨w7.heap.size, 0, none⟩) 1 1)) w6.heap.size n bi bz) := Tw.keep (Z := w5.heap.size + 1) HTw.out (by omega) (fun b hb => kp1 (A := w5.heap.size + 1) (i := 2) (u := (.slice (some ⟨w7.heap.size, 0, none⟩) 1 1)) hb rfl)
  obtain ⟨HTn, HBn⟩ := bxOne (w7.setCell ⟨w5.heap.size + 1, 2, none⟩ (.slice (some ⟨w7.heap.size, 0, none⟩) 1 1)) #[.int .i64 19, .string n.n, .string n.x, .string n.d, .int .i64 n.c, .int .i64 n.s, .int .i64 n.e, .int .i64 n.t, .bool n.o, .slice bi n.l.length di, .slice bz n.z.length dz] 42
  have HTr : Hid (((w7.setCell ⟨w5.heap.size + 1, 2, none⟩ (.slice (some ⟨w7.heap.size, 0, none⟩) 1 1)).alloc (.cells #[.int .i64 19, .string n.n, .string n.x, .string n.d, .int .i64 n.c, .int .i64 n.s, .int .i64 n.e, .int .i64 n.t, .bool n.o, .slice bi n.l.length di, .slice bz n.z.length dz] 42)).heap[w7.heap.size]? = some (.cells #[.int .i64 19, .string n.n, .string n.x, .string n.d, .int .i64 n.c, .int .i64 n.s, .int .i64 n.e, .int .i64 n.t, .bool n.o, .slice bi n.l.length di, .slice bz n.z.length dz] 42 (0, 0))) := by
    have h := HTn.out
    rw [st_size] at h
    exact h
  have HA8 := kpB HBn.out GA8
  have HA7 := kpB HBn.out GA7
  have HZ := kpB HBn.out GZ
  have HO := kpB HBn.out GO
  have HR := kpB HBn.out GR
  have HB := Lib.hid (GB.out.trans (HBn.out.mono (by rw [st_size]; exact HB7.out.size)))
  have HTw2 := Lib.hid (GT.out.below HBn.out)
  clear GA8 GA7 GZ GO GR GB GT HTn HBn HZ7 HO7 HR7 H77 H87 HB7 HTw H78 H88 HZ8 HO8 HR8 HB8 HT8 HT
  have HTw := HTw2
  clear HTw2
  generalize ((w7.setCell ⟨w5.heap.size + 1, 2, none⟩ (.slice (some ⟨w7.heap.size, 0, none⟩) 1 1)).alloc (.cells #[.int .i64 19, .string n.n, .string n.x, .string n.d, .int .i64 n.c, .int .i64 n.s, .int .i64 n.e, .int .i64 n.t, .bool n.o, .slice bi n.l.length di, .slice bz n.z.length dz] 42)) = W1 at HA8 HA7 HZ HO HR HTr HB HTw ⊢
  have hZN : w.heap.size + 1 + 1 < W1.heap.size := heap_lt HZ.out
  refine region_Z (w := w) (Z := w.heap.size + 1 + 1) 3 2 (fun j => [95, 96, 100002].getD j 0) [95, 96] [.eq (.agg #[.int .i64 5, .string s.n, .string s.d, .int .i64 s.s, .int .i64 s.t, .int .i64 s.c, .int .i64 0, .int .i64 0, .int .i64 s.e]), .eq (.agg #[.slice (some ⟨w4.heap.size, 0, none⟩) 2 2, .bool false, .slice (some ⟨w7.heap.size, 0, none⟩) 1 1]), .st #[.int .i64 5, .string s.n, .string s.d, .int .i64 s.s, .int .i64 s.t, .int .i64 s.c, .int .i64 0, .int .i64 0, .int .i64 s.e]] (by kernel_rfl) (by kernel_rfl) (by kernel_rfl) (by kernel_rfl) (by decide) (by kernel_rfl) (by kernel_rfl) (by kernel_rfl) (by kernel_rfl) (fun h => absurd (show 2 < 3 by decide) h) HB.out HZ.out ?_ ?_
  · intro i o hi ho q W hsz hout hJ hZ0 hdep
    have HAW := oldJ hJ (by omega) HA7
    obtain ⟨x0, x1, x2, x3, x4, x5, x6, x7, x8⟩ := bx9 HAW.out
    have HCW := oldJ hJ (by omega) HA8
    obtain ⟨y0, y1, y2⟩ := bx3 HCW.out
    have hc : i = 0 ∨ i = 1 ∨ i = 2 := by omega
    rcases hc with rfl | rfl | rfl
    · -- 0
      cases ho
      refine plainR (by decide) ?_
      have e7 : q.eval (.tmp 7) = .pointer (some ⟨w5.heap.size, 0, none⟩) := (hout 7 (by decide)).trans rfl
      refine gives_read (v := .agg #[.int .i64 5, .string s.n, .string s.d, .int .i64 s.s, .int .i64 s.t, .int .i64 s.c, .int .i64 0, .int .i64 0, .int .i64 s.e]) ?_ rfl
      unfold execOp
      dsimp only
      rw [e7]
      go_simp
    · -- 1
      cases ho
      refine plainR (by decide) ?_
      have e8 : q.eval (.tmp 8) = .pointer (some ⟨w5.heap.size + 1, 0, none⟩) := (hout 8 (by decide)).trans rfl
      refine gives_read (v := .agg #[.slice (some ⟨w4.heap.size, 0, none⟩) 2 2, .bool false, .slice (some ⟨w7.heap.size, 0, none⟩) 1 1]) ?_ rfl
      unfold execOp
      dsimp only
      rw [e8]
      go_simp
    · -- 2
      cases ho
      have e4 : q.eval (.tmp 4) = .pointer (some ⟨w.heap.size + 1 + 1, 0, none⟩) := (hout 4 (by decide)).trans rfl
      have e95 : q.eval (.tmp 95) = .agg #[.int .i64 5, .string s.n, .string s.d, .int .i64 s.s, .int .i64 s.t, .int .i64 s.c, .int .i64 0, .int .i64 0, .int .i64 s.e] := hdep ⟨0, .data⟩ (by simp) rfl (by decide)
      have hz := hZ0 (by kernel_rfl)
      obtain ⟨zc0, zc1, zc2, zc3, zc4, zc5, zc6, zc7, zc8⟩ := bx9 hz
      obtain ⟨zf0, zf1, zf2, zf3, zf4, zf5, zf6, zf7, zf8⟩ := bx9f hz
      refine givesR_skip ?_ (stZ_of (by omega) hz (.int .i64 5) (.string s.n) (.string s.d) (.int .i64 s.s) (.int .i64 s.t) (.int .i64 s.c) (.int .i64 0) (.int .i64 0) (.int .i64 s.e)) (st9 hz (.int .i64 5) (.string s.n) (.string s.d) (.int .i64 s.s) (.int .i64 s.t) (.int .i64 s.c) (.int .i64 0) (.int .i64 0) (.int .i64 s.e))
      unfold execOp
      dsimp only
      rw [e4, e95]
      go_simp
  · intro q W hq hJ hv
    have e96 : q.eval (.tmp 96) = .agg #[.slice (some ⟨w4.heap.size, 0, none⟩) 2 2, .bool false, .slice (some ⟨w7.heap.size, 0, none⟩) 1 1] := hv 1 (by decide)
    have hZW : W.heap[w.heap.size + 1 + 1]? = some (.cells #[.int .i64 5, .string s.n, .string s.d, .int .i64 s.s, .int .i64 s.t, .int .i64 s.c, .int .i64 0, .int .i64 0, .int .i64 s.e] 28 (0, 0)) := hv 2 (by decide)
    have HBW := Lib.hid hJ.bel
    have HOW := oldJ hJ (by omega) HO
    have HZW := Lib.hid hZW
    have HRW := oldJ hJ (by omega) HR
    have HTW := oldJ hJ (by omega) HTr
    have hO := Lib.hid hJ.old
    clear hJ HA7 HA8 HO HR HTr hZW
    have hq2 : q = canonL q [95, 96] _ := hq
    simp only [canonL] at hq2
    rw [e96] at hq2
    clear hq hv e96
    generalize q.eval (.tmp 95) = u95 at hq2
    subst hq2
    obtain ⟨y0, y1, y2⟩ := bx3 HOW.out
    obtain ⟨v0, v1, v2⟩ := bx3f HOW.out
    simp only [List.drop_succ_cons, List.drop_zero]
    go_wp2_with fail
    have hI : ItS (((W.setCell ⟨w.heap.size + 3, 0, none⟩ (.slice (some ⟨w4.heap.size, 0, none⟩) 2 2)).setCell ⟨w.heap.size + 3, 1, none⟩ (.bool false)).setCell ⟨w.heap.size + 3, 2, none⟩ (.slice (some ⟨w7.heap.size, 0, none⟩) 1 1)) bi n.l := its_far HTw.out.1 fun b e hb => (st3k (by have h := HTw.out.2.2.1 b e; omega) (.slice (some ⟨w4.heap.size, 0, none⟩) 2 2) (.bool false) (.slice (some ⟨w7.heap.size, 0, none⟩) 1 1)).trans (hO.out _ hb (by have h := HTw.out.2.2.1 b e; omega))
    have hC : CdS (((W.setCell ⟨w.heap.size + 3, 0, none⟩ (.slice (some ⟨w4.heap.size, 0, none⟩) 2 2)).setCell ⟨w.heap.size + 3, 1, none⟩ (.bool false)).setCell ⟨w.heap.size + 3, 2, none⟩ (.slice (some ⟨w7.heap.size, 0, none⟩) 1 1)) bz n.z := cds_far HTw.out.2.1 fun b e hb => (st3k (by have h := HTw.out.2.2.2 b e; omega) (.slice (some ⟨w4.heap.size, 0, none⟩) 2 2) (.bool false) (.slice (some ⟨w7.heap.size, 0, none⟩) 1 1)).trans (hO.out _ hb (by have h := HTw.out.2.2.2 b e; omega))
    exact bodyPost_ret (results_two Tryz.results17 _ _ (w.heap.size + 2) (w.heap.size + 3) _ _ rfl rfl (load_s ((st3k (by omega) (.slice (some ⟨w4.heap.size, 0, none⟩) 2 2) (.bool false) (.slice (some ⟨w7.heap.size, 0, none⟩) 1 1)).trans HZW.out)) (load_o (st3 HOW.out (.slice (some ⟨w4.heap.size, 0, none⟩) 2 2) (.bool false) (.slice (some ⟨w7.heap.size, 0, none⟩) 1 1)))) rfl ⟨some ⟨w4.heap.size, 0, none⟩, some ⟨w7.heap.size, 0, none⟩, 2, 1, rfl, st3b HBW.out (by omega) (.slice (some ⟨w4.heap.size, 0, none⟩) 2 2) (.bool false) (.slice (some ⟨w7.heap.size, 0, none⟩) 1 1), fr_two (nK 10) { nK 11 with s := s.s } (by omega) ((st3k (by omega) (.slice (some ⟨w4.heap.size, 0, none⟩) 2 2) (.bool false) (.slice (some ⟨w7.heap.size, 0, none⟩) 1 1)).trans HRW.out) (fun _ _ => ntl_plain _ rfl rfl (Nat.zero_le _) (Nat.zero_le _) (Nat.zero_le _)) (fun _ _ => ntl_plain _ rfl rfl (Nat.zero_le _) (Nat.zero_le _) (Nat.zero_le _)), fr_one { n with k := 19 } (by omega) ((st3k (by omega) (.slice (some ⟨w4.heap.size, 0, none⟩) 2 2) (.bool false) (.slice (some ⟨w7.heap.size, 0, none⟩) 1 1)).trans HTW.out) (fun _ hk => ntl_tw HNK.out (hI.agree (fun b e => by have := HTw.out.2.2.1 b e; omega) hk) (hC.agree (fun b e => by have := HTw.out.2.2.2 b e; omega) hk))⟩
end Go.Proofs.YthbeempmdpfnmaaGreatDoor.T
