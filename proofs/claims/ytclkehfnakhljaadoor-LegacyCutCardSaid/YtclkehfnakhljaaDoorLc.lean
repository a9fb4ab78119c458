/- The walk of the law LegacyCut (p0). Conditions: the tables of places and of widths hold what the program's text lays; a note takes at most what a machine can hold. -/
import Derived.Test.YtclkehfnakhljaaDoorLp
namespace Go.Proofs.YtclkehfnakhljaaDoor.T
open Go.RowKit Go.Lib

set_option maxRecDepth 100000 in
set_option maxHeartbeats 8000000 in
theorem cut_big (n : Nt) (ai az : Option Addr) (ci cz : Nat) (b : ByteArray) (ch : Int) (cut : Int) (w : World) (_h : NtR w ai az n) (hG : Gp w) (hb : 12000 < b.size) (hbm : b.size ≤ 140737488351232) : Calls Tryd.prog 4 #[.int .i64 ch, .string b, nA n ai az ci cz, .int .i64 cut] w (OkL w) := by
  unfold nA
  have HX := Lib.hid (box_new w #[.int .i64 n.k, .string n.n, .string n.x, .string n.d, .int .i64 n.c, .int .i64 n.s, .int .i64 n.e, .int .i64 n.t, .bool n.o, .slice ai n.l.length ci, .slice az n.z.length cz] 25)
  have HB0 : Hid (Below w.heap.size w (w.alloc (.cells #[.int .i64 n.k, .string n.n, .string n.x, .string n.d, .int .i64 n.c, .int .i64 n.s, .int .i64 n.e, .int .i64 n.t, .bool n.o, .slice ai n.l.length ci, .slice az n.z.length cz] 25))) := (Below.refl _ w).alloc (Nat.le_refl _) _
  have HG := Lib.hid (fun W (hb : Below w.heap.size w W) => hG.below hb)
  have L := Lib.hid (fun W (g : Gp W) => live_any W g)
  have q1 : ((12000 : Int) < b.size) := by omega
  clear hG
  obtain ⟨m0, m1, m2, m3, m4, m5, m6, m7, m8, m9, m10⟩ := bx11 HX.out
  go_enter Tryd.func4, Tryd.ntmps4
  go_wp2_with fail
  refine (L.out _ (HG.out _ HB0.out)).mono ?_
  rintro e w1 ⟨rfl, hb⟩
  clear m0 m1 m2 m3 m4 m5 m6 m7 m8 m9 m10
  have HX' := Lib.hid ((hb.block _ (heap_lt HX.out)).trans HX.out)
  clear HX
  have HX := HX'
  clear HX'
  have HB1 := Lib.hid (HB0.out.trans (hb.mono HB0.out.size))
  clear hb
  obtain ⟨m0, m1, m2, m3, m4, m5, m6, m7, m8, m9, m10⟩ := bx11 HX.out
  go_wp2_with fail
  go_ret
  exact ⟨rfl, HB1.out⟩
set_option maxRecDepth 100000 in
set_option maxHeartbeats 8000000 in
theorem cut_p0_no (n : Nt) (ai az : Option Addr) (ci cz : Nat) (b : ByteArray) (ch : Int) (cut : Int) (w : World) (h : NtR w ai az n) (hG : Gp w) (s1 : lprs ch b = zN) (s2 : lprsE ch b = 140) (p1 : lputC n 0 = 0) (p2 : lputB n 0 = ⟨#[]⟩) (p3 : lputX n 0 = 140) (hb : ¬ 12000 < b.size) : Calls Tryd.prog 4 #[.int .i64 ch, .string b, nA n ai az ci cz, .int .i64 cut] w (OkL w) := by
  unfold nA
  have HX := Lib.hid (box_new w #[.int .i64 n.k, .string n.n, .string n.x, .string n.d, .int .i64 n.c, .int .i64 n.s, .int .i64 n.e, .int .i64 n.t, .bool n.o, .slice ai n.l.length ci, .slice az n.z.length cz] 25)
  have HB0 : Hid (Below w.heap.size w (w.alloc (.cells #[.int .i64 n.k, .string n.n, .string n.x, .string n.d, .int .i64 n.c, .int .i64 n.s, .int .i64 n.e, .int .i64 n.t, .bool n.o, .slice ai n.l.length ci, .slice az n.z.length cz] 25))) := (Below.refl _ w).alloc (Nat.le_refl _) _
  have HG := Lib.hid (fun W (hb : Below w.heap.size w W) => hG.below hb)
  have L := Lib.hid (fun W (g : Gp W) => live_any W g)
  have HR := Lib.hid (fun W (hb : Below w.heap.size w W) => h.below hb)
  have CS : Hid (∀ W, Below w.heap.size w W → Calls Tryd.prog 6 #[.agg #[.int .i64 n.k, .string n.n, .string n.x, .string n.d, .int .i64 n.c, .int .i64 n.s, .int .i64 n.e, .int .i64 n.t, .bool n.o, .slice ai n.l.length ci, .slice az n.z.length cz]] W (SmlP n W)) := fun W hb => by
    have k := small_any n ai az ci cz W (h.below hb)
    exact k
  have CA : Hid (∀ W, Gp W → Calls Tryd.prog 10 #[.int .i64 ch, .string b] W (LpP zN 140 W)) := fun W g => by
    have k := lparse_any ch b W g (by omega)
    rw [s1, s2] at k
    exact k
  have CP : Hid (∀ W, Gp W → NtL W ai az n → Calls Tryd.prog 8 #[.agg #[.int .i64 n.k, .string n.n, .string n.x, .string n.d, .int .i64 n.c, .int .i64 n.s, .int .i64 n.e, .int .i64 n.t, .bool n.o, .slice ai n.l.length ci, .slice az n.z.length cz], .int .i64 0] W (Gives (.tuple #[.int .i64 0, .string ⟨#[]⟩, .int .i64 140]) W)) := fun W g hl => by
    have k := lput_any n 0 ai az ci cz W hl g
    rw [p1, p2, p3] at k
    exact k
  have q1 : ¬ ((12000 : Int) < b.size) := by omega
  have hbm : b.size ≤ 12000 := by omega
  clear h hG s1 s2 p1 p2 p3 hb
  obtain ⟨m0, m1, m2, m3, m4, m5, m6, m7, m8, m9, m10⟩ := bx11 HX.out
  go_enter Tryd.func4, Tryd.ntmps4
  go_wp2_with fail
  refine (CS.out _ HB0.out).mono ?_
  rintro e w1 ⟨yn, rfl, hb, hs⟩
  clear m0 m1 m2 m3 m4 m5 m6 m7 m8 m9 m10
  have HX' := Lib.hid ((hb.block _ (heap_lt HX.out)).trans HX.out)
  clear HX
  have HX := HX'
  clear HX'
  have HB1 := Lib.hid (HB0.out.trans (hb.mono HB0.out.size))
  have HS := Lib.hid hs
  clear hb hs
  clear CS
  skip
  cases yn
  · skip
    clear HS HR CA CP
    obtain ⟨m0, m1, m2, m3, m4, m5, m6, m7, m8, m9, m10⟩ := bx11 HX.out
    go_wp2_with fail
    refine (L.out _ (HG.out _ HB1.out)).mono ?_
    rintro e w2 ⟨rfl, hb⟩
    clear m0 m1 m2 m3 m4 m5 m6 m7 m8 m9 m10
    have HX' := Lib.hid ((hb.block _ (heap_lt HX.out)).trans HX.out)
    clear HX
    have HX := HX'
    clear HX'
    have HB2 := Lib.hid (HB1.out.trans (hb.mono HB1.out.size))
    clear hb
    obtain ⟨m0, m1, m2, m3, m4, m5, m6, m7, m8, m9, m10⟩ := bx11 HX.out
    go_wp2_with fail
    go_ret
    exact ⟨rfl, HB2.out⟩
  have HS1 := Lib.hid (HS.out rfl)
  clear HS
  obtain ⟨m0, m1, m2, m3, m4, m5, m6, m7, m8, m9, m10⟩ := bx11 HX.out
  go_wp2_with fail
  refine (CA.out _ (HG.out _ HB1.out)).mono ?_
  rintro e w2 ⟨pi, pz, ei, ez, rfl, hb, hI, hZ, -, -⟩
  clear m0 m1 m2 m3 m4 m5 m6 m7 m8 m9 m10
  have HX' := Lib.hid ((hb.block _ (heap_lt HX.out)).trans HX.out)
  clear HX
  have HX := HX'
  clear HX'
  have HB2 := Lib.hid (HB1.out.trans (hb.mono HB1.out.size))
  have HP : Hid (ItS w2 pi zN.l ∧ CdS w2 pz zN.z) := ⟨hI, hZ⟩
  clear hb hI hZ
  clear CA HP
  unfold nA
  have HP := Lib.hid (box_new w2 #[.int .i64 zN.k, .string zN.n, .string zN.x, .string zN.d, .int .i64 zN.c, .int .i64 zN.s, .int .i64 zN.e, .int .i64 zN.t, .bool zN.o, .slice pi zN.l.length ei, .slice pz zN.z.length ez] 25)
  have HX' := Lib.hid ((Below.heap_alloc w2 (.cells #[.int .i64 zN.k, .string zN.n, .string zN.x, .string zN.d, .int .i64 zN.c, .int .i64 zN.s, .int .i64 zN.e, .int .i64 zN.t, .bool zN.o, .slice pi zN.l.length ei, .slice pz zN.z.length ez] 25) _ (heap_lt HX.out)).trans HX.out)
  clear HX
  have HX := HX'
  clear HX'
  have HB2a := Lib.hid (HB2.out.alloc HB2.out.size (.cells #[.int .i64 zN.k, .string zN.n, .string zN.x, .string zN.d, .int .i64 zN.c, .int .i64 zN.s, .int .i64 zN.e, .int .i64 zN.t, .bool zN.o, .slice pi zN.l.length ei, .slice pz zN.z.length ez] 25))
  clear HP
  obtain ⟨m0, m1, m2, m3, m4, m5, m6, m7, m8, m9, m10⟩ := bx11 HX.out
  go_wp2_with fail
  refine (lnum_any _ _).mono ?_
  rintro e wz ⟨rfl, hw⟩
  have hw := hw.symm
  subst hw
  go_wp2_with fail
  refine (CP.out _ (HG.out _ HB2a.out) ((HR.out _ HB2a.out).small HS1.out (by decide))).mono ?_
  rintro e w3 ⟨rfl, hb⟩
  clear m0 m1 m2 m3 m4 m5 m6 m7 m8 m9 m10
  have HX' := Lib.hid ((hb.block _ (heap_lt HX.out)).trans HX.out)
  clear HX
  have HX := HX'
  clear HX'
  have HB3 := Lib.hid (HB2a.out.trans (hb.mono HB2a.out.size))
  clear hb
  obtain ⟨m0, m1, m2, m3, m4, m5, m6, m7, m8, m9, m10⟩ := bx11 HX.out
  go_wp2_with fail
  clear CP
  refine (lnum_any _ _).mono ?_
  rintro e wz ⟨rfl, hw⟩
  have hw := hw.symm
  subst hw
  go_wp2_with fail
  refine (L.out _ (HG.out _ HB3.out)).mono ?_
  rintro e w4 ⟨rfl, hb⟩
  clear m0 m1 m2 m3 m4 m5 m6 m7 m8 m9 m10
  have HX' := Lib.hid ((hb.block _ (heap_lt HX.out)).trans HX.out)
  clear HX
  have HX := HX'
  clear HX'
  have HB4 := Lib.hid (HB3.out.trans (hb.mono HB3.out.size))
  clear hb
  obtain ⟨m0, m1, m2, m3, m4, m5, m6, m7, m8, m9, m10⟩ := bx11 HX.out
  go_wp2_with fail
  go_ret
  exact ⟨rfl, HB4.out⟩
set_option maxRecDepth 100000 in
set_option maxHeartbeats 8000000 in
theorem cut_p0_chan (n : Nt) (ai az : Option Addr) (ci cz : Nat) (b : ByteArray) (ch : Int) (A : ByteArray) (C : Int) (cut : Int) (w : World) (h : NtR w ai az n) (hG : Gp w) (s1 : lprs ch b = zN) (s2 : lprsE ch b = 140) (p1 : lputC n 0 = C) (p2 : lputB n 0 = A) (p3 : lputX n 0 = 0) (_zA : A.size ≤ 1000000) (c2 : C ≠ 2) (hb : ¬ 12000 < b.size) : Calls Tryd.prog 4 #[.int .i64 ch, .string b, nA n ai az ci cz, .int .i64 cut] w (OkL w) := by
  unfold nA
  have HX := Lib.hid (box_new w #[.int .i64 n.k, .string n.n, .string n.x, .string n.d, .int .i64 n.c, .int .i64 n.s, .int .i64 n.e, .int .i64 n.t, .bool n.o, .slice ai n.l.length ci, .slice az n.z.length cz] 25)
  have HB0 : Hid (Below w.heap.size w (w.alloc (.cells #[.int .i64 n.k, .string n.n, .string n.x, .string n.d, .int .i64 n.c, .int .i64 n.s, .int .i64 n.e, .int .i64 n.t, .bool n.o, .slice ai n.l.length ci, .slice az n.z.length cz] 25))) := (Below.refl _ w).alloc (Nat.le_refl _) _
  have HG := Lib.hid (fun W (hb : Below w.heap.size w W) => hG.below hb)
  have L := Lib.hid (fun W (g : Gp W) => live_any W g)
  have HR := Lib.hid (fun W (hb : Below w.heap.size w W) => h.below hb)
  have CS : Hid (∀ W, Below w.heap.size w W → Calls Tryd.prog 6 #[.agg #[.int .i64 n.k, .string n.n, .string n.x, .string n.d, .int .i64 n.c, .int .i64 n.s, .int .i64 n.e, .int .i64 n.t, .bool n.o, .slice ai n.l.length ci, .slice az n.z.length cz]] W (SmlP n W)) := fun W hb => by
    have k := small_any n ai az ci cz W (h.below hb)
    exact k
  have CA : Hid (∀ W, Gp W → Calls Tryd.prog 10 #[.int .i64 ch, .string b] W (LpP zN 140 W)) := fun W g => by
    have k := lparse_any ch b W g (by omega)
    rw [s1, s2] at k
    exact k
  have c3 := bne_iff_ne.2 c2
  have CP : Hid (∀ W, Gp W → NtL W ai az n → Calls Tryd.prog 8 #[.agg #[.int .i64 n.k, .string n.n, .string n.x, .string n.d, .int .i64 n.c, .int .i64 n.s, .int .i64 n.e, .int .i64 n.t, .bool n.o, .slice ai n.l.length ci, .slice az n.z.length cz], .int .i64 0] W (Gives (.tuple #[.int .i64 C, .string A, .int .i64 0]) W)) := fun W g hl => by
    have k := lput_any n 0 ai az ci cz W hl g
    rw [p1, p2, p3] at k
    exact k
  have q1 : ¬ ((12000 : Int) < b.size) := by omega
  have hbm : b.size ≤ 12000 := by omega
  clear h hG s1 s2 p1 p2 p3 c2 hb
  obtain ⟨m0, m1, m2, m3, m4, m5, m6, m7, m8, m9, m10⟩ := bx11 HX.out
  go_enter Tryd.func4, Tryd.ntmps4
  go_wp2_with fail
  refine (CS.out _ HB0.out).mono ?_
  rintro e w1 ⟨yn, rfl, hb, hs⟩
  clear m0 m1 m2 m3 m4 m5 m6 m7 m8 m9 m10
  have HX' := Lib.hid ((hb.block _ (heap_lt HX.out)).trans HX.out)
  clear HX
  have HX := HX'
  clear HX'
  have HB1 := Lib.hid (HB0.out.trans (hb.mono HB0.out.size))
  have HS := Lib.hid hs
  clear hb hs
  clear CS
  skip
  cases yn
  · skip
    clear HS HR CA CP
    obtain ⟨m0, m1, m2, m3, m4, m5, m6, m7, m8, m9, m10⟩ := bx11 HX.out
    go_wp2_with fail
    refine (L.out _ (HG.out _ HB1.out)).mono ?_
    rintro e w2 ⟨rfl, hb⟩
    clear m0 m1 m2 m3 m4 m5 m6 m7 m8 m9 m10
    have HX' := Lib.hid ((hb.block _ (heap_lt HX.out)).trans HX.out)
    clear HX
    have HX := HX'
    clear HX'
    have HB2 := Lib.hid (HB1.out.trans (hb.mono HB1.out.size))
    clear hb
    obtain ⟨m0, m1, m2, m3, m4, m5, m6, m7, m8, m9, m10⟩ := bx11 HX.out
    go_wp2_with fail
    go_ret
    exact ⟨rfl, HB2.out⟩
  have HS1 := Lib.hid (HS.out rfl)
  clear HS
  obtain ⟨m0, m1, m2, m3, m4, m5, m6, m7, m8, m9, m10⟩ := bx11 HX.out
  go_wp2_with fail
  refine (CA.out _ (HG.out _ HB1.out)).mono ?_
  rintro e w2 ⟨pi, pz, ei, ez, rfl, hb, hI, hZ, -, -⟩
  clear m0 m1 m2 m3 m4 m5 m6 m7 m8 m9 m10
  have HX' := Lib.hid ((hb.block _ (heap_lt HX.out)).trans HX.out)
  clear HX
  have HX := HX'
  clear HX'
  have HB2 := Lib.hid (HB1.out.trans (hb.mono HB1.out.size))
  have HP : Hid (ItS w2 pi zN.l ∧ CdS w2 pz zN.z) := ⟨hI, hZ⟩
  clear hb hI hZ
  clear CA HP
  unfold nA
  have HP := Lib.hid (box_new w2 #[.int .i64 zN.k, .string zN.n, .string zN.x, .string zN.d, .int .i64 zN.c, .int .i64 zN.s, .int .i64 zN.e, .int .i64 zN.t, .bool zN.o, .slice pi zN.l.length ei, .slice pz zN.z.length ez] 25)
  have HX' := Lib.hid ((Below.heap_alloc w2 (.cells #[.int .i64 zN.k, .string zN.n, .string zN.x, .string zN.d, .int .i64 zN.c, .int .i64 zN.s, .int .i64 zN.e, .int .i64 zN.t, .bool zN.o, .slice pi zN.l.length ei, .slice pz zN.z.length ez] 25) _ (heap_lt HX.out)).trans HX.out)
  clear HX
  have HX := HX'
  clear HX'
  have HB2a := Lib.hid (HB2.out.alloc HB2.out.size (.cells #[.int .i64 zN.k, .string zN.n, .string zN.x, .string zN.d, .int .i64 zN.c, .int .i64 zN.s, .int .i64 zN.e, .int .i64 zN.t, .bool zN.o, .slice pi zN.l.length ei, .slice pz zN.z.length ez] 25))
  clear HP
  obtain ⟨m0, m1, m2, m3, m4, m5, m6, m7, m8, m9, m10⟩ := bx11 HX.out
  go_wp2_with fail
  refine (lnum_any _ _).mono ?_
  rintro e wz ⟨rfl, hw⟩
  have hw := hw.symm
  subst hw
  go_wp2_with fail
  refine (CP.out _ (HG.out _ HB2a.out) ((HR.out _ HB2a.out).small HS1.out (by decide))).mono ?_
  rintro e w3 ⟨rfl, hb⟩
  clear m0 m1 m2 m3 m4 m5 m6 m7 m8 m9 m10
  have HX' := Lib.hid ((hb.block _ (heap_lt HX.out)).trans HX.out)
  clear HX
  have HX := HX'
  clear HX'
  have HB3 := Lib.hid (HB2a.out.trans (hb.mono HB2a.out.size))
  clear hb
  obtain ⟨m0, m1, m2, m3, m4, m5, m6, m7, m8, m9, m10⟩ := bx11 HX.out
  go_wp2_with fail
  clear CP
  refine (lnum_any _ _).mono ?_
  rintro e wz ⟨rfl, hw⟩
  have hw := hw.symm
  subst hw
  go_wp2_with fail
  refine (L.out _ (HG.out _ HB3.out)).mono ?_
  rintro e w4 ⟨rfl, hb⟩
  clear m0 m1 m2 m3 m4 m5 m6 m7 m8 m9 m10
  have HX' := Lib.hid ((hb.block _ (heap_lt HX.out)).trans HX.out)
  clear HX
  have HX := HX'
  clear HX'
  have HB4 := Lib.hid (HB3.out.trans (hb.mono HB3.out.size))
  clear hb
  obtain ⟨m0, m1, m2, m3, m4, m5, m6, m7, m8, m9, m10⟩ := bx11 HX.out
  go_wp2_with fail
  go_ret
  exact ⟨rfl, HB4.out⟩
set_option maxRecDepth 100000 in
set_option maxHeartbeats 8000000 in
theorem cut_p0_k20 (n : Nt) (ai az : Option Addr) (ci cz : Nat) (b : ByteArray) (ch : Int) (A : ByteArray) (cut : Int) (w : World) (h : NtR w ai az n) (hG : Gp w) (s1 : lprs ch b = zN) (s2 : lprsE ch b = 140) (p1 : lputC n 0 = 2) (p2 : lputB n 0 = A) (p3 : lputX n 0 = 0) (_zA : A.size ≤ 1000000) (hk : n.k = 20) (hb : ¬ 12000 < b.size) : Calls Tryd.prog 4 #[.int .i64 ch, .string b, nA n ai az ci cz, .int .i64 cut] w (OkL w) := by
  unfold nA
  have hk' := hk
  rw [hk]
  have HX := Lib.hid (box_new w #[.int .i64 20, .string n.n, .string n.x, .string n.d, .int .i64 n.c, .int .i64 n.s, .int .i64 n.e, .int .i64 n.t, .bool n.o, .slice ai n.l.length ci, .slice az n.z.length cz] 25)
  have HB0 : Hid (Below w.heap.size w (w.alloc (.cells #[.int .i64 20, .string n.n, .string n.x, .string n.d, .int .i64 n.c, .int .i64 n.s, .int .i64 n.e, .int .i64 n.t, .bool n.o, .slice ai n.l.length ci, .slice az n.z.length cz] 25))) := (Below.refl _ w).alloc (Nat.le_refl _) _
  have HG := Lib.hid (fun W (hb : Below w.heap.size w W) => hG.below hb)
  have L := Lib.hid (fun W (g : Gp W) => live_any W g)
  have HR := Lib.hid (fun W (hb : Below w.heap.size w W) => h.below hb)
  have CS : Hid (∀ W, Below w.heap.size w W → Calls Tryd.prog 6 #[.agg #[.int .i64 20, .string n.n, .string n.x, .string n.d, .int .i64 n.c, .int .i64 n.s, .int .i64 n.e, .int .i64 n.t, .bool n.o, .slice ai n.l.length ci, .slice az n.z.length cz]] W (SmlP n W)) := fun W hb => by
    have k := small_any n ai az ci cz W (h.below hb)
    unfold nA at k
    rw [hk] at k
    exact k
  have CA : Hid (∀ W, Gp W → Calls Tryd.prog 10 #[.int .i64 ch, .string b] W (LpP zN 140 W)) := fun W g => by
    have k := lparse_any ch b W g (by omega)
    rw [s1, s2] at k
    exact k
  have CP : Hid (∀ W, Gp W → NtL W ai az n → Calls Tryd.prog 8 #[.agg #[.int .i64 20, .string n.n, .string n.x, .string n.d, .int .i64 n.c, .int .i64 n.s, .int .i64 n.e, .int .i64 n.t, .bool n.o, .slice ai n.l.length ci, .slice az n.z.length cz], .int .i64 0] W (Gives (.tuple #[.int .i64 2, .string A, .int .i64 0]) W)) := fun W g hl => by
    have k := lput_any n 0 ai az ci cz W hl g
    rw [p1, p2, p3] at k
    unfold nA at k
    rw [hk] at k
    exact k
  have q1 : ¬ ((12000 : Int) < b.size) := by omega
  have hbm : b.size ≤ 12000 := by omega
  clear h hG s1 s2 p1 p2 p3 hk hb
  obtain ⟨m0, m1, m2, m3, m4, m5, m6, m7, m8, m9, m10⟩ := bx11 HX.out
  go_enter Tryd.func4, Tryd.ntmps4
  go_wp2_with fail
  refine (CS.out _ HB0.out).mono ?_
  rintro e w1 ⟨yn, rfl, hb, hs⟩
  clear m0 m1 m2 m3 m4 m5 m6 m7 m8 m9 m10
  have HX' := Lib.hid ((hb.block _ (heap_lt HX.out)).trans HX.out)
  clear HX
  have HX := HX'
  clear HX'
  have HB1 := Lib.hid (HB0.out.trans (hb.mono HB0.out.size))
  have HS := Lib.hid hs
  clear hb hs
  clear CS
  skip
  cases yn
  · skip
    clear HS HR CA CP
    obtain ⟨m0, m1, m2, m3, m4, m5, m6, m7, m8, m9, m10⟩ := bx11 HX.out
    go_wp2_with fail
    refine (L.out _ (HG.out _ HB1.out)).mono ?_
    rintro e w2 ⟨rfl, hb⟩
    clear m0 m1 m2 m3 m4 m5 m6 m7 m8 m9 m10
    have HX' := Lib.hid ((hb.block _ (heap_lt HX.out)).trans HX.out)
    clear HX
    have HX := HX'
    clear HX'
    have HB2 := Lib.hid (HB1.out.trans (hb.mono HB1.out.size))
    clear hb
    obtain ⟨m0, m1, m2, m3, m4, m5, m6, m7, m8, m9, m10⟩ := bx11 HX.out
    go_wp2_with fail
    go_ret
    exact ⟨rfl, HB2.out⟩
  have HS1 := Lib.hid (HS.out rfl)
  clear HS
  obtain ⟨m0, m1, m2, m3, m4, m5, m6, m7, m8, m9, m10⟩ := bx11 HX.out
  go_wp2_with fail
  refine (CA.out _ (HG.out _ HB1.out)).mono ?_
  rintro e w2 ⟨pi, pz, ei, ez, rfl, hb, hI, hZ, -, -⟩
  clear m0 m1 m2 m3 m4 m5 m6 m7 m8 m9 m10
  have HX' := Lib.hid ((hb.block _ (heap_lt HX.out)).trans HX.out)
  clear HX
  have HX := HX'
  clear HX'
  have HB2 := Lib.hid (HB1.out.trans (hb.mono HB1.out.size))
  have HP : Hid (ItS w2 pi zN.l ∧ CdS w2 pz zN.z) := ⟨hI, hZ⟩
  clear hb hI hZ
  clear CA HP
  unfold nA
  have HP := Lib.hid (box_new w2 #[.int .i64 zN.k, .string zN.n, .string zN.x, .string zN.d, .int .i64 zN.c, .int .i64 zN.s, .int .i64 zN.e, .int .i64 zN.t, .bool zN.o, .slice pi zN.l.length ei, .slice pz zN.z.length ez] 25)
  have HX' := Lib.hid ((Below.heap_alloc w2 (.cells #[.int .i64 zN.k, .string zN.n, .string zN.x, .string zN.d, .int .i64 zN.c, .int .i64 zN.s, .int .i64 zN.e, .int .i64 zN.t, .bool zN.o, .slice pi zN.l.length ei, .slice pz zN.z.length ez] 25) _ (heap_lt HX.out)).trans HX.out)
  clear HX
  have HX := HX'
  clear HX'
  have HB2a := Lib.hid (HB2.out.alloc HB2.out.size (.cells #[.int .i64 zN.k, .string zN.n, .string zN.x, .string zN.d, .int .i64 zN.c, .int .i64 zN.s, .int .i64 zN.e, .int .i64 zN.t, .bool zN.o, .slice pi zN.l.length ei, .slice pz zN.z.length ez] 25))
  clear HP
  obtain ⟨m0, m1, m2, m3, m4, m5, m6, m7, m8, m9, m10⟩ := bx11 HX.out
  go_wp2_with fail
  refine (lnum_any _ _).mono ?_
  rintro e wz ⟨rfl, hw⟩
  have hw := hw.symm
  subst hw
  go_wp2_with fail
  refine (CP.out _ (HG.out _ HB2a.out) ((HR.out _ HB2a.out).small HS1.out (by decide))).mono ?_
  rintro e w3 ⟨rfl, hb⟩
  clear m0 m1 m2 m3 m4 m5 m6 m7 m8 m9 m10
  have HX' := Lib.hid ((hb.block _ (heap_lt HX.out)).trans HX.out)
  clear HX
  have HX := HX'
  clear HX'
  have HB3 := Lib.hid (HB2a.out.trans (hb.mono HB2a.out.size))
  clear hb
  obtain ⟨m0, m1, m2, m3, m4, m5, m6, m7, m8, m9, m10⟩ := bx11 HX.out
  go_wp2_with fail
  clear CP
  refine (lnum_any _ _).mono ?_
  rintro e wz ⟨rfl, hw⟩
  have hw := hw.symm
  subst hw
  go_wp2_with fail
  refine (L.out _ (HG.out _ HB3.out)).mono ?_
  rintro e w4 ⟨rfl, hb⟩
  clear m0 m1 m2 m3 m4 m5 m6 m7 m8 m9 m10
  have HX' := Lib.hid ((hb.block _ (heap_lt HX.out)).trans HX.out)
  clear HX
  have HX := HX'
  clear HX'
  have HB4 := Lib.hid (HB3.out.trans (hb.mono HB3.out.size))
  clear hb
  obtain ⟨m0, m1, m2, m3, m4, m5, m6, m7, m8, m9, m10⟩ := bx11 HX.out
  go_wp2_with fail
  go_ret
  exact ⟨rfl, HB4.out⟩
set_option maxRecDepth 100000 in
set_option maxHeartbeats 8000000 in
theorem cut_p0_k21 (n : Nt) (ai az : Option Addr) (ci cz : Nat) (b : ByteArray) (ch : Int) (A : ByteArray) (cut : Int) (w : World) (h : NtR w ai az n) (hG : Gp w) (s1 : lprs ch b = zN) (s2 : lprsE ch b = 140) (p1 : lputC n 0 = 2) (p2 : lputB n 0 = A) (p3 : lputX n 0 = 0) (_zA : A.size ≤ 1000000) (hk : n.k = 21) (hb : ¬ 12000 < b.size) : Calls Tryd.prog 4 #[.int .i64 ch, .string b, nA n ai az ci cz, .int .i64 cut] w (OkL w) := by
  unfold nA
  have hk' := hk
  rw [hk]
  have HX := Lib.hid (box_new w #[.int .i64 21, .string n.n, .string n.x, .string n.d, .int .i64 n.c, .int .i64 n.s, .int .i64 n.e, .int .i64 n.t, .bool n.o, .slice ai n.l.length ci, .slice az n.z.length cz] 25)
  have HB0 : Hid (Below w.heap.size w (w.alloc (.cells #[.int .i64 21, .string n.n, .string n.x, .string n.d, .int .i64 n.c, .int .i64 n.s, .int .i64 n.e, .int .i64 n.t, .bool n.o, .slice ai n.l.length ci, .slice az n.z.length cz] 25))) := (Below.refl _ w).alloc (Nat.le_refl _) _
  have HG := Lib.hid (fun W (hb : Below w.heap.size w W) => hG.below hb)
  have L := Lib.hid (fun W (g : Gp W) => live_any W g)
  have HR := Lib.hid (fun W (hb : Below w.heap.size w W) => h.below hb)
  have CS : Hid (∀ W, Below w.heap.size w W → Calls Tryd.prog 6 #[.agg #[.int .i64 21, .string n.n, .string n.x, .string n.d, .int .i64 n.c, .int .i64 n.s, .int .i64 n.e, .int .i64 n.t, .bool n.o, .slice ai n.l.length ci, .slice az n.z.length cz]] W (SmlP n W)) := fun W hb => by
    have k := small_any n ai az ci cz W (h.below hb)
    unfold nA at k
    rw [hk] at k
    exact k
  have CA : Hid (∀ W, Gp W → Calls Tryd.prog 10 #[.int .i64 ch, .string b] W (LpP zN 140 W)) := fun W g => by
    have k := lparse_any ch b W g (by omega)
    rw [s1, s2] at k
    exact k
  have CP : Hid (∀ W, Gp W → NtL W ai az n → Calls Tryd.prog 8 #[.agg #[.int .i64 21, .string n.n, .string n.x, .string n.d, .int .i64 n.c, .int .i64 n.s, .int .i64 n.e, .int .i64 n.t, .bool n.o, .slice ai n.l.length ci, .slice az n.z.length cz], .int .i64 0] W (Gives (.tuple #[.int .i64 2, .string A, .int .i64 0]) W)) := fun W g hl => by
    have k := lput_any n 0 ai az ci cz W hl g
    rw [p1, p2, p3] at k
    unfold nA at k
    rw [hk] at k
    exact k
  have q1 : ¬ ((12000 : Int) < b.size) := by omega
  have hbm : b.size ≤ 12000 := by omega
  clear h hG s1 s2 p1 p2 p3 hk hb
  obtain ⟨m0, m1, m2, m3, m4, m5, m6, m7, m8, m9, m10⟩ := bx11 HX.out
  go_enter Tryd.func4, Tryd.ntmps4
  go_wp2_with fail
  refine (CS.out _ HB0.out).mono ?_
  rintro e w1 ⟨yn, rfl, hb, hs⟩
  clear m0 m1 m2 m3 m4 m5 m6 m7 m8 m9 m10
  have HX' := Lib.hid ((hb.block _ (heap_lt HX.out)).trans HX.out)
  clear HX
  have HX := HX'
  clear HX'
  have HB1 := Lib.hid (HB0.out.trans (hb.mono HB0.out.size))
  have HS := Lib.hid hs
  clear hb hs
  clear CS
  skip
  cases yn
  · skip
    clear HS HR CA CP
    obtain ⟨m0, m1, m2, m3, m4, m5, m6, m7, m8, m9, m10⟩ := bx11 HX.out
    go_wp2_with fail
    refine (L.out _ (HG.out _ HB1.out)).mono ?_
    rintro e w2 ⟨rfl, hb⟩
    clear m0 m1 m2 m3 m4 m5 m6 m7 m8 m9 m10
    have HX' := Lib.hid ((hb.block _ (heap_lt HX.out)).trans HX.out)
    clear HX
    have HX := HX'
    clear HX'
    have HB2 := Lib.hid (HB1.out.trans (hb.mono HB1.out.size))
    clear hb
    obtain ⟨m0, m1, m2, m3, m4, m5, m6, m7, m8, m9, m10⟩ := bx11 HX.out
    go_wp2_with fail
    go_ret
    exact ⟨rfl, HB2.out⟩
  have HS1 := Lib.hid (HS.out rfl)
  clear HS
  obtain ⟨m0, m1, m2, m3, m4, m5, m6, m7, m8, m9, m10⟩ := bx11 HX.out
  go_wp2_with fail
  refine (CA.out _ (HG.out _ HB1.out)).mono ?_
  rintro e w2 ⟨pi, pz, ei, ez, rfl, hb, hI, hZ, -, -⟩
  clear m0 m1 m2 m3 m4 m5 m6 m7 m8 m9 m10
  have HX' := Lib.hid ((hb.block _ (heap_lt HX.out)).trans HX.out)
  clear HX
  have HX := HX'
  clear HX'
  have HB2 := Lib.hid (HB1.out.trans (hb.mono HB1.out.size))
  have HP : Hid (ItS w2 pi zN.l ∧ CdS w2 pz zN.z) := ⟨hI, hZ⟩
  clear hb hI hZ
  clear CA HP
  unfold nA
  have HP := Lib.hid (box_new w2 #[.int .i64 zN.k, .string zN.n, .string zN.x, .string zN.d, .int .i64 zN.c, .int .i64 zN.s, .int .i64 zN.e, .int .i64 zN.t, .bool zN.o, .slice pi zN.l.length ei, .slice pz zN.z.length ez] 25)
  have HX' := Lib.hid ((Below.heap_alloc w2 (.cells #[.int .i64 zN.k, .string zN.n, .string zN.x, .string zN.d, .int .i64 zN.c, .int .i64 zN.s, .int .i64 zN.e, .int .i64 zN.t, .bool zN.o, .slice pi zN.l.length ei, .slice pz zN.z.length ez] 25) _ (heap_lt HX.out)).trans HX.out)
  clear HX
  have HX := HX'
  clear HX'
  have HB2a := Lib.hid (HB2.out.alloc HB2.out.size (.cells #[.int .i64 zN.k, .string zN.n, .string zN.x, .string zN.d, .int .i64 zN.c, .int .i64 zN.s, .int .i64 zN.e, .int .i64 zN.t, .bool zN.o, .slice pi zN.l.length ei, .slice pz zN.z.length ez] 25))
  clear HP
  obtain ⟨m0, m1, m2, m3, m4, m5, m6, m7, m8, m9, m10⟩ := bx11 HX.out
  go_wp2_with fail
  refine (lnum_any _ _).mono ?_
  rintro e wz ⟨rfl, hw⟩
  have hw := hw.symm
  subst hw
  go_wp2_with fail
  refine (CP.out _ (HG.out _ HB2a.out) ((HR.out _ HB2a.out).small HS1.out (by decide))).mono ?_
  rintro e w3 ⟨rfl, hb⟩
  clear m0 m1 m2 m3 m4 m5 m6 m7 m8 m9 m10
  have HX' := Lib.hid ((hb.block _ (heap_lt HX.out)).trans HX.out)
  clear HX
  have HX := HX'
  clear HX'
  have HB3 := Lib.hid (HB2a.out.trans (hb.mono HB2a.out.size))
  clear hb
  obtain ⟨m0, m1, m2, m3, m4, m5, m6, m7, m8, m9, m10⟩ := bx11 HX.out
  go_wp2_with fail
  clear CP
  refine (lnum_any _ _).mono ?_
  rintro e wz ⟨rfl, hw⟩
  have hw := hw.symm
  subst hw
  go_wp2_with fail
  refine (L.out _ (HG.out _ HB3.out)).mono ?_
  rintro e w4 ⟨rfl, hb⟩
  clear m0 m1 m2 m3 m4 m5 m6 m7 m8 m9 m10
  have HX' := Lib.hid ((hb.block _ (heap_lt HX.out)).trans HX.out)
  clear HX
  have HX := HX'
  clear HX'
  have HB4 := Lib.hid (HB3.out.trans (hb.mono HB3.out.size))
  clear hb
  obtain ⟨m0, m1, m2, m3, m4, m5, m6, m7, m8, m9, m10⟩ := bx11 HX.out
  go_wp2_with fail
  go_ret
  exact ⟨rfl, HB4.out⟩
set_option maxRecDepth 100000 in
set_option maxHeartbeats 8000000 in
theorem cut_p0_k22 (n : Nt) (ai az : Option Addr) (ci cz : Nat) (b : ByteArray) (ch : Int) (A : ByteArray) (cut : Int) (w : World) (h : NtR w ai az n) (hG : Gp w) (s1 : lprs ch b = zN) (s2 : lprsE ch b = 140) (p1 : lputC n 0 = 2) (p2 : lputB n 0 = A) (p3 : lputX n 0 = 0) (_zA : A.size ≤ 1000000) (hk : n.k = 22) (hb : ¬ 12000 < b.size) : Calls Tryd.prog 4 #[.int .i64 ch, .string b, nA n ai az ci cz, .int .i64 cut] w (OkL w) := by
  unfold nA
  have hk' := hk
  rw [hk]
  have HX := Lib.hid (box_new w #[.int .i64 22, .string n.n, .string n.x, .string n.d, .int .i64 n.c, .int .i64 n.s, .int .i64 n.e, .int .i64 n.t, .bool n.o, .slice ai n.l.length ci, .slice az n.z.length cz] 25)
  have HB0 : Hid (Below w.heap.size w (w.alloc (.cells #[.int .i64 22, .string n.n, .string n.x, .string n.d, .int .i64 n.c, .int .i64 n.s, .int .i64 n.e, .int .i64 n.t, .bool n.o, .slice ai n.l.length ci, .slice az n.z.length cz] 25))) := (Below.refl _ w).alloc (Nat.le_refl _) _
  have HG := Lib.hid (fun W (hb : Below w.heap.size w W) => hG.below hb)
  have L := Lib.hid (fun W (g : Gp W) => live_any W g)
  have HR := Lib.hid (fun W (hb : Below w.heap.size w W) => h.below hb)
  have CS : Hid (∀ W, Below w.heap.size w W → Calls Tryd.prog 6 #[.agg #[.int .i64 22, .string n.n, .string n.x, .string n.d, .int .i64 n.c, .int .i64 n.s, .int .i64 n.e, .int .i64 n.t, .bool n.o, .slice ai n.l.length ci, .slice az n.z.length cz]] W (SmlP n W)) := fun W hb => by
    have k := small_any n ai az ci cz W (h.below hb)
    unfold nA at k
    rw [hk] at k
    exact k
  have CA : Hid (∀ W, Gp W → Calls Tryd.prog 10 #[.int .i64 ch, .string b] W (LpP zN 140 W)) := fun W g => by
    have k := lparse_any ch b W g (by omega)
    rw [s1, s2] at k
    exact k
  have CP : Hid (∀ W, Gp W → NtL W ai az n → Calls Tryd.prog 8 #[.agg #[.int .i64 22, .string n.n, .string n.x, .string n.d, .int .i64 n.c, .int .i64 n.s, .int .i64 n.e, .int .i64 n.t, .bool n.o, .slice ai n.l.length ci, .slice az n.z.length cz], .int .i64 0] W (Gives (.tuple #[.int .i64 2, .string A, .int .i64 0]) W)) := fun W g hl => by
    have k := lput_any n 0 ai az ci cz W hl g
    rw [p1, p2, p3] at k
    unfold nA at k
    rw [hk] at k
    exact k
  have q1 : ¬ ((12000 : Int) < b.size) := by omega
  have hbm : b.size ≤ 12000 := by omega
  clear h hG s1 s2 p1 p2 p3 hk hb
  obtain ⟨m0, m1, m2, m3, m4, m5, m6, m7, m8, m9, m10⟩ := bx11 HX.out
  go_enter Tryd.func4, Tryd.ntmps4
  go_wp2_with fail
  refine (CS.out _ HB0.out).mono ?_
  rintro e w1 ⟨yn, rfl, hb, hs⟩
  clear m0 m1 m2 m3 m4 m5 m6 m7 m8 m9 m10
  have HX' := Lib.hid ((hb.block _ (heap_lt HX.out)).trans HX.out)
  clear HX
  have HX := HX'
  clear HX'
  have HB1 := Lib.hid (HB0.out.trans (hb.mono HB0.out.size))
  have HS := Lib.hid hs
  clear hb hs
  clear CS
  skip
  cases yn
  · skip
    clear HS HR CA CP
    obtain ⟨m0, m1, m2, m3, m4, m5, m6, m7, m8, m9, m10⟩ := bx11 HX.out
    go_wp2_with fail
    refine (L.out _ (HG.out _ HB1.out)).mono ?_
    rintro e w2 ⟨rfl, hb⟩
    clear m0 m1 m2 m3 m4 m5 m6 m7 m8 m9 m10
    have HX' := Lib.hid ((hb.block _ (heap_lt HX.out)).trans HX.out)
    clear HX
    have HX := HX'
    clear HX'
    have HB2 := Lib.hid (HB1.out.trans (hb.mono HB1.out.size))
    clear hb
    obtain ⟨m0, m1, m2, m3, m4, m5, m6, m7, m8, m9, m10⟩ := bx11 HX.out
    go_wp2_with fail
    go_ret
    exact ⟨rfl, HB2.out⟩
  have HS1 := Lib.hid (HS.out rfl)
  clear HS
  obtain ⟨m0, m1, m2, m3, m4, m5, m6, m7, m8, m9, m10⟩ := bx11 HX.out
  go_wp2_with fail
  refine (CA.out _ (HG.out _ HB1.out)).mono ?_
  rintro e w2 ⟨pi, pz, ei, ez, rfl, hb, hI, hZ, -, -⟩
  clear m0 m1 m2 m3 m4 m5 m6 m7 m8 m9 m10
  have HX' := Lib.hid ((hb.block _ (heap_lt HX.out)).trans HX.out)
  clear HX
  have HX := HX'
  clear HX'
  have HB2 := Lib.hid (HB1.out.trans (hb.mono HB1.out.size))
  have HP : Hid (ItS w2 pi zN.l ∧ CdS w2 pz zN.z) := ⟨hI, hZ⟩
  clear hb hI hZ
  clear CA HP
  unfold nA
  have HP := Lib.hid (box_new w2 #[.int .i64 zN.k, .string zN.n, .string zN.x, .string zN.d, .int .i64 zN.c, .int .i64 zN.s, .int .i64 zN.e, .int .i64 zN.t, .bool zN.o, .slice pi zN.l.length ei, .slice pz zN.z.length ez] 25)
  have HX' := Lib.hid ((Below.heap_alloc w2 (.cells #[.int .i64 zN.k, .string zN.n, .string zN.x, .string zN.d, .int .i64 zN.c, .int .i64 zN.s, .int .i64 zN.e, .int .i64 zN.t, .bool zN.o, .slice pi zN.l.length ei, .slice pz zN.z.length ez] 25) _ (heap_lt HX.out)).trans HX.out)
  clear HX
  have HX := HX'
  clear HX'
  have HB2a := Lib.hid (HB2.out.alloc HB2.out.size (.cells #[.int .i64 zN.k, .string zN.n, .string zN.x, .string zN.d, .int .i64 zN.c, .int .i64 zN.s, .int .i64 zN.e, .int .i64 zN.t, .bool zN.o, .slice pi zN.l.length ei, .slice pz zN.z.length ez] 25))
  clear HP
  obtain ⟨m0, m1, m2, m3, m4, m5, m6, m7, m8, m9, m10⟩ := bx11 HX.out
  go_wp2_with fail
  refine (lnum_any _ _).mono ?_
  rintro e wz ⟨rfl, hw⟩
  have hw := hw.symm
  subst hw
  go_wp2_with fail
  refine (CP.out _ (HG.out _ HB2a.out) ((HR.out _ HB2a.out).small HS1.out (by decide))).mono ?_
  rintro e w3 ⟨rfl, hb⟩
  clear m0 m1 m2 m3 m4 m5 m6 m7 m8 m9 m10
  have HX' := Lib.hid ((hb.block _ (heap_lt HX.out)).trans HX.out)
  clear HX
  have HX := HX'
  clear HX'
  have HB3 := Lib.hid (HB2a.out.trans (hb.mono HB2a.out.size))
  clear hb
  obtain ⟨m0, m1, m2, m3, m4, m5, m6, m7, m8, m9, m10⟩ := bx11 HX.out
  go_wp2_with fail
  clear CP
  refine (lnum_any _ _).mono ?_
  rintro e wz ⟨rfl, hw⟩
  have hw := hw.symm
  subst hw
  go_wp2_with fail
  refine (L.out _ (HG.out _ HB3.out)).mono ?_
  rintro e w4 ⟨rfl, hb⟩
  clear m0 m1 m2 m3 m4 m5 m6 m7 m8 m9 m10
  have HX' := Lib.hid ((hb.block _ (heap_lt HX.out)).trans HX.out)
  clear HX
  have HX := HX'
  clear HX'
  have HB4 := Lib.hid (HB3.out.trans (hb.mono HB3.out.size))
  clear hb
  obtain ⟨m0, m1, m2, m3, m4, m5, m6, m7, m8, m9, m10⟩ := bx11 HX.out
  go_wp2_with fail
  go_ret
  exact ⟨rfl, HB4.out⟩
set_option maxRecDepth 100000 in
set_option maxHeartbeats 8000000 in
theorem cut_p0_k25 (n : Nt) (ai az : Option Addr) (ci cz : Nat) (b : ByteArray) (ch : Int) (A : ByteArray) (cut : Int) (w : World) (h : NtR w ai az n) (hG : Gp w) (s1 : lprs ch b = zN) (s2 : lprsE ch b = 140) (p1 : lputC n 0 = 2) (p2 : lputB n 0 = A) (p3 : lputX n 0 = 0) (_zA : A.size ≤ 1000000) (hk : n.k = 25) (hb : ¬ 12000 < b.size) : Calls Tryd.prog 4 #[.int .i64 ch, .string b, nA n ai az ci cz, .int .i64 cut] w (OkL w) := by
  unfold nA
  have hk' := hk
  rw [hk]
  have HX := Lib.hid (box_new w #[.int .i64 25, .string n.n, .string n.x, .string n.d, .int .i64 n.c, .int .i64 n.s, .int .i64 n.e, .int .i64 n.t, .bool n.o, .slice ai n.l.length ci, .slice az n.z.length cz] 25)
  have HB0 : Hid (Below w.heap.size w (w.alloc (.cells #[.int .i64 25, .string n.n, .string n.x, .string n.d, .int .i64 n.c, .int .i64 n.s, .int .i64 n.e, .int .i64 n.t, .bool n.o, .slice ai n.l.length ci, .slice az n.z.length cz] 25))) := (Below.refl _ w).alloc (Nat.le_refl _) _
  have HG := Lib.hid (fun W (hb : Below w.heap.size w W) => hG.below hb)
  have L := Lib.hid (fun W (g : Gp W) => live_any W g)
  have HR := Lib.hid (fun W (hb : Below w.heap.size w W) => h.below hb)
  have CS : Hid (∀ W, Below w.heap.size w W → Calls Tryd.prog 6 #[.agg #[.int .i64 25, .string n.n, .string n.x, .string n.d, .int .i64 n.c, .int .i64 n.s, .int .i64 n.e, .int .i64 n.t, .bool n.o, .slice ai n.l.length ci, .slice az n.z.length cz]] W (SmlP n W)) := fun W hb => by
    have k := small_any n ai az ci cz W (h.below hb)
    unfold nA at k
    rw [hk] at k
    exact k
  have CA : Hid (∀ W, Gp W → Calls Tryd.prog 10 #[.int .i64 ch, .string b] W (LpP zN 140 W)) := fun W g => by
    have k := lparse_any ch b W g (by omega)
    rw [s1, s2] at k
    exact k
  have CP : Hid (∀ W, Gp W → NtL W ai az n → Calls Tryd.prog 8 #[.agg #[.int .i64 25, .string n.n, .string n.x, .string n.d, .int .i64 n.c, .int .i64 n.s, .int .i64 n.e, .int .i64 n.t, .bool n.o, .slice ai n.l.length ci, .slice az n.z.length cz], .int .i64 0] W (Gives (.tuple #[.int .i64 2, .string A, .int .i64 0]) W)) := fun W g hl => by
    have k := lput_any n 0 ai az ci cz W hl g
    rw [p1, p2, p3] at k
    unfold nA at k
    rw [hk] at k
    exact k
  have q1 : ¬ ((12000 : Int) < b.size) := by omega
  have hbm : b.size ≤ 12000 := by omega
  clear h hG s1 s2 p1 p2 p3 hk hb
  obtain ⟨m0, m1, m2, m3, m4, m5, m6, m7, m8, m9, m10⟩ := bx11 HX.out
  go_enter Tryd.func4, Tryd.ntmps4
  go_wp2_with fail
  refine (CS.out _ HB0.out).mono ?_
  rintro e w1 ⟨yn, rfl, hb, hs⟩
  clear m0 m1 m2 m3 m4 m5 m6 m7 m8 m9 m10
  have HX' := Lib.hid ((hb.block _ (heap_lt HX.out)).trans HX.out)
  clear HX
  have HX := HX'
  clear HX'
  have HB1 := Lib.hid (HB0.out.trans (hb.mono HB0.out.size))
  have HS := Lib.hid hs
  clear hb hs
  clear CS
  skip
  cases yn
  · skip
    clear HS HR CA CP
    obtain ⟨m0, m1, m2, m3, m4, m5, m6, m7, m8, m9, m10⟩ := bx11 HX.out
    go_wp2_with fail
    refine (L.out _ (HG.out _ HB1.out)).mono ?_
    rintro e w2 ⟨rfl, hb⟩
    clear m0 m1 m2 m3 m4 m5 m6 m7 m8 m9 m10
    have HX' := Lib.hid ((hb.block _ (heap_lt HX.out)).trans HX.out)
    clear HX
    have HX := HX'
    clear HX'
    have HB2 := Lib.hid (HB1.out.trans (hb.mono HB1.out.size))
    clear hb
    obtain ⟨m0, m1, m2, m3, m4, m5, m6, m7, m8, m9, m10⟩ := bx11 HX.out
    go_wp2_with fail
    go_ret
    exact ⟨rfl, HB2.out⟩
  have HS1 := Lib.hid (HS.out rfl)
  clear HS
  obtain ⟨m0, m1, m2, m3, m4, m5, m6, m7, m8, m9, m10⟩ := bx11 HX.out
  go_wp2_with fail
  refine (CA.out _ (HG.out _ HB1.out)).mono ?_
  rintro e w2 ⟨pi, pz, ei, ez, rfl, hb, hI, hZ, -, -⟩
  clear m0 m1 m2 m3 m4 m5 m6 m7 m8 m9 m10
  have HX' := Lib.hid ((hb.block _ (heap_lt HX.out)).trans HX.out)
  clear HX
  have HX := HX'
  clear HX'
  have HB2 := Lib.hid (HB1.out.trans (hb.mono HB1.out.size))
  have HP : Hid (ItS w2 pi zN.l ∧ CdS w2 pz zN.z) := ⟨hI, hZ⟩
  clear hb hI hZ
  clear CA HP
  unfold nA
  have HP := Lib.hid (box_new w2 #[.int .i64 zN.k, .string zN.n, .string zN.x, .string zN.d, .int .i64 zN.c, .int .i64 zN.s, .int .i64 zN.e, .int .i64 zN.t, .bool zN.o, .slice pi zN.l.length ei, .slice pz zN.z.length ez] 25)
  have HX' := Lib.hid ((Below.heap_alloc w2 (.cells #[.int .i64 zN.k, .string zN.n, .string zN.x, .string zN.d, .int .i64 zN.c, .int .i64 zN.s, .int .i64 zN.e, .int .i64 zN.t, .bool zN.o, .slice pi zN.l.length ei, .slice pz zN.z.length ez] 25) _ (heap_lt HX.out)).trans HX.out)
  clear HX
  have HX := HX'
  clear HX'
  have HB2a := Lib.hid (HB2.out.alloc HB2.out.size (.cells #[.int .i64 zN.k, .string zN.n, .string zN.x, .string zN.d, .int .i64 zN.c, .int .i64 zN.s, .int .i64 zN.e, .int .i64 zN.t, .bool zN.o, .slice pi zN.l.length ei, .slice pz zN.z.length ez] 25))
  clear HP
  obtain ⟨m0, m1, m2, m3, m4, m5, m6, m7, m8, m9, m10⟩ := bx11 HX.out
  go_wp2_with fail
  refine (lnum_any _ _).mono ?_
  rintro e wz ⟨rfl, hw⟩
  have hw := hw.symm
  subst hw
  go_wp2_with fail
  refine (CP.out _ (HG.out _ HB2a.out) ((HR.out _ HB2a.out).small HS1.out (by decide))).mono ?_
  rintro e w3 ⟨rfl, hb⟩
  clear m0 m1 m2 m3 m4 m5 m6 m7 m8 m9 m10
  have HX' := Lib.hid ((hb.block _ (heap_lt HX.out)).trans HX.out)
  clear HX
  have HX := HX'
  clear HX'
  have HB3 := Lib.hid (HB2a.out.trans (hb.mono HB2a.out.size))
  clear hb
  obtain ⟨m0, m1, m2, m3, m4, m5, m6, m7, m8, m9, m10⟩ := bx11 HX.out
  go_wp2_with fail
  clear CP
  refine (lnum_any _ _).mono ?_
  rintro e wz ⟨rfl, hw⟩
  have hw := hw.symm
  subst hw
  go_wp2_with fail
  refine (L.out _ (HG.out _ HB3.out)).mono ?_
  rintro e w4 ⟨rfl, hb⟩
  clear m0 m1 m2 m3 m4 m5 m6 m7 m8 m9 m10
  have HX' := Lib.hid ((hb.block _ (heap_lt HX.out)).trans HX.out)
  clear HX
  have HX := HX'
  clear HX'
  have HB4 := Lib.hid (HB3.out.trans (hb.mono HB3.out.size))
  clear hb
  obtain ⟨m0, m1, m2, m3, m4, m5, m6, m7, m8, m9, m10⟩ := bx11 HX.out
  go_wp2_with fail
  go_ret
  exact ⟨rfl, HB4.out⟩
set_option maxRecDepth 100000 in
set_option maxHeartbeats 8000000 in
theorem cut_p0_neg (n : Nt) (ai az : Option Addr) (ci cz : Nat) (b : ByteArray) (ch : Int) (A : ByteArray) (cut : Int) (w : World) (h : NtR w ai az n) (hG : Gp w) (s1 : lprs ch b = zN) (s2 : lprsE ch b = 140) (p1 : lputC n 0 = 2) (p2 : lputB n 0 = A) (p3 : lputX n 0 = 0) (_zA : A.size ≤ 1000000) (k20 : n.k ≠ 20) (k21 : n.k ≠ 21) (k22 : n.k ≠ 22) (k25 : n.k ≠ 25) (hc : cut < 0) (hb : ¬ 12000 < b.size) : Calls Tryd.prog 4 #[.int .i64 ch, .string b, nA n ai az ci cz, .int .i64 cut] w (OkL w) := by
  unfold nA
  have HX := Lib.hid (box_new w #[.int .i64 n.k, .string n.n, .string n.x, .string n.d, .int .i64 n.c, .int .i64 n.s, .int .i64 n.e, .int .i64 n.t, .bool n.o, .slice ai n.l.length ci, .slice az n.z.length cz] 25)
  have HB0 : Hid (Below w.heap.size w (w.alloc (.cells #[.int .i64 n.k, .string n.n, .string n.x, .string n.d, .int .i64 n.c, .int .i64 n.s, .int .i64 n.e, .int .i64 n.t, .bool n.o, .slice ai n.l.length ci, .slice az n.z.length cz] 25))) := (Below.refl _ w).alloc (Nat.le_refl _) _
  have HG := Lib.hid (fun W (hb : Below w.heap.size w W) => hG.below hb)
  have L := Lib.hid (fun W (g : Gp W) => live_any W g)
  have HR := Lib.hid (fun W (hb : Below w.heap.size w W) => h.below hb)
  have CS : Hid (∀ W, Below w.heap.size w W → Calls Tryd.prog 6 #[.agg #[.int .i64 n.k, .string n.n, .string n.x, .string n.d, .int .i64 n.c, .int .i64 n.s, .int .i64 n.e, .int .i64 n.t, .bool n.o, .slice ai n.l.length ci, .slice az n.z.length cz]] W (SmlP n W)) := fun W hb => by
    have k := small_any n ai az ci cz W (h.below hb)
    exact k
  have CA : Hid (∀ W, Gp W → Calls Tryd.prog 10 #[.int .i64 ch, .string b] W (LpP zN 140 W)) := fun W g => by
    have k := lparse_any ch b W g (by omega)
    rw [s1, s2] at k
    exact k
  have f20 := beq_eq_false_iff_ne.2 k20
  have f21 := beq_eq_false_iff_ne.2 k21
  have f22 := beq_eq_false_iff_ne.2 k22
  have f25 := beq_eq_false_iff_ne.2 k25
  have CP : Hid (∀ W, Gp W → NtL W ai az n → Calls Tryd.prog 8 #[.agg #[.int .i64 n.k, .string n.n, .string n.x, .string n.d, .int .i64 n.c, .int .i64 n.s, .int .i64 n.e, .int .i64 n.t, .bool n.o, .slice ai n.l.length ci, .slice az n.z.length cz], .int .i64 0] W (Gives (.tuple #[.int .i64 2, .string A, .int .i64 0]) W)) := fun W g hl => by
    have k := lput_any n 0 ai az ci cz W hl g
    rw [p1, p2, p3] at k
    exact k
  have q1 : ¬ ((12000 : Int) < b.size) := by omega
  have hbm : b.size ≤ 12000 := by omega
  clear h hG s1 s2 p1 p2 p3 k20 k21 k22 k25 hb
  obtain ⟨m0, m1, m2, m3, m4, m5, m6, m7, m8, m9, m10⟩ := bx11 HX.out
  go_enter Tryd.func4, Tryd.ntmps4
  go_wp2_with fail
  refine (CS.out _ HB0.out).mono ?_
  rintro e w1 ⟨yn, rfl, hb, hs⟩
  clear m0 m1 m2 m3 m4 m5 m6 m7 m8 m9 m10
  have HX' := Lib.hid ((hb.block _ (heap_lt HX.out)).trans HX.out)
  clear HX
  have HX := HX'
  clear HX'
  have HB1 := Lib.hid (HB0.out.trans (hb.mono HB0.out.size))
  have HS := Lib.hid hs
  clear hb hs
  clear CS
  skip
  cases yn
  · skip
    clear HS HR CA CP
    obtain ⟨m0, m1, m2, m3, m4, m5, m6, m7, m8, m9, m10⟩ := bx11 HX.out
    go_wp2_with fail
    refine (L.out _ (HG.out _ HB1.out)).mono ?_
    rintro e w2 ⟨rfl, hb⟩
    clear m0 m1 m2 m3 m4 m5 m6 m7 m8 m9 m10
    have HX' := Lib.hid ((hb.block _ (heap_lt HX.out)).trans HX.out)
    clear HX
    have HX := HX'
    clear HX'
    have HB2 := Lib.hid (HB1.out.trans (hb.mono HB1.out.size))
    clear hb
    obtain ⟨m0, m1, m2, m3, m4, m5, m6, m7, m8, m9, m10⟩ := bx11 HX.out
    go_wp2_with fail
    go_ret
    exact ⟨rfl, HB2.out⟩
  have HS1 := Lib.hid (HS.out rfl)
  clear HS
  obtain ⟨m0, m1, m2, m3, m4, m5, m6, m7, m8, m9, m10⟩ := bx11 HX.out
  go_wp2_with fail
  refine (CA.out _ (HG.out _ HB1.out)).mono ?_
  rintro e w2 ⟨pi, pz, ei, ez, rfl, hb, hI, hZ, -, -⟩
  clear m0 m1 m2 m3 m4 m5 m6 m7 m8 m9 m10
  have HX' := Lib.hid ((hb.block _ (heap_lt HX.out)).trans HX.out)
  clear HX
  have HX := HX'
  clear HX'
  have HB2 := Lib.hid (HB1.out.trans (hb.mono HB1.out.size))
  have HP : Hid (ItS w2 pi zN.l ∧ CdS w2 pz zN.z) := ⟨hI, hZ⟩
  clear hb hI hZ
  clear CA HP
  unfold nA
  have HP := Lib.hid (box_new w2 #[.int .i64 zN.k, .string zN.n, .string zN.x, .string zN.d, .int .i64 zN.c, .int .i64 zN.s, .int .i64 zN.e, .int .i64 zN.t, .bool zN.o, .slice pi zN.l.length ei, .slice pz zN.z.length ez] 25)
  have HX' := Lib.hid ((Below.heap_alloc w2 (.cells #[.int .i64 zN.k, .string zN.n, .string zN.x, .string zN.d, .int .i64 zN.c, .int .i64 zN.s, .int .i64 zN.e, .int .i64 zN.t, .bool zN.o, .slice pi zN.l.length ei, .slice pz zN.z.length ez] 25) _ (heap_lt HX.out)).trans HX.out)
  clear HX
  have HX := HX'
  clear HX'
  have HB2a := Lib.hid (HB2.out.alloc HB2.out.size (.cells #[.int .i64 zN.k, .string zN.n, .string zN.x, .string zN.d, .int .i64 zN.c, .int .i64 zN.s, .int .i64 zN.e, .int .i64 zN.t, .bool zN.o, .slice pi zN.l.length ei, .slice pz zN.z.length ez] 25))
  clear HP
  obtain ⟨m0, m1, m2, m3, m4, m5, m6, m7, m8, m9, m10⟩ := bx11 HX.out
  go_wp2_with fail
  refine (lnum_any _ _).mono ?_
  rintro e wz ⟨rfl, hw⟩
  have hw := hw.symm
  subst hw
  go_wp2_with fail
  refine (CP.out _ (HG.out _ HB2a.out) ((HR.out _ HB2a.out).small HS1.out (by decide))).mono ?_
  rintro e w3 ⟨rfl, hb⟩
  clear m0 m1 m2 m3 m4 m5 m6 m7 m8 m9 m10
  have HX' := Lib.hid ((hb.block _ (heap_lt HX.out)).trans HX.out)
  clear HX
  have HX := HX'
  clear HX'
  have HB3 := Lib.hid (HB2a.out.trans (hb.mono HB2a.out.size))
  clear hb
  obtain ⟨m0, m1, m2, m3, m4, m5, m6, m7, m8, m9, m10⟩ := bx11 HX.out
  go_wp2_with fail
  clear CP
  refine (lnum_any _ _).mono ?_
  rintro e wz ⟨rfl, hw⟩
  have hw := hw.symm
  subst hw
  go_wp2_with fail
  refine (L.out _ (HG.out _ HB3.out)).mono ?_
  rintro e w4 ⟨rfl, hb⟩
  clear m0 m1 m2 m3 m4 m5 m6 m7 m8 m9 m10
  have HX' := Lib.hid ((hb.block _ (heap_lt HX.out)).trans HX.out)
  clear HX
  have HX := HX'
  clear HX'
  have HB4 := Lib.hid (HB3.out.trans (hb.mono HB3.out.size))
  clear hb
  obtain ⟨m0, m1, m2, m3, m4, m5, m6, m7, m8, m9, m10⟩ := bx11 HX.out
  go_wp2_with fail
  go_ret
  exact ⟨rfl, HB4.out⟩
set_option maxRecDepth 100000 in
set_option maxHeartbeats 8000000 in
theorem cut_p0_long (n : Nt) (ai az : Option Addr) (ci cz : Nat) (b : ByteArray) (ch : Int) (A : ByteArray) (cut : Int) (w : World) (h : NtR w ai az n) (hG : Gp w) (s1 : lprs ch b = zN) (s2 : lprsE ch b = 140) (p1 : lputC n 0 = 2) (p2 : lputB n 0 = A) (p3 : lputX n 0 = 0) (_zA : A.size ≤ 1000000) (k20 : n.k ≠ 20) (k21 : n.k ≠ 21) (k22 : n.k ≠ 22) (k25 : n.k ≠ 25) (hc : ¬ cut < 0) (hd : (A.size : Int) ≤ cut) (hb : ¬ 12000 < b.size) : Calls Tryd.prog 4 #[.int .i64 ch, .string b, nA n ai az ci cz, .int .i64 cut] w (OkL w) := by
  unfold nA
  have HX := Lib.hid (box_new w #[.int .i64 n.k, .string n.n, .string n.x, .string n.d, .int .i64 n.c, .int .i64 n.s, .int .i64 n.e, .int .i64 n.t, .bool n.o, .slice ai n.l.length ci, .slice az n.z.length cz] 25)
  have HB0 : Hid (Below w.heap.size w (w.alloc (.cells #[.int .i64 n.k, .string n.n, .string n.x, .string n.d, .int .i64 n.c, .int .i64 n.s, .int .i64 n.e, .int .i64 n.t, .bool n.o, .slice ai n.l.length ci, .slice az n.z.length cz] 25))) := (Below.refl _ w).alloc (Nat.le_refl _) _
  have HG := Lib.hid (fun W (hb : Below w.heap.size w W) => hG.below hb)
  have L := Lib.hid (fun W (g : Gp W) => live_any W g)
  have HR := Lib.hid (fun W (hb : Below w.heap.size w W) => h.below hb)
  have CS : Hid (∀ W, Below w.heap.size w W → Calls Tryd.prog 6 #[.agg #[.int .i64 n.k, .string n.n, .string n.x, .string n.d, .int .i64 n.c, .int .i64 n.s, .int .i64 n.e, .int .i64 n.t, .bool n.o, .slice ai n.l.length ci, .slice az n.z.length cz]] W (SmlP n W)) := fun W hb => by
    have k := small_any n ai az ci cz W (h.below hb)
    exact k
  have CA : Hid (∀ W, Gp W → Calls Tryd.prog 10 #[.int .i64 ch, .string b] W (LpP zN 140 W)) := fun W g => by
    have k := lparse_any ch b W g (by omega)
    rw [s1, s2] at k
    exact k
  have f20 := beq_eq_false_iff_ne.2 k20
  have f21 := beq_eq_false_iff_ne.2 k21
  have f22 := beq_eq_false_iff_ne.2 k22
  have f25 := beq_eq_false_iff_ne.2 k25
  have CP : Hid (∀ W, Gp W → NtL W ai az n → Calls Tryd.prog 8 #[.agg #[.int .i64 n.k, .string n.n, .string n.x, .string n.d, .int .i64 n.c, .int .i64 n.s, .int .i64 n.e, .int .i64 n.t, .bool n.o, .slice ai n.l.length ci, .slice az n.z.length cz], .int .i64 0] W (Gives (.tuple #[.int .i64 2, .string A, .int .i64 0]) W)) := fun W g hl => by
    have k := lput_any n 0 ai az ci cz W hl g
    rw [p1, p2, p3] at k
    exact k
  have q1 : ¬ ((12000 : Int) < b.size) := by omega
  have hbm : b.size ≤ 12000 := by omega
  clear h hG s1 s2 p1 p2 p3 k20 k21 k22 k25 hb
  obtain ⟨m0, m1, m2, m3, m4, m5, m6, m7, m8, m9, m10⟩ := bx11 HX.out
  go_enter Tryd.func4, Tryd.ntmps4
  go_wp2_with fail
  refine (CS.out _ HB0.out).mono ?_
  rintro e w1 ⟨yn, rfl, hb, hs⟩
  clear m0 m1 m2 m3 m4 m5 m6 m7 m8 m9 m10
  have HX' := Lib.hid ((hb.block _ (heap_lt HX.out)).trans HX.out)
  clear HX
  have HX := HX'
  clear HX'
  have HB1 := Lib.hid (HB0.out.trans (hb.mono HB0.out.size))
  have HS := Lib.hid hs
  clear hb hs
  clear CS
  skip
  cases yn
  · skip
    clear HS HR CA CP
    obtain ⟨m0, m1, m2, m3, m4, m5, m6, m7, m8, m9, m10⟩ := bx11 HX.out
    go_wp2_with fail
    refine (L.out _ (HG.out _ HB1.out)).mono ?_
    rintro e w2 ⟨rfl, hb⟩
    clear m0 m1 m2 m3 m4 m5 m6 m7 m8 m9 m10
    have HX' := Lib.hid ((hb.block _ (heap_lt HX.out)).trans HX.out)
    clear HX
    have HX := HX'
    clear HX'
    have HB2 := Lib.hid (HB1.out.trans (hb.mono HB1.out.size))
    clear hb
    obtain ⟨m0, m1, m2, m3, m4, m5, m6, m7, m8, m9, m10⟩ := bx11 HX.out
    go_wp2_with fail
    go_ret
    exact ⟨rfl, HB2.out⟩
  have HS1 := Lib.hid (HS.out rfl)
  clear HS
  obtain ⟨m0, m1, m2, m3, m4, m5, m6, m7, m8, m9, m10⟩ := bx11 HX.out
  go_wp2_with fail
  refine (CA.out _ (HG.out _ HB1.out)).mono ?_
  rintro e w2 ⟨pi, pz, ei, ez, rfl, hb, hI, hZ, -, -⟩
  clear m0 m1 m2 m3 m4 m5 m6 m7 m8 m9 m10
  have HX' := Lib.hid ((hb.block _ (heap_lt HX.out)).trans HX.out)
  clear HX
  have HX := HX'
  clear HX'
  have HB2 := Lib.hid (HB1.out.trans (hb.mono HB1.out.size))
  have HP : Hid (ItS w2 pi zN.l ∧ CdS w2 pz zN.z) := ⟨hI, hZ⟩
  clear hb hI hZ
  clear CA HP
  unfold nA
  have HP := Lib.hid (box_new w2 #[.int .i64 zN.k, .string zN.n, .string zN.x, .string zN.d, .int .i64 zN.c, .int .i64 zN.s, .int .i64 zN.e, .int .i64 zN.t, .bool zN.o, .slice pi zN.l.length ei, .slice pz zN.z.length ez] 25)
  have HX' := Lib.hid ((Below.heap_alloc w2 (.cells #[.int .i64 zN.k, .string zN.n, .string zN.x, .string zN.d, .int .i64 zN.c, .int .i64 zN.s, .int .i64 zN.e, .int .i64 zN.t, .bool zN.o, .slice pi zN.l.length ei, .slice pz zN.z.length ez] 25) _ (heap_lt HX.out)).trans HX.out)
  clear HX
  have HX := HX'
  clear HX'
  have HB2a := Lib.hid (HB2.out.alloc HB2.out.size (.cells #[.int .i64 zN.k, .string zN.n, .string zN.x, .string zN.d, .int .i64 zN.c, .int .i64 zN.s, .int .i64 zN.e, .int .i64 zN.t, .bool zN.o, .slice pi zN.l.length ei, .slice pz zN.z.length ez] 25))
  clear HP
  obtain ⟨m0, m1, m2, m3, m4, m5, m6, m7, m8, m9, m10⟩ := bx11 HX.out
  go_wp2_with fail
  refine (lnum_any _ _).mono ?_
  rintro e wz ⟨rfl, hw⟩
  have hw := hw.symm
  subst hw
  go_wp2_with fail
  refine (CP.out _ (HG.out _ HB2a.out) ((HR.out _ HB2a.out).small HS1.out (by decide))).mono ?_
  rintro e w3 ⟨rfl, hb⟩
  clear m0 m1 m2 m3 m4 m5 m6 m7 m8 m9 m10
  have HX' := Lib.hid ((hb.block _ (heap_lt HX.out)).trans HX.out)
  clear HX
  have HX := HX'
  clear HX'
  have HB3 := Lib.hid (HB2a.out.trans (hb.mono HB2a.out.size))
  clear hb
  obtain ⟨m0, m1, m2, m3, m4, m5, m6, m7, m8, m9, m10⟩ := bx11 HX.out
  go_wp2_with fail
  clear CP
  refine (lnum_any _ _).mono ?_
  rintro e wz ⟨rfl, hw⟩
  have hw := hw.symm
  subst hw
  go_wp2_with fail
  refine (L.out _ (HG.out _ HB3.out)).mono ?_
  rintro e w4 ⟨rfl, hb⟩
  clear m0 m1 m2 m3 m4 m5 m6 m7 m8 m9 m10
  have HX' := Lib.hid ((hb.block _ (heap_lt HX.out)).trans HX.out)
  clear HX
  have HX := HX'
  clear HX'
  have HB4 := Lib.hid (HB3.out.trans (hb.mono HB3.out.size))
  clear hb
  obtain ⟨m0, m1, m2, m3, m4, m5, m6, m7, m8, m9, m10⟩ := bx11 HX.out
  go_wp2_with fail
  go_ret
  exact ⟨rfl, HB4.out⟩
set_option maxRecDepth 100000 in
set_option maxHeartbeats 8000000 in
theorem cut_p0_cut (n : Nt) (ai az : Option Addr) (ci cz : Nat) (b : ByteArray) (ch : Int) (A : ByteArray) (w : World) (h : NtR w ai az n) (hG : Gp w) (s1 : lprs ch b = zN) (s2 : lprsE ch b = 140) (p1 : lputC n 0 = 2) (p2 : lputB n 0 = A) (p3 : lputX n 0 = 0) (zA : A.size ≤ 1000000) (k20 : n.k ≠ 20) (k21 : n.k ≠ 21) (k22 : n.k ≠ 22) (k25 : n.k ≠ 25) (k : Nat) (hd : k < A.size) (u1 : lprs 2 (A.extract 0 k) = zN) (u2 : lprsE 2 (A.extract 0 k) = 140) (hb : ¬ 12000 < b.size) : Calls Tryd.prog 4 #[.int .i64 ch, .string b, nA n ai az ci cz, .int .i64 k] w (OkL w) := by
  unfold nA
  have HX := Lib.hid (box_new w #[.int .i64 n.k, .string n.n, .string n.x, .string n.d, .int .i64 n.c, .int .i64 n.s, .int .i64 n.e, .int .i64 n.t, .bool n.o, .slice ai n.l.length ci, .slice az n.z.length cz] 25)
  have HB0 : Hid (Below w.heap.size w (w.alloc (.cells #[.int .i64 n.k, .string n.n, .string n.x, .string n.d, .int .i64 n.c, .int .i64 n.s, .int .i64 n.e, .int .i64 n.t, .bool n.o, .slice ai n.l.length ci, .slice az n.z.length cz] 25))) := (Below.refl _ w).alloc (Nat.le_refl _) _
  have HG := Lib.hid (fun W (hb : Below w.heap.size w W) => hG.below hb)
  have L := Lib.hid (fun W (g : Gp W) => live_any W g)
  have HR := Lib.hid (fun W (hb : Below w.heap.size w W) => h.below hb)
  have CS : Hid (∀ W, Below w.heap.size w W → Calls Tryd.prog 6 #[.agg #[.int .i64 n.k, .string n.n, .string n.x, .string n.d, .int .i64 n.c, .int .i64 n.s, .int .i64 n.e, .int .i64 n.t, .bool n.o, .slice ai n.l.length ci, .slice az n.z.length cz]] W (SmlP n W)) := fun W hb => by
    have k := small_any n ai az ci cz W (h.below hb)
    exact k
  have CA : Hid (∀ W, Gp W → Calls Tryd.prog 10 #[.int .i64 ch, .string b] W (LpP zN 140 W)) := fun W g => by
    have k := lparse_any ch b W g (by omega)
    rw [s1, s2] at k
    exact k
  have f20 := beq_eq_false_iff_ne.2 k20
  have f21 := beq_eq_false_iff_ne.2 k21
  have f22 := beq_eq_false_iff_ne.2 k22
  have f25 := beq_eq_false_iff_ne.2 k25
  have hd' : ¬ ((A.size : Int) ≤ (k : Int)) := by omega
  have hd2 : ((k : Int) ≤ A.size) := by omega
  have CZ : Hid (∀ W, Gp W → Calls Tryd.prog 10 #[.int .i64 2, .string (A.extract 0 k)] W (LpP zN 140 W)) := fun W g => by
    have q := lparse_any 2 (A.extract 0 k) W g (Nat.le_trans (by rw [Lib.size_eq, ByteArray.data_extract, Array.toList_extract, List.extract, List.length_take, List.length_drop, By.len_size]; omega) zA)
    rw [u1, u2] at q
    exact q
  have CP : Hid (∀ W, Gp W → NtL W ai az n → Calls Tryd.prog 8 #[.agg #[.int .i64 n.k, .string n.n, .string n.x, .string n.d, .int .i64 n.c, .int .i64 n.s, .int .i64 n.e, .int .i64 n.t, .bool n.o, .slice ai n.l.length ci, .slice az n.z.length cz], .int .i64 0] W (Gives (.tuple #[.int .i64 2, .string A, .int .i64 0]) W)) := fun W g hl => by
    have k := lput_any n 0 ai az ci cz W hl g
    rw [p1, p2, p3] at k
    exact k
  have q1 : ¬ ((12000 : Int) < b.size) := by omega
  have hbm : b.size ≤ 12000 := by omega
  clear h hG s1 s2 p1 p2 p3 k20 k21 k22 k25 u1 u2 hb
  obtain ⟨m0, m1, m2, m3, m4, m5, m6, m7, m8, m9, m10⟩ := bx11 HX.out
  go_enter Tryd.func4, Tryd.ntmps4
  go_wp2_with fail
  refine (CS.out _ HB0.out).mono ?_
  rintro e w1 ⟨yn, rfl, hb, hs⟩
  clear m0 m1 m2 m3 m4 m5 m6 m7 m8 m9 m10
  have HX' := Lib.hid ((hb.block _ (heap_lt HX.out)).trans HX.out)
  clear HX
  have HX := HX'
  clear HX'
  have HB1 := Lib.hid (HB0.out.trans (hb.mono HB0.out.size))
  have HS := Lib.hid hs
  clear hb hs
  clear CS
  skip
  cases yn
  · skip
    clear HS HR CA CP CZ
    obtain ⟨m0, m1, m2, m3, m4, m5, m6, m7, m8, m9, m10⟩ := bx11 HX.out
    go_wp2_with fail
    refine (L.out _ (HG.out _ HB1.out)).mono ?_
    rintro e w2 ⟨rfl, hb⟩
    clear m0 m1 m2 m3 m4 m5 m6 m7 m8 m9 m10
    have HX' := Lib.hid ((hb.block _ (heap_lt HX.out)).trans HX.out)
    clear HX
    have HX := HX'
    clear HX'
    have HB2 := Lib.hid (HB1.out.trans (hb.mono HB1.out.size))
    clear hb
    obtain ⟨m0, m1, m2, m3, m4, m5, m6, m7, m8, m9, m10⟩ := bx11 HX.out
    go_wp2_with fail
    go_ret
    exact ⟨rfl, HB2.out⟩
  have HS1 := Lib.hid (HS.out rfl)
  clear HS
  obtain ⟨m0, m1, m2, m3, m4, m5, m6, m7, m8, m9, m10⟩ := bx11 HX.out
  go_wp2_with fail
  refine (CA.out _ (HG.out _ HB1.out)).mono ?_
  rintro e w2 ⟨pi, pz, ei, ez, rfl, hb, hI, hZ, -, -⟩
  clear m0 m1 m2 m3 m4 m5 m6 m7 m8 m9 m10
  have HX' := Lib.hid ((hb.block _ (heap_lt HX.out)).trans HX.out)
  clear HX
  have HX := HX'
  clear HX'
  have HB2 := Lib.hid (HB1.out.trans (hb.mono HB1.out.size))
  have HP : Hid (ItS w2 pi zN.l ∧ CdS w2 pz zN.z) := ⟨hI, hZ⟩
  clear hb hI hZ
  clear CA HP
  unfold nA
  have HP := Lib.hid (box_new w2 #[.int .i64 zN.k, .string zN.n, .string zN.x, .string zN.d, .int .i64 zN.c, .int .i64 zN.s, .int .i64 zN.e, .int .i64 zN.t, .bool zN.o, .slice pi zN.l.length ei, .slice pz zN.z.length ez] 25)
  have HX' := Lib.hid ((Below.heap_alloc w2 (.cells #[.int .i64 zN.k, .string zN.n, .string zN.x, .string zN.d, .int .i64 zN.c, .int .i64 zN.s, .int .i64 zN.e, .int .i64 zN.t, .bool zN.o, .slice pi zN.l.length ei, .slice pz zN.z.length ez] 25) _ (heap_lt HX.out)).trans HX.out)
  clear HX
  have HX := HX'
  clear HX'
  have HB2a := Lib.hid (HB2.out.alloc HB2.out.size (.cells #[.int .i64 zN.k, .string zN.n, .string zN.x, .string zN.d, .int .i64 zN.c, .int .i64 zN.s, .int .i64 zN.e, .int .i64 zN.t, .bool zN.o, .slice pi zN.l.length ei, .slice pz zN.z.length ez] 25))
  clear HP
  obtain ⟨m0, m1, m2, m3, m4, m5, m6, m7, m8, m9, m10⟩ := bx11 HX.out
  go_wp2_with fail
  refine (lnum_any _ _).mono ?_
  rintro e wz ⟨rfl, hw⟩
  have hw := hw.symm
  subst hw
  go_wp2_with fail
  refine (CP.out _ (HG.out _ HB2a.out) ((HR.out _ HB2a.out).small HS1.out (by decide))).mono ?_
  rintro e w3 ⟨rfl, hb⟩
  clear m0 m1 m2 m3 m4 m5 m6 m7 m8 m9 m10
  have HX' := Lib.hid ((hb.block _ (heap_lt HX.out)).trans HX.out)
  clear HX
  have HX := HX'
  clear HX'
  have HB3 := Lib.hid (HB2a.out.trans (hb.mono HB2a.out.size))
  clear hb
  obtain ⟨m0, m1, m2, m3, m4, m5, m6, m7, m8, m9, m10⟩ := bx11 HX.out
  go_wp2_with fail
  clear CP
  refine (lnum_any _ _).mono ?_
  rintro e wz ⟨rfl, hw⟩
  have hw := hw.symm
  subst hw
  go_wp2_with fail
  refine (CZ.out _ (HG.out _ HB3.out)).mono ?_
  rintro e w4 ⟨qi, qz, fi, fz, rfl, hb, hI, hZ, -, -⟩
  clear m0 m1 m2 m3 m4 m5 m6 m7 m8 m9 m10
  have HX' := Lib.hid ((hb.block _ (heap_lt HX.out)).trans HX.out)
  clear HX
  have HX := HX'
  clear HX'
  have HB4 := Lib.hid (HB3.out.trans (hb.mono HB3.out.size))
  have HZ : Hid (ItS w4 qi zN.l ∧ CdS w4 qz zN.z) := ⟨hI, hZ⟩
  clear hb hI hZ
  clear CZ HZ
  unfold nA
  have HZ := Lib.hid (box_new w4 #[.int .i64 zN.k, .string zN.n, .string zN.x, .string zN.d, .int .i64 zN.c, .int .i64 zN.s, .int .i64 zN.e, .int .i64 zN.t, .bool zN.o, .slice qi zN.l.length fi, .slice qz zN.z.length fz] 25)
  have HX' := Lib.hid ((Below.heap_alloc w4 (.cells #[.int .i64 zN.k, .string zN.n, .string zN.x, .string zN.d, .int .i64 zN.c, .int .i64 zN.s, .int .i64 zN.e, .int .i64 zN.t, .bool zN.o, .slice qi zN.l.length fi, .slice qz zN.z.length fz] 25) _ (heap_lt HX.out)).trans HX.out)
  clear HX
  have HX := HX'
  clear HX'
  have HB4a := Lib.hid (HB4.out.alloc HB4.out.size (.cells #[.int .i64 zN.k, .string zN.n, .string zN.x, .string zN.d, .int .i64 zN.c, .int .i64 zN.s, .int .i64 zN.e, .int .i64 zN.t, .bool zN.o, .slice qi zN.l.length fi, .slice qz zN.z.length fz] 25))
  clear HZ
  obtain ⟨m0, m1, m2, m3, m4, m5, m6, m7, m8, m9, m10⟩ := bx11 HX.out
  go_wp2_with fail
  refine (lnum_any _ _).mono ?_
  rintro e wz ⟨rfl, hw⟩
  have hw := hw.symm
  subst hw
  go_wp2_with fail
  refine (L.out _ (HG.out _ HB4a.out)).mono ?_
  rintro e w5 ⟨rfl, hb⟩
  clear m0 m1 m2 m3 m4 m5 m6 m7 m8 m9 m10
  have HX' := Lib.hid ((hb.block _ (heap_lt HX.out)).trans HX.out)
  clear HX
  have HX := HX'
  clear HX'
  have HB5 := Lib.hid (HB4a.out.trans (hb.mono HB4a.out.size))
  clear hb
  obtain ⟨m0, m1, m2, m3, m4, m5, m6, m7, m8, m9, m10⟩ := bx11 HX.out
  go_wp2_with fail
  go_ret
  exact ⟨rfl, HB5.out⟩
end Go.Proofs.YtclkehfnakhljaaDoor.T
