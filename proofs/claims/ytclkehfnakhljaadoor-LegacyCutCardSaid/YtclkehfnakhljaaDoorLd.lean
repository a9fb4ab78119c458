/- The walk of the law LegacyCut (p1). Conditions: the tables of places and of widths hold what the program's text lays; a note takes at most what a machine can hold. -/
import Derived.Test.YtclkehfnakhljaaDoorLp
namespace Go.Proofs.YtclkehfnakhljaaDoor.T
open Go.RowKit Go.Lib

set_option maxRecDepth 100000 in
set_option maxHeartbeats 8000000 in
theorem cut_p1_no (n : Nt) (ai az : Option Addr) (ci cz : Nat) (b : ByteArray) (ch : Int) (cut : Int) (w : World) (h : NtR w ai az n) (hG : Gp w) (y : Nt) (s1 : lprs ch b = y) (s2 : lprsE ch b = 0) (s3 : may y = true) (s4 : Sm 1000000 y) (t1 : lputC y 0 = ch) (t2 : lputB y 0 = b) (t3 : lputX y 0 = 0) (v1 : ch ≠ 2) (p1 : lputC n 0 = 0) (p2 : lputB n 0 = ⟨#[]⟩) (p3 : lputX n 0 = 140) (hb : ¬ 12000 < b.size) : Calls Tryd.prog 4 #[.int .i64 ch, .string b, nA n ai az ci cz, .int .i64 cut] w (OkL w) := by
  unfold nA
  have HX := Lib.hid (box_new w #[.int .i64 n.k, .string n.n, .string n.x, .string n.d, .int .i64 n.c, .int .i64 n.s, .int .i64 n.e, .int .i64 n.t, .bool n.o, .slice ai n.l.length ci, .slice az n.z.length cz] 25)
  have HB0 : Hid (Below w.heap.size w (w.alloc (.cells #[.int .i64 n.k, .string n.n, .string n.x, .string n.d, .int .i64 n.c, .int .i64 n.s, .int .i64 n.e, .int .i64 n.t, .bool n.o, .slice ai n.l.length ci, .slice az n.z.length cz] 25))) := (Below.refl _ w).alloc (Nat.le_refl _) _
  have HG := Lib.hid (fun W (hb : Below w.heap.size w W) => hG.below hb)
  have L := Lib.hid (fun W (g : Gp W) => live_any W g)
  have HR := Lib.hid (fun W (hb : Below w.heap.size w W) => h.below hb)
  have CS : Hid (∀ W, Below w.heap.size w W → Calls Tryd.prog 6 #[.agg #[.int .i64 n.k, .string n.n, .string n.x, .string n.d, .int .i64 n.c, .int .i64 n.s, .int .i64 n.e, .int .i64 n.t, .bool n.o, .slice ai n.l.length ci, .slice az n.z.length cz]] W (SmlP n W)) := fun W hb => by
    have k := small_any n ai az ci cz W (h.below hb)
    exact k
  have CA : Hid (∀ W, Gp W → Calls Tryd.prog 10 #[.int .i64 ch, .string b] W (LpP y 0 W)) := fun W g => by
    have k := lparse_any ch b W g (by omega)
    rw [s1, s2] at k
    exact k
  have CC : Hid (∀ W pi pz ei ez, NtL W pi pz y → Calls Tryd.prog 12 #[.agg #[.int .i64 y.k, .string y.n, .string y.x, .string y.d, .int .i64 y.c, .int .i64 y.s, .int .i64 y.e, .int .i64 y.t, .bool y.o, .slice pi y.l.length ei, .slice pz y.z.length ez]] W (Gives (.int .i64 0) W)) := fun W pi pz ei ez hl => by
    have k := lcheck_any y pi pz ei ez W hl
    rw [s3, if_pos rfl] at k
    exact k
  have CD : Hid (∀ W pi pz ei ez, Gp W → NtL W pi pz y → Calls Tryd.prog 8 #[.agg #[.int .i64 y.k, .string y.n, .string y.x, .string y.d, .int .i64 y.c, .int .i64 y.s, .int .i64 y.e, .int .i64 y.t, .bool y.o, .slice pi y.l.length ei, .slice pz y.z.length ez], .int .i64 0] W (Gives (.tuple #[.int .i64 ch, .string b, .int .i64 0]) W)) := fun W pi pz ei ez g hl => by
    have k := lput_any y 0 pi pz ei ez W hl g
    rw [t1, t2, t3] at k
    exact k
  have HS4 := Lib.hid s4
  have v2 := bne_iff_ne.2 v1
  have v3 := beq_eq_false_iff_ne.2 v1
  have CP : Hid (∀ W, Gp W → NtL W ai az n → Calls Tryd.prog 8 #[.agg #[.int .i64 n.k, .string n.n, .string n.x, .string n.d, .int .i64 n.c, .int .i64 n.s, .int .i64 n.e, .int .i64 n.t, .bool n.o, .slice ai n.l.length ci, .slice az n.z.length cz], .int .i64 0] W (Gives (.tuple #[.int .i64 0, .string ⟨#[]⟩, .int .i64 140]) W)) := fun W g hl => by
    have k := lput_any n 0 ai az ci cz W hl g
    rw [p1, p2, p3] at k
    exact k
  have q1 : ¬ ((12000 : Int) < b.size) := by omega
  have hbm : b.size ≤ 12000 := by omega
  clear h hG s1 s2 s3 s4 t1 t2 t3 v1 p1 p2 p3 hb
  obtain ⟨m0, m1, m2, m3, m4, m5, m6, m7, m8, m9, m10⟩ := bx11 HX.out
  go_enter Tryd.func4, Tryd.ntmps4
  go_wp2_with fail
  refine (CS.out _ HB0.out).mono ?_
  rintro e w1 ⟨yn, rfl, hb, hs⟩
  clear m0 m1 m2 m3 m4 m5 m6 m7 m8 m9 m10
  have HX' := Lib.hid ((hb.block _ (heap_lt HX.out)).trans HX.out)
  clear HX
  have HX := HX'
  clear HX'
  have HB1 := Lib.hid (HB0.out.trans (hb.mono HB0.out.size))
  have HS := Lib.hid hs
  clear hb hs
  clear CS
  skip
  cases yn
  · skip
    clear HS HR CA CP CC CD HS4
    obtain ⟨m0, m1, m2, m3, m4, m5, m6, m7, m8, m9, m10⟩ := bx11 HX.out
    go_wp2_with fail
    refine (L.out _ (HG.out _ HB1.out)).mono ?_
    rintro e w2 ⟨rfl, hb⟩
    clear m0 m1 m2 m3 m4 m5 m6 m7 m8 m9 m10
    have HX' := Lib.hid ((hb.block _ (heap_lt HX.out)).trans HX.out)
    clear HX
    have HX := HX'
    clear HX'
    have HB2 := Lib.hid (HB1.out.trans (hb.mono HB1.out.size))
    clear hb
    obtain ⟨m0, m1, m2, m3, m4, m5, m6, m7, m8, m9, m10⟩ := bx11 HX.out
    go_wp2_with fail
    go_ret
    exact ⟨rfl, HB2.out⟩
  have HS1 := Lib.hid (HS.out rfl)
  clear HS
  obtain ⟨m0, m1, m2, m3, m4, m5, m6, m7, m8, m9, m10⟩ := bx11 HX.out
  go_wp2_with fail
  refine (CA.out _ (HG.out _ HB1.out)).mono ?_
  rintro e w2 ⟨pi, pz, ei, ez, rfl, hb, hI, hZ, -, -⟩
  clear m0 m1 m2 m3 m4 m5 m6 m7 m8 m9 m10
  have HX' := Lib.hid ((hb.block _ (heap_lt HX.out)).trans HX.out)
  clear HX
  have HX := HX'
  clear HX'
  have HB2 := Lib.hid (HB1.out.trans (hb.mono HB1.out.size))
  have HP : Hid (ItS w2 pi y.l ∧ CdS w2 pz y.z) := ⟨hI, hZ⟩
  clear hb hI hZ
  clear CA
  unfold nA
  have HPP : Hid (ItS (w2.alloc (.cells #[.int .i64 y.k, .string y.n, .string y.x, .string y.d, .int .i64 y.c, .int .i64 y.s, .int .i64 y.e, .int .i64 y.t, .bool y.o, .slice pi y.l.length ei, .slice pz y.z.length ez] 25)) pi y.l ∧ CdS (w2.alloc (.cells #[.int .i64 y.k, .string y.n, .string y.x, .string y.d, .int .i64 y.c, .int .i64 y.s, .int .i64 y.e, .int .i64 y.t, .bool y.o, .slice pi y.l.length ei, .slice pz y.z.length ez] 25)) pz y.z) := ⟨HP.out.1.below ((Below.refl _ _).alloc (Nat.le_refl _) _), HP.out.2.below ((Below.refl _ _).alloc (Nat.le_refl _) _)⟩
  clear HP
  have HP := Lib.hid (box_new w2 #[.int .i64 y.k, .string y.n, .string y.x, .string y.d, .int .i64 y.c, .int .i64 y.s, .int .i64 y.e, .int .i64 y.t, .bool y.o, .slice pi y.l.length ei, .slice pz y.z.length ez] 25)
  have HX' := Lib.hid ((Below.heap_alloc w2 (.cells #[.int .i64 y.k, .string y.n, .string y.x, .string y.d, .int .i64 y.c, .int .i64 y.s, .int .i64 y.e, .int .i64 y.t, .bool y.o, .slice pi y.l.length ei, .slice pz y.z.length ez] 25) _ (heap_lt HX.out)).trans HX.out)
  clear HX
  have HX := HX'
  clear HX'
  have HB2a := Lib.hid (HB2.out.alloc HB2.out.size (.cells #[.int .i64 y.k, .string y.n, .string y.x, .string y.d, .int .i64 y.c, .int .i64 y.s, .int .i64 y.e, .int .i64 y.t, .bool y.o, .slice pi y.l.length ei, .slice pz y.z.length ez] 25))
  have HPL := Lib.hid (nt_load HS4.out HPP.out.1 HPP.out.2)
  clear HPP HS4
  obtain ⟨m0, m1, m2, m3, m4, m5, m6, m7, m8, m9, m10⟩ := bx11 HX.out
  obtain ⟨u0, u1, u2, u3, u4, u5, u6, u7, u8, u9, u10⟩ := bx11 HP.out
  go_wp2_with fail
  refine (lnum_any _ _).mono ?_
  rintro e wz ⟨rfl, hw⟩
  have hw := hw.symm
  subst hw
  go_wp2_with fail
  refine (CC.out _ _ _ _ _ HPL.out).mono ?_
  rintro e w3 ⟨rfl, hb⟩
  clear m0 m1 m2 m3 m4 m5 m6 m7 m8 m9 m10
  clear u0 u1 u2 u3 u4 u5 u6 u7 u8 u9 u10
  have HX' := Lib.hid ((hb.block _ (heap_lt HX.out)).trans HX.out)
  clear HX
  have HX := HX'
  clear HX'
  have HP' := Lib.hid ((hb.block _ (heap_lt HP.out)).trans HP.out)
  clear HP
  have HP := HP'
  clear HP'
  have HB3 := Lib.hid (HB2a.out.trans (hb.mono HB2a.out.size))
  have HPL' := Lib.hid (HPL.out.below hb)
  clear HPL
  have HPL := HPL'
  clear HPL'
  clear hb
  obtain ⟨m0, m1, m2, m3, m4, m5, m6, m7, m8, m9, m10⟩ := bx11 HX.out
  obtain ⟨u0, u1, u2, u3, u4, u5, u6, u7, u8, u9, u10⟩ := bx11 HP.out
  go_wp2_with fail
  refine (lnum_any _ _).mono ?_
  rintro e wz ⟨rfl, hw⟩
  have hw := hw.symm
  subst hw
  go_wp2_with fail
  refine (CD.out _ _ _ _ _ (HG.out _ HB3.out) HPL.out).mono ?_
  rintro e w4 ⟨rfl, hb⟩
  clear m0 m1 m2 m3 m4 m5 m6 m7 m8 m9 m10
  clear u0 u1 u2 u3 u4 u5 u6 u7 u8 u9 u10
  have HX' := Lib.hid ((hb.block _ (heap_lt HX.out)).trans HX.out)
  clear HX
  have HX := HX'
  clear HX'
  have HB4 := Lib.hid (HB3.out.trans (hb.mono HB3.out.size))
  clear hb
  obtain ⟨m0, m1, m2, m3, m4, m5, m6, m7, m8, m9, m10⟩ := bx11 HX.out
  go_wp2_with fail
  clear CC CD HPL
  clear m0 m1 m2 m3 m4 m5 m6 m7 m8 m9 m10
  have XN : Hid (∀ z, Xc w4 9 #[.int .i64 z] (.int .i64 z)) := fun z => xc_pure fun W => lnum_any z W
  have hsome := extSome w4
  refine ext_region (by kernel_rfl) (by kernel_rfl) ?_
  repeat (go_big_quiet_step ((first | (go_at_call 9; with_reducible exact ext_call _ (XN.out _ _)))))
  refine wpQuiet_nil ?_
  rintro _ ⟨yy, hyy⟩
  subst hyy
  have HBy := Lib.hid (HB4.out.trans (yy.below.mono HB4.out.size))
  have HX' := Lib.hid ((yy.below.block _ (heap_lt HX.out)).trans HX.out)
  clear HX XN hsome
  have HX := HX'
  clear HX'
  obtain ⟨m0, m1, m2, m3, m4, m5, m6, m7, m8, m9, m10⟩ := bx11 HX.out
  go_wp2_with fail
  refine (CP.out _ (HG.out _ HBy.out) ((HR.out _ HBy.out).small HS1.out (by decide))).mono ?_
  rintro e w5 ⟨rfl, hb⟩
  clear m0 m1 m2 m3 m4 m5 m6 m7 m8 m9 m10
  have HX' := Lib.hid ((hb.block _ (heap_lt HX.out)).trans HX.out)
  clear HX
  have HX := HX'
  clear HX'
  have HB5 := Lib.hid (HBy.out.trans (hb.mono HBy.out.size))
  clear hb
  obtain ⟨m0, m1, m2, m3, m4, m5, m6, m7, m8, m9, m10⟩ := bx11 HX.out
  go_wp2_with fail
  clear CP
  refine (lnum_any _ _).mono ?_
  rintro e wz ⟨rfl, hw⟩
  have hw := hw.symm
  subst hw
  go_wp2_with fail
  refine (L.out _ (HG.out _ HB5.out)).mono ?_
  rintro e w6 ⟨rfl, hb⟩
  clear m0 m1 m2 m3 m4 m5 m6 m7 m8 m9 m10
  have HX' := Lib.hid ((hb.block _ (heap_lt HX.out)).trans HX.out)
  clear HX
  have HX := HX'
  clear HX'
  have HB6 := Lib.hid (HB5.out.trans (hb.mono HB5.out.size))
  clear hb
  obtain ⟨m0, m1, m2, m3, m4, m5, m6, m7, m8, m9, m10⟩ := bx11 HX.out
  go_wp2_with fail
  go_ret
  exact ⟨rfl, HB6.out⟩
set_option maxRecDepth 100000 in
set_option maxHeartbeats 8000000 in
theorem cut_p1_chan (n : Nt) (ai az : Option Addr) (ci cz : Nat) (b : ByteArray) (ch : Int) (A : ByteArray) (C : Int) (cut : Int) (w : World) (h : NtR w ai az n) (hG : Gp w) (y : Nt) (s1 : lprs ch b = y) (s2 : lprsE ch b = 0) (s3 : may y = true) (s4 : Sm 1000000 y) (t1 : lputC y 0 = ch) (t2 : lputB y 0 = b) (t3 : lputX y 0 = 0) (v1 : ch ≠ 2) (p1 : lputC n 0 = C) (p2 : lputB n 0 = A) (p3 : lputX n 0 = 0) (_zA : A.size ≤ 1000000) (c2 : C ≠ 2) (hb : ¬ 12000 < b.size) : Calls Tryd.prog 4 #[.int .i64 ch, .string b, nA n ai az ci cz, .int .i64 cut] w (OkL w) := by
  unfold nA
  have HX := Lib.hid (box_new w #[.int .i64 n.k, .string n.n, .string n.x, .string n.d, .int .i64 n.c, .int .i64 n.s, .int .i64 n.e, .int .i64 n.t, .bool n.o, .slice ai n.l.length ci, .slice az n.z.length cz] 25)
  have HB0 : Hid (Below w.heap.size w (w.alloc (.cells #[.int .i64 n.k, .string n.n, .string n.x, .string n.d, .int .i64 n.c, .int .i64 n.s, .int .i64 n.e, .int .i64 n.t, .bool n.o, .slice ai n.l.length ci, .slice az n.z.length cz] 25))) := (Below.refl _ w).alloc (Nat.le_refl _) _
  have HG := Lib.hid (fun W (hb : Below w.heap.size w W) => hG.below hb)
  have L := Lib.hid (fun W (g : Gp W) => live_any W g)
  have HR := Lib.hid (fun W (hb : Below w.heap.size w W) => h.below hb)
  have CS : Hid (∀ W, Below w.heap.size w W → Calls Tryd.prog 6 #[.agg #[.int .i64 n.k, .string n.n, .string n.x, .string n.d, .int .i64 n.c, .int .i64 n.s, .int .i64 n.e, .int .i64 n.t, .bool n.o, .slice ai n.l.length ci, .slice az n.z.length cz]] W (SmlP n W)) := fun W hb => by
    have k := small_any n ai az ci cz W (h.below hb)
    exact k
  have CA : Hid (∀ W, Gp W → Calls Tryd.prog 10 #[.int .i64 ch, .string b] W (LpP y 0 W)) := fun W g => by
    have k := lparse_any ch b W g (by omega)
    rw [s1, s2] at k
    exact k
  have CC : Hid (∀ W pi pz ei ez, NtL W pi pz y → Calls Tryd.prog 12 #[.agg #[.int .i64 y.k, .string y.n, .string y.x, .string y.d, .int .i64 y.c, .int .i64 y.s, .int .i64 y.e, .int .i64 y.t, .bool y.o, .slice pi y.l.length ei, .slice pz y.z.length ez]] W (Gives (.int .i64 0) W)) := fun W pi pz ei ez hl => by
    have k := lcheck_any y pi pz ei ez W hl
    rw [s3, if_pos rfl] at k
    exact k
  have CD : Hid (∀ W pi pz ei ez, Gp W → NtL W pi pz y → Calls Tryd.prog 8 #[.agg #[.int .i64 y.k, .string y.n, .string y.x, .string y.d, .int .i64 y.c, .int .i64 y.s, .int .i64 y.e, .int .i64 y.t, .bool y.o, .slice pi y.l.length ei, .slice pz y.z.length ez], .int .i64 0] W (Gives (.tuple #[.int .i64 ch, .string b, .int .i64 0]) W)) := fun W pi pz ei ez g hl => by
    have k := lput_any y 0 pi pz ei ez W hl g
    rw [t1, t2, t3] at k
    exact k
  have HS4 := Lib.hid s4
  have v2 := bne_iff_ne.2 v1
  have v3 := beq_eq_false_iff_ne.2 v1
  have c3 := bne_iff_ne.2 c2
  have CP : Hid (∀ W, Gp W → NtL W ai az n → Calls Tryd.prog 8 #[.agg #[.int .i64 n.k, .string n.n, .string n.x, .string n.d, .int .i64 n.c, .int .i64 n.s, .int .i64 n.e, .int .i64 n.t, .bool n.o, .slice ai n.l.length ci, .slice az n.z.length cz], .int .i64 0] W (Gives (.tuple #[.int .i64 C, .string A, .int .i64 0]) W)) := fun W g hl => by
    have k := lput_any n 0 ai az ci cz W hl g
    rw [p1, p2, p3] at k
    exact k
  have q1 : ¬ ((12000 : Int) < b.size) := by omega
  have hbm : b.size ≤ 12000 := by omega
  clear h hG s1 s2 s3 s4 t1 t2 t3 v1 p1 p2 p3 c2 hb
  obtain ⟨m0, m1, m2, m3, m4, m5, m6, m7, m8, m9, m10⟩ := bx11 HX.out
  go_enter Tryd.func4, Tryd.ntmps4
  go_wp2_with fail
  refine (CS.out _ HB0.out).mono ?_
  rintro e w1 ⟨yn, rfl, hb, hs⟩
  clear m0 m1 m2 m3 m4 m5 m6 m7 m8 m9 m10
  have HX' := Lib.hid ((hb.block _ (heap_lt HX.out)).trans HX.out)
  clear HX
  have HX := HX'
  clear HX'
  have HB1 := Lib.hid (HB0.out.trans (hb.mono HB0.out.size))
  have HS := Lib.hid hs
  clear hb hs
  clear CS
  skip
  cases yn
  · skip
    clear HS HR CA CP CC CD HS4
    obtain ⟨m0, m1, m2, m3, m4, m5, m6, m7, m8, m9, m10⟩ := bx11 HX.out
    go_wp2_with fail
    refine (L.out _ (HG.out _ HB1.out)).mono ?_
    rintro e w2 ⟨rfl, hb⟩
    clear m0 m1 m2 m3 m4 m5 m6 m7 m8 m9 m10
    have HX' := Lib.hid ((hb.block _ (heap_lt HX.out)).trans HX.out)
    clear HX
    have HX := HX'
    clear HX'
    have HB2 := Lib.hid (HB1.out.trans (hb.mono HB1.out.size))
    clear hb
    obtain ⟨m0, m1, m2, m3, m4, m5, m6, m7, m8, m9, m10⟩ := bx11 HX.out
    go_wp2_with fail
    go_ret
    exact ⟨rfl, HB2.out⟩
  have HS1 := Lib.hid (HS.out rfl)
  clear HS
  obtain ⟨m0, m1, m2, m3, m4, m5, m6, m7, m8, m9, m10⟩ := bx11 HX.out
  go_wp2_with fail
  refine (CA.out _ (HG.out _ HB1.out)).mono ?_
  rintro e w2 ⟨pi, pz, ei, ez, rfl, hb, hI, hZ, -, -⟩
  clear m0 m1 m2 m3 m4 m5 m6 m7 m8 m9 m10
  have HX' := Lib.hid ((hb.block _ (heap_lt HX.out)).trans HX.out)
  clear HX
  have HX := HX'
  clear HX'
  have HB2 := Lib.hid (HB1.out.trans (hb.mono HB1.out.size))
  have HP : Hid (ItS w2 pi y.l ∧ CdS w2 pz y.z) := ⟨hI, hZ⟩
  clear hb hI hZ
  clear CA
  unfold nA
  have HPP : Hid (ItS (w2.alloc (.cells #[.int .i64 y.k, .string y.n, .string y.x, .string y.d, .int .i64 y.c, .int .i64 y.s, .int .i64 y.e, .int .i64 y.t, .bool y.o, .slice pi y.l.length ei, .slice pz y.z.length ez] 25)) pi y.l ∧ CdS (w2.alloc (.cells #[.int .i64 y.k, .string y.n, .string y.x, .string y.d, .int .i64 y.c, .int .i64 y.s, .int .i64 y.e, .int .i64 y.t, .bool y.o, .slice pi y.l.length ei, .slice pz y.z.length ez] 25)) pz y.z) := ⟨HP.out.1.below ((Below.refl _ _).alloc (Nat.le_refl _) _), HP.out.2.below ((Below.refl _ _).alloc (Nat.le_refl _) _)⟩
  clear HP
  have HP := Lib.hid (box_new w2 #[.int .i64 y.k, .string y.n, .string y.x, .string y.d, .int .i64 y.c, .int .i64 y.s, .int .i64 y.e, .int .i64 y.t, .bool y.o, .slice pi y.l.length ei, .slice pz y.z.length ez] 25)
  have HX' := Lib.hid ((Below.heap_alloc w2 (.cells #[.int .i64 y.k, .string y.n, .string y.x, .string y.d, .int .i64 y.c, .int .i64 y.s, .int .i64 y.e, .int .i64 y.t, .bool y.o, .slice pi y.l.length ei, .slice pz y.z.length ez] 25) _ (heap_lt HX.out)).trans HX.out)
  clear HX
  have HX := HX'
  clear HX'
  have HB2a := Lib.hid (HB2.out.alloc HB2.out.size (.cells #[.int .i64 y.k, .string y.n, .string y.x, .string y.d, .int .i64 y.c, .int .i64 y.s, .int .i64 y.e, .int .i64 y.t, .bool y.o, .slice pi y.l.length ei, .slice pz y.z.length ez] 25))
  have HPL := Lib.hid (nt_load HS4.out HPP.out.1 HPP.out.2)
  clear HPP HS4
  obtain ⟨m0, m1, m2, m3, m4, m5, m6, m7, m8, m9, m10⟩ := bx11 HX.out
  obtain ⟨u0, u1, u2, u3, u4, u5, u6, u7, u8, u9, u10⟩ := bx11 HP.out
  go_wp2_with fail
  refine (lnum_any _ _).mono ?_
  rintro e wz ⟨rfl, hw⟩
  have hw := hw.symm
  subst hw
  go_wp2_with fail
  refine (CC.out _ _ _ _ _ HPL.out).mono ?_
  rintro e w3 ⟨rfl, hb⟩
  clear m0 m1 m2 m3 m4 m5 m6 m7 m8 m9 m10
  clear u0 u1 u2 u3 u4 u5 u6 u7 u8 u9 u10
  have HX' := Lib.hid ((hb.block _ (heap_lt HX.out)).trans HX.out)
  clear HX
  have HX := HX'
  clear HX'
  have HP' := Lib.hid ((hb.block _ (heap_lt HP.out)).trans HP.out)
  clear HP
  have HP := HP'
  clear HP'
  have HB3 := Lib.hid (HB2a.out.trans (hb.mono HB2a.out.size))
  have HPL' := Lib.hid (HPL.out.below hb)
  clear HPL
  have HPL := HPL'
  clear HPL'
  clear hb
  obtain ⟨m0, m1, m2, m3, m4, m5, m6, m7, m8, m9, m10⟩ := bx11 HX.out
  obtain ⟨u0, u1, u2, u3, u4, u5, u6, u7, u8, u9, u10⟩ := bx11 HP.out
  go_wp2_with fail
  refine (lnum_any _ _).mono ?_
  rintro e wz ⟨rfl, hw⟩
  have hw := hw.symm
  subst hw
  go_wp2_with fail
  refine (CD.out _ _ _ _ _ (HG.out _ HB3.out) HPL.out).mono ?_
  rintro e w4 ⟨rfl, hb⟩
  clear m0 m1 m2 m3 m4 m5 m6 m7 m8 m9 m10
  clear u0 u1 u2 u3 u4 u5 u6 u7 u8 u9 u10
  have HX' := Lib.hid ((hb.block _ (heap_lt HX.out)).trans HX.out)
  clear HX
  have HX := HX'
  clear HX'
  have HB4 := Lib.hid (HB3.out.trans (hb.mono HB3.out.size))
  clear hb
  obtain ⟨m0, m1, m2, m3, m4, m5, m6, m7, m8, m9, m10⟩ := bx11 HX.out
  go_wp2_with fail
  clear CC CD HPL
  clear m0 m1 m2 m3 m4 m5 m6 m7 m8 m9 m10
  have XN : Hid (∀ z, Xc w4 9 #[.int .i64 z] (.int .i64 z)) := fun z => xc_pure fun W => lnum_any z W
  have hsome := extSome w4
  refine ext_region (by kernel_rfl) (by kernel_rfl) ?_
  repeat (go_big_quiet_step ((first | (go_at_call 9; with_reducible exact ext_call _ (XN.out _ _)))))
  refine wpQuiet_nil ?_
  rintro _ ⟨yy, hyy⟩
  subst hyy
  have HBy := Lib.hid (HB4.out.trans (yy.below.mono HB4.out.size))
  have HX' := Lib.hid ((yy.below.block _ (heap_lt HX.out)).trans HX.out)
  clear HX XN hsome
  have HX := HX'
  clear HX'
  obtain ⟨m0, m1, m2, m3, m4, m5, m6, m7, m8, m9, m10⟩ := bx11 HX.out
  go_wp2_with fail
  refine (CP.out _ (HG.out _ HBy.out) ((HR.out _ HBy.out).small HS1.out (by decide))).mono ?_
  rintro e w5 ⟨rfl, hb⟩
  clear m0 m1 m2 m3 m4 m5 m6 m7 m8 m9 m10
  have HX' := Lib.hid ((hb.block _ (heap_lt HX.out)).trans HX.out)
  clear HX
  have HX := HX'
  clear HX'
  have HB5 := Lib.hid (HBy.out.trans (hb.mono HBy.out.size))
  clear hb
  obtain ⟨m0, m1, m2, m3, m4, m5, m6, m7, m8, m9, m10⟩ := bx11 HX.out
  go_wp2_with fail
  clear CP
  refine (lnum_any _ _).mono ?_
  rintro e wz ⟨rfl, hw⟩
  have hw := hw.symm
  subst hw
  go_wp2_with fail
  refine (L.out _ (HG.out _ HB5.out)).mono ?_
  rintro e w6 ⟨rfl, hb⟩
  clear m0 m1 m2 m3 m4 m5 m6 m7 m8 m9 m10
  have HX' := Lib.hid ((hb.block _ (heap_lt HX.out)).trans HX.out)
  clear HX
  have HX := HX'
  clear HX'
  have HB6 := Lib.hid (HB5.out.trans (hb.mono HB5.out.size))
  clear hb
  obtain ⟨m0, m1, m2, m3, m4, m5, m6, m7, m8, m9, m10⟩ := bx11 HX.out
  go_wp2_with fail
  go_ret
  exact ⟨rfl, HB6.out⟩
set_option maxRecDepth 100000 in
set_option maxHeartbeats 8000000 in
theorem cut_p1_k20 (n : Nt) (ai az : Option Addr) (ci cz : Nat) (b : ByteArray) (ch : Int) (A : ByteArray) (cut : Int) (w : World) (h : NtR w ai az n) (hG : Gp w) (y : Nt) (s1 : lprs ch b = y) (s2 : lprsE ch b = 0) (s3 : may y = true) (s4 : Sm 1000000 y) (t1 : lputC y 0 = ch) (t2 : lputB y 0 = b) (t3 : lputX y 0 = 0) (v1 : ch ≠ 2) (p1 : lputC n 0 = 2) (p2 : lputB n 0 = A) (p3 : lputX n 0 = 0) (_zA : A.size ≤ 1000000) (hk : n.k = 20) (hb : ¬ 12000 < b.size) : Calls Tryd.prog 4 #[.int .i64 ch, .string b, nA n ai az ci cz, .int .i64 cut] w (OkL w) := by
  unfold nA
  have hk' := hk
  rw [hk]
  have HX := Lib.hid (box_new w #[.int .i64 20, .string n.n, .string n.x, .string n.d, .int .i64 n.c, .int .i64 n.s, .int .i64 n.e, .int .i64 n.t, .bool n.o, .slice ai n.l.length ci, .slice az n.z.length cz] 25)
  have HB0 : Hid (Below w.heap.size w (w.alloc (.cells #[.int .i64 20, .string n.n, .string n.x, .string n.d, .int .i64 n.c, .int .i64 n.s, .int .i64 n.e, .int .i64 n.t, .bool n.o, .slice ai n.l.length ci, .slice az n.z.length cz] 25))) := (Below.refl _ w).alloc (Nat.le_refl _) _
  have HG := Lib.hid (fun W (hb : Below w.heap.size w W) => hG.below hb)
  have L := Lib.hid (fun W (g : Gp W) => live_any W g)
  have HR := Lib.hid (fun W (hb : Below w.heap.size w W) => h.below hb)
  have CS : Hid (∀ W, Below w.heap.size w W → Calls Tryd.prog 6 #[.agg #[.int .i64 20, .string n.n, .string n.x, .string n.d, .int .i64 n.c, .int .i64 n.s, .int .i64 n.e, .int .i64 n.t, .bool n.o, .slice ai n.l.length ci, .slice az n.z.length cz]] W (SmlP n W)) := fun W hb => by
    have k := small_any n ai az ci cz W (h.below hb)
    unfold nA at k
    rw [hk] at k
    exact k
  have CA : Hid (∀ W, Gp W → Calls Tryd.prog 10 #[.int .i64 ch, .string b] W (LpP y 0 W)) := fun W g => by
    have k := lparse_any ch b W g (by omega)
    rw [s1, s2] at k
    exact k
  have CC : Hid (∀ W pi pz ei ez, NtL W pi pz y → Calls Tryd.prog 12 #[.agg #[.int .i64 y.k, .string y.n, .string y.x, .string y.d, .int .i64 y.c, .int .i64 y.s, .int .i64 y.e, .int .i64 y.t, .bool y.o, .slice pi y.l.length ei, .slice pz y.z.length ez]] W (Gives (.int .i64 0) W)) := fun W pi pz ei ez hl => by
    have k := lcheck_any y pi pz ei ez W hl
    rw [s3, if_pos rfl] at k
    exact k
  have CD : Hid (∀ W pi pz ei ez, Gp W → NtL W pi pz y → Calls Tryd.prog 8 #[.agg #[.int .i64 y.k, .string y.n, .string y.x, .string y.d, .int .i64 y.c, .int .i64 y.s, .int .i64 y.e, .int .i64 y.t, .bool y.o, .slice pi y.l.length ei, .slice pz y.z.length ez], .int .i64 0] W (Gives (.tuple #[.int .i64 ch, .string b, .int .i64 0]) W)) := fun W pi pz ei ez g hl => by
    have k := lput_any y 0 pi pz ei ez W hl g
    rw [t1, t2, t3] at k
    exact k
  have HS4 := Lib.hid s4
  have v2 := bne_iff_ne.2 v1
  have v3 := beq_eq_false_iff_ne.2 v1
  have CP : Hid (∀ W, Gp W → NtL W ai az n → Calls Tryd.prog 8 #[.agg #[.int .i64 20, .string n.n, .string n.x, .string n.d, .int .i64 n.c, .int .i64 n.s, .int .i64 n.e, .int .i64 n.t, .bool n.o, .slice ai n.l.length ci, .slice az n.z.length cz], .int .i64 0] W (Gives (.tuple #[.int .i64 2, .string A, .int .i64 0]) W)) := fun W g hl => by
    have k := lput_any n 0 ai az ci cz W hl g
    rw [p1, p2, p3] at k
    unfold nA at k
    rw [hk] at k
    exact k
  have q1 : ¬ ((12000 : Int) < b.size) := by omega
  have hbm : b.size ≤ 12000 := by omega
  clear h hG s1 s2 s3 s4 t1 t2 t3 v1 p1 p2 p3 hk hb
  obtain ⟨m0, m1, m2, m3, m4, m5, m6, m7, m8, m9, m10⟩ := bx11 HX.out
  go_enter Tryd.func4, Tryd.ntmps4
  go_wp2_with fail
  refine (CS.out _ HB0.out).mono ?_
  rintro e w1 ⟨yn, rfl, hb, hs⟩
  clear m0 m1 m2 m3 m4 m5 m6 m7 m8 m9 m10
  have HX' := Lib.hid ((hb.block _ (heap_lt HX.out)).trans HX.out)
  clear HX
  have HX := HX'
  clear HX'
  have HB1 := Lib.hid (HB0.out.trans (hb.mono HB0.out.size))
  have HS := Lib.hid hs
  clear hb hs
  clear CS
  skip
  cases yn
  · skip
    clear HS HR CA CP CC CD HS4
    obtain ⟨m0, m1, m2, m3, m4, m5, m6, m7, m8, m9, m10⟩ := bx11 HX.out
    go_wp2_with fail
    refine (L.out _ (HG.out _ HB1.out)).mono ?_
    rintro e w2 ⟨rfl, hb⟩
    clear m0 m1 m2 m3 m4 m5 m6 m7 m8 m9 m10
    have HX' := Lib.hid ((hb.block _ (heap_lt HX.out)).trans HX.out)
    clear HX
    have HX := HX'
    clear HX'
    have HB2 := Lib.hid (HB1.out.trans (hb.mono HB1.out.size))
    clear hb
    obtain ⟨m0, m1, m2, m3, m4, m5, m6, m7, m8, m9, m10⟩ := bx11 HX.out
    go_wp2_with fail
    go_ret
    exact ⟨rfl, HB2.out⟩
  have HS1 := Lib.hid (HS.out rfl)
  clear HS
  obtain ⟨m0, m1, m2, m3, m4, m5, m6, m7, m8, m9, m10⟩ := bx11 HX.out
  go_wp2_with fail
  refine (CA.out _ (HG.out _ HB1.out)).mono ?_
  rintro e w2 ⟨pi, pz, ei, ez, rfl, hb, hI, hZ, -, -⟩
  clear m0 m1 m2 m3 m4 m5 m6 m7 m8 m9 m10
  have HX' := Lib.hid ((hb.block _ (heap_lt HX.out)).trans HX.out)
  clear HX
  have HX := HX'
  clear HX'
  have HB2 := Lib.hid (HB1.out.trans (hb.mono HB1.out.size))
  have HP : Hid (ItS w2 pi y.l ∧ CdS w2 pz y.z) := ⟨hI, hZ⟩
  clear hb hI hZ
  clear CA
  unfold nA
  have HPP : Hid (ItS (w2.alloc (.cells #[.int .i64 y.k, .string y.n, .string y.x, .string y.d, .int .i64 y.c, .int .i64 y.s, .int .i64 y.e, .int .i64 y.t, .bool y.o, .slice pi y.l.length ei, .slice pz y.z.length ez] 25)) pi y.l ∧ CdS (w2.alloc (.cells #[.int .i64 y.k, .string y.n, .string y.x, .string y.d, .int .i64 y.c, .int .i64 y.s, .int .i64 y.e, .int .i64 y.t, .bool y.o, .slice pi y.l.length ei, .slice pz y.z.length ez] 25)) pz y.z) := ⟨HP.out.1.below ((Below.refl _ _).alloc (Nat.le_refl _) _), HP.out.2.below ((Below.refl _ _).alloc (Nat.le_refl _) _)⟩
  clear HP
  have HP := Lib.hid (box_new w2 #[.int .i64 y.k, .string y.n, .string y.x, .string y.d, .int .i64 y.c, .int .i64 y.s, .int .i64 y.e, .int .i64 y.t, .bool y.o, .slice pi y.l.length ei, .slice pz y.z.length ez] 25)
  have HX' := Lib.hid ((Below.heap_alloc w2 (.cells #[.int .i64 y.k, .string y.n, .string y.x, .string y.d, .int .i64 y.c, .int .i64 y.s, .int .i64 y.e, .int .i64 y.t, .bool y.o, .slice pi y.l.length ei, .slice pz y.z.length ez] 25) _ (heap_lt HX.out)).trans HX.out)
  clear HX
  have HX := HX'
  clear HX'
  have HB2a := Lib.hid (HB2.out.alloc HB2.out.size (.cells #[.int .i64 y.k, .string y.n, .string y.x, .string y.d, .int .i64 y.c, .int .i64 y.s, .int .i64 y.e, .int .i64 y.t, .bool y.o, .slice pi y.l.length ei, .slice pz y.z.length ez] 25))
  have HPL := Lib.hid (nt_load HS4.out HPP.out.1 HPP.out.2)
  clear HPP HS4
  obtain ⟨m0, m1, m2, m3, m4, m5, m6, m7, m8, m9, m10⟩ := bx11 HX.out
  obtain ⟨u0, u1, u2, u3, u4, u5, u6, u7, u8, u9, u10⟩ := bx11 HP.out
  go_wp2_with fail
  refine (lnum_any _ _).mono ?_
  rintro e wz ⟨rfl, hw⟩
  have hw := hw.symm
  subst hw
  go_wp2_with fail
  refine (CC.out _ _ _ _ _ HPL.out).mono ?_
  rintro e w3 ⟨rfl, hb⟩
  clear m0 m1 m2 m3 m4 m5 m6 m7 m8 m9 m10
  clear u0 u1 u2 u3 u4 u5 u6 u7 u8 u9 u10
  have HX' := Lib.hid ((hb.block _ (heap_lt HX.out)).trans HX.out)
  clear HX
  have HX := HX'
  clear HX'
  have HP' := Lib.hid ((hb.block _ (heap_lt HP.out)).trans HP.out)
  clear HP
  have HP := HP'
  clear HP'
  have HB3 := Lib.hid (HB2a.out.trans (hb.mono HB2a.out.size))
  have HPL' := Lib.hid (HPL.out.below hb)
  clear HPL
  have HPL := HPL'
  clear HPL'
  clear hb
  obtain ⟨m0, m1, m2, m3, m4, m5, m6, m7, m8, m9, m10⟩ := bx11 HX.out
  obtain ⟨u0, u1, u2, u3, u4, u5, u6, u7, u8, u9, u10⟩ := bx11 HP.out
  go_wp2_with fail
  refine (lnum_any _ _).mono ?_
  rintro e wz ⟨rfl, hw⟩
  have hw := hw.symm
  subst hw
  go_wp2_with fail
  refine (CD.out _ _ _ _ _ (HG.out _ HB3.out) HPL.out).mono ?_
  rintro e w4 ⟨rfl, hb⟩
  clear m0 m1 m2 m3 m4 m5 m6 m7 m8 m9 m10
  clear u0 u1 u2 u3 u4 u5 u6 u7 u8 u9 u10
  have HX' := Lib.hid ((hb.block _ (heap_lt HX.out)).trans HX.out)
  clear HX
  have HX := HX'
  clear HX'
  have HB4 := Lib.hid (HB3.out.trans (hb.mono HB3.out.size))
  clear hb
  obtain ⟨m0, m1, m2, m3, m4, m5, m6, m7, m8, m9, m10⟩ := bx11 HX.out
  go_wp2_with fail
  clear CC CD HPL
  clear m0 m1 m2 m3 m4 m5 m6 m7 m8 m9 m10
  have XN : Hid (∀ z, Xc w4 9 #[.int .i64 z] (.int .i64 z)) := fun z => xc_pure fun W => lnum_any z W
  have hsome := extSome w4
  refine ext_region (by kernel_rfl) (by kernel_rfl) ?_
  repeat (go_big_quiet_step ((first | (go_at_call 9; with_reducible exact ext_call _ (XN.out _ _)))))
  refine wpQuiet_nil ?_
  rintro _ ⟨yy, hyy⟩
  subst hyy
  have HBy := Lib.hid (HB4.out.trans (yy.below.mono HB4.out.size))
  have HX' := Lib.hid ((yy.below.block _ (heap_lt HX.out)).trans HX.out)
  clear HX XN hsome
  have HX := HX'
  clear HX'
  obtain ⟨m0, m1, m2, m3, m4, m5, m6, m7, m8, m9, m10⟩ := bx11 HX.out
  go_wp2_with fail
  refine (CP.out _ (HG.out _ HBy.out) ((HR.out _ HBy.out).small HS1.out (by decide))).mono ?_
  rintro e w5 ⟨rfl, hb⟩
  clear m0 m1 m2 m3 m4 m5 m6 m7 m8 m9 m10
  have HX' := Lib.hid ((hb.block _ (heap_lt HX.out)).trans HX.out)
  clear HX
  have HX := HX'
  clear HX'
  have HB5 := Lib.hid (HBy.out.trans (hb.mono HBy.out.size))
  clear hb
  obtain ⟨m0, m1, m2, m3, m4, m5, m6, m7, m8, m9, m10⟩ := bx11 HX.out
  go_wp2_with fail
  clear CP
  refine (lnum_any _ _).mono ?_
  rintro e wz ⟨rfl, hw⟩
  have hw := hw.symm
  subst hw
  go_wp2_with fail
  refine (L.out _ (HG.out _ HB5.out)).mono ?_
  rintro e w6 ⟨rfl, hb⟩
  clear m0 m1 m2 m3 m4 m5 m6 m7 m8 m9 m10
  have HX' := Lib.hid ((hb.block _ (heap_lt HX.out)).trans HX.out)
  clear HX
  have HX := HX'
  clear HX'
  have HB6 := Lib.hid (HB5.out.trans (hb.mono HB5.out.size))
  clear hb
  obtain ⟨m0, m1, m2, m3, m4, m5, m6, m7, m8, m9, m10⟩ := bx11 HX.out
  go_wp2_with fail
  go_ret
  exact ⟨rfl, HB6.out⟩
set_option maxRecDepth 100000 in
set_option maxHeartbeats 8000000 in
theorem cut_p1_k21 (n : Nt) (ai az : Option Addr) (ci cz : Nat) (b : ByteArray) (ch : Int) (A : ByteArray) (cut : Int) (w : World) (h : NtR w ai az n) (hG : Gp w) (y : Nt) (s1 : lprs ch b = y) (s2 : lprsE ch b = 0) (s3 : may y = true) (s4 : Sm 1000000 y) (t1 : lputC y 0 = ch) (t2 : lputB y 0 = b) (t3 : lputX y 0 = 0) (v1 : ch ≠ 2) (p1 : lputC n 0 = 2) (p2 : lputB n 0 = A) (p3 : lputX n 0 = 0) (_zA : A.size ≤ 1000000) (hk : n.k = 21) (hb : ¬ 12000 < b.size) : Calls Tryd.prog 4 #[.int .i64 ch, .string b, nA n ai az ci cz, .int .i64 cut] w (OkL w) := by
  unfold nA
  have hk' := hk
  rw [hk]
  have HX := Lib.hid (box_new w #[.int .i64 21, .string n.n, .string n.x, .string n.d, .int .i64 n.c, .int .i64 n.s, .int .i64 n.e, .int .i64 n.t, .bool n.o, .slice ai n.l.length ci, .slice az n.z.length cz] 25)
  have HB0 : Hid (Below w.heap.size w (w.alloc (.cells #[.int .i64 21, .string n.n, .string n.x, .string n.d, .int .i64 n.c, .int .i64 n.s, .int .i64 n.e, .int .i64 n.t, .bool n.o, .slice ai n.l.length ci, .slice az n.z.length cz] 25))) := (Below.refl _ w).alloc (Nat.le_refl _) _
  have HG := Lib.hid (fun W (hb : Below w.heap.size w W) => hG.below hb)
  have L := Lib.hid (fun W (g : Gp W) => live_any W g)
  have HR := Lib.hid (fun W (hb : Below w.heap.size w W) => h.below hb)
  have CS : Hid (∀ W, Below w.heap.size w W → Calls Tryd.prog 6 #[.agg #[.int .i64 21, .string n.n, .string n.x, .string n.d, .int .i64 n.c, .int .i64 n.s, .int .i64 n.e, .int .i64 n.t, .bool n.o, .slice ai n.l.length ci, .slice az n.z.length cz]] W (SmlP n W)) := fun W hb => by
    have k := small_any n ai az ci cz W (h.below hb)
    unfold nA at k
    rw [hk] at k
    exact k
  have CA : Hid (∀ W, Gp W → Calls Tryd.prog 10 #[.int .i64 ch, .string b] W (LpP y 0 W)) := fun W g => by
    have k := lparse_any ch b W g (by omega)
    rw [s1, s2] at k
    exact k
  have CC : Hid (∀ W pi pz ei ez, NtL W pi pz y → Calls Tryd.prog 12 #[.agg #[.int .i64 y.k, .string y.n, .string y.x, .string y.d, .int .i64 y.c, .int .i64 y.s, .int .i64 y.e, .int .i64 y.t, .bool y.o, .slice pi y.l.length ei, .slice pz y.z.length ez]] W (Gives (.int .i64 0) W)) := fun W pi pz ei ez hl => by
    have k := lcheck_any y pi pz ei ez W hl
    rw [s3, if_pos rfl] at k
    exact k
  have CD : Hid (∀ W pi pz ei ez, Gp W → NtL W pi pz y → Calls Tryd.prog 8 #[.agg #[.int .i64 y.k, .string y.n, .string y.x, .string y.d, .int .i64 y.c, .int .i64 y.s, .int .i64 y.e, .int .i64 y.t, .bool y.o, .slice pi y.l.length ei, .slice pz y.z.length ez], .int .i64 0] W (Gives (.tuple #[.int .i64 ch, .string b, .int .i64 0]) W)) := fun W pi pz ei ez g hl => by
    have k := lput_any y 0 pi pz ei ez W hl g
    rw [t1, t2, t3] at k
    exact k
  have HS4 := Lib.hid s4
  have v2 := bne_iff_ne.2 v1
  have v3 := beq_eq_false_iff_ne.2 v1
  have CP : Hid (∀ W, Gp W → NtL W ai az n → Calls Tryd.prog 8 #[.agg #[.int .i64 21, .string n.n, .string n.x, .string n.d, .int .i64 n.c, .int .i64 n.s, .int .i64 n.e, .int .i64 n.t, .bool n.o, .slice ai n.l.length ci, .slice az n.z.length cz], .int .i64 0] W (Gives (.tuple #[.int .i64 2, .string A, .int .i64 0]) W)) := fun W g hl => by
    have k := lput_any n 0 ai az ci cz W hl g
    rw [p1, p2, p3] at k
    unfold nA at k
    rw [hk] at k
    exact k
  have q1 : ¬ ((12000 : Int) < b.size) := by omega
  have hbm : b.size ≤ 12000 := by omega
  clear h hG s1 s2 s3 s4 t1 t2 t3 v1 p1 p2 p3 hk hb
  obtain ⟨m0, m1, m2, m3, m4, m5, m6, m7, m8, m9, m10⟩ := bx11 HX.out
  go_enter Tryd.func4, Tryd.ntmps4
  go_wp2_with fail
  refine (CS.out _ HB0.out).mono ?_
  rintro e w1 ⟨yn, rfl, hb, hs⟩
  clear m0 m1 m2 m3 m4 m5 m6 m7 m8 m9 m10
  have HX' := Lib.hid ((hb.block _ (heap_lt HX.out)).trans HX.out)
  clear HX
  have HX := HX'
  clear HX'
  have HB1 := Lib.hid (HB0.out.trans (hb.mono HB0.out.size))
  have HS := Lib.hid hs
  clear hb hs
  clear CS
  skip
  cases yn
  · skip
    clear HS HR CA CP CC CD HS4
    obtain ⟨m0, m1, m2, m3, m4, m5, m6, m7, m8, m9, m10⟩ := bx11 HX.out
    go_wp2_with fail
    refine (L.out _ (HG.out _ HB1.out)).mono ?_
    rintro e w2 ⟨rfl, hb⟩
    clear m0 m1 m2 m3 m4 m5 m6 m7 m8 m9 m10
    have HX' := Lib.hid ((hb.block _ (heap_lt HX.out)).trans HX.out)
    clear HX
    have HX := HX'
    clear HX'
    have HB2 := Lib.hid (HB1.out.trans (hb.mono HB1.out.size))
    clear hb
    obtain ⟨m0, m1, m2, m3, m4, m5, m6, m7, m8, m9, m10⟩ := bx11 HX.out
    go_wp2_with fail
    go_ret
    exact ⟨rfl, HB2.out⟩
  have HS1 := Lib.hid (HS.out rfl)
  clear HS
  obtain ⟨m0, m1, m2, m3, m4, m5, m6, m7, m8, m9, m10⟩ := bx11 HX.out
  go_wp2_with fail
  refine (CA.out _ (HG.out _ HB1.out)).mono ?_
  rintro e w2 ⟨pi, pz, ei, ez, rfl, hb, hI, hZ, -, -⟩
  clear m0 m1 m2 m3 m4 m5 m6 m7 m8 m9 m10
  have HX' := Lib.hid ((hb.block _ (heap_lt HX.out)).trans HX.out)
  clear HX
  have HX := HX'
  clear HX'
  have HB2 := Lib.hid (HB1.out.trans (hb.mono HB1.out.size))
  have HP : Hid (ItS w2 pi y.l ∧ CdS w2 pz y.z) := ⟨hI, hZ⟩
  clear hb hI hZ
  clear CA
  unfold nA
  have HPP : Hid (ItS (w2.alloc (.cells #[.int .i64 y.k, .string y.n, .string y.x, .string y.d, .int .i64 y.c, .int .i64 y.s, .int .i64 y.e, .int .i64 y.t, .bool y.o, .slice pi y.l.length ei, .slice pz y.z.length ez] 25)) pi y.l ∧ CdS (w2.alloc (.cells #[.int .i64 y.k, .string y.n, .string y.x, .string y.d, .int .i64 y.c, .int .i64 y.s, .int .i64 y.e, .int .i64 y.t, .bool y.o, .slice pi y.l.length ei, .slice pz y.z.length ez] 25)) pz y.z) := ⟨HP.out.1.below ((Below.refl _ _).alloc (Nat.le_refl _) _), HP.out.2.below ((Below.refl _ _).alloc (Nat.le_refl _) _)⟩
  clear HP
  have HP := Lib.hid (box_new w2 #[.int .i64 y.k, .string y.n, .string y.x, .string y.d, .int .i64 y.c, .int .i64 y.s, .int .i64 y.e, .int .i64 y.t, .bool y.o, .slice pi y.l.length ei, .slice pz y.z.length ez] 25)
  have HX' := Lib.hid ((Below.heap_alloc w2 (.cells #[.int .i64 y.k, .string y.n, .string y.x, .string y.d, .int .i64 y.c, .int .i64 y.s, .int .i64 y.e, .int .i64 y.t, .bool y.o, .slice pi y.l.length ei, .slice pz y.z.length ez] 25) _ (heap_lt HX.out)).trans HX.out)
  clear HX
  have HX := HX'
  clear HX'
  have HB2a := Lib.hid (HB2.out.alloc HB2.out.size (.cells #[.int .i64 y.k, .string y.n, .string y.x, .string y.d, .int .i64 y.c, .int .i64 y.s, .int .i64 y.e, .int .i64 y.t, .bool y.o, .slice pi y.l.length ei, .slice pz y.z.length ez] 25))
  have HPL := Lib.hid (nt_load HS4.out HPP.out.1 HPP.out.2)
  clear HPP HS4
  obtain ⟨m0, m1, m2, m3, m4, m5, m6, m7, m8, m9, m10⟩ := bx11 HX.out
  obtain ⟨u0, u1, u2, u3, u4, u5, u6, u7, u8, u9, u10⟩ := bx11 HP.out
  go_wp2_with fail
  refine (lnum_any _ _).mono ?_
  rintro e wz ⟨rfl, hw⟩
  have hw := hw.symm
  subst hw
  go_wp2_with fail
  refine (CC.out _ _ _ _ _ HPL.out).mono ?_
  rintro e w3 ⟨rfl, hb⟩
  clear m0 m1 m2 m3 m4 m5 m6 m7 m8 m9 m10
  clear u0 u1 u2 u3 u4 u5 u6 u7 u8 u9 u10
  have HX' := Lib.hid ((hb.block _ (heap_lt HX.out)).trans HX.out)
  clear HX
  have HX := HX'
  clear HX'
  have HP' := Lib.hid ((hb.block _ (heap_lt HP.out)).trans HP.out)
  clear HP
  have HP := HP'
  clear HP'
  have HB3 := Lib.hid (HB2a.out.trans (hb.mono HB2a.out.size))
  have HPL' := Lib.hid (HPL.out.below hb)
  clear HPL
  have HPL := HPL'
  clear HPL'
  clear hb
  obtain ⟨m0, m1, m2, m3, m4, m5, m6, m7, m8, m9, m10⟩ := bx11 HX.out
  obtain ⟨u0, u1, u2, u3, u4, u5, u6, u7, u8, u9, u10⟩ := bx11 HP.out
  go_wp2_with fail
  refine (lnum_any _ _).mono ?_
  rintro e wz ⟨rfl, hw⟩
  have hw := hw.symm
  subst hw
  go_wp2_with fail
  refine (CD.out _ _ _ _ _ (HG.out _ HB3.out) HPL.out).mono ?_
  rintro e w4 ⟨rfl, hb⟩
  clear m0 m1 m2 m3 m4 m5 m6 m7 m8 m9 m10
  clear u0 u1 u2 u3 u4 u5 u6 u7 u8 u9 u10
  have HX' := Lib.hid ((hb.block _ (heap_lt HX.out)).trans HX.out)
  clear HX
  have HX := HX'
  clear HX'
  have HB4 := Lib.hid (HB3.out.trans (hb.mono HB3.out.size))
  clear hb
  obtain ⟨m0, m1, m2, m3, m4, m5, m6, m7, m8, m9, m10⟩ := bx11 HX.out
  go_wp2_with fail
  clear CC CD HPL
  clear m0 m1 m2 m3 m4 m5 m6 m7 m8 m9 m10
  have XN : Hid (∀ z, Xc w4 9 #[.int .i64 z] (.int .i64 z)) := fun z => xc_pure fun W => lnum_any z W
  have hsome := extSome w4
  refine ext_region (by kernel_rfl) (by kernel_rfl) ?_
  repeat (go_big_quiet_step ((first | (go_at_call 9; with_reducible exact ext_call _ (XN.out _ _)))))
  refine wpQuiet_nil ?_
  rintro _ ⟨yy, hyy⟩
  subst hyy
  have HBy := Lib.hid (HB4.out.trans (yy.below.mono HB4.out.size))
  have HX' := Lib.hid ((yy.below.block _ (heap_lt HX.out)).trans HX.out)
  clear HX XN hsome
  have HX := HX'
  clear HX'
  obtain ⟨m0, m1, m2, m3, m4, m5, m6, m7, m8, m9, m10⟩ := bx11 HX.out
  go_wp2_with fail
  refine (CP.out _ (HG.out _ HBy.out) ((HR.out _ HBy.out).small HS1.out (by decide))).mono ?_
  rintro e w5 ⟨rfl, hb⟩
  clear m0 m1 m2 m3 m4 m5 m6 m7 m8 m9 m10
  have HX' := Lib.hid ((hb.block _ (heap_lt HX.out)).trans HX.out)
  clear HX
  have HX := HX'
  clear HX'
  have HB5 := Lib.hid (HBy.out.trans (hb.mono HBy.out.size))
  clear hb
  obtain ⟨m0, m1, m2, m3, m4, m5, m6, m7, m8, m9, m10⟩ := bx11 HX.out
  go_wp2_with fail
  clear CP
  refine (lnum_any _ _).mono ?_
  rintro e wz ⟨rfl, hw⟩
  have hw := hw.symm
  subst hw
  go_wp2_with fail
  refine (L.out _ (HG.out _ HB5.out)).mono ?_
  rintro e w6 ⟨rfl, hb⟩
  clear m0 m1 m2 m3 m4 m5 m6 m7 m8 m9 m10
  have HX' := Lib.hid ((hb.block _ (heap_lt HX.out)).trans HX.out)
  clear HX
  have HX := HX'
  clear HX'
  have HB6 := Lib.hid (HB5.out.trans (hb.mono HB5.out.size))
  clear hb
  obtain ⟨m0, m1, m2, m3, m4, m5, m6, m7, m8, m9, m10⟩ := bx11 HX.out
  go_wp2_with fail
  go_ret
  exact ⟨rfl, HB6.out⟩
set_option maxRecDepth 100000 in
set_option maxHeartbeats 8000000 in
theorem cut_p1_k22 (n : Nt) (ai az : Option Addr) (ci cz : Nat) (b : ByteArray) (ch : Int) (A : ByteArray) (cut : Int) (w : World) (h : NtR w ai az n) (hG : Gp w) (y : Nt) (s1 : lprs ch b = y) (s2 : lprsE ch b = 0) (s3 : may y = true) (s4 : Sm 1000000 y) (t1 : lputC y 0 = ch) (t2 : lputB y 0 = b) (t3 : lputX y 0 = 0) (v1 : ch ≠ 2) (p1 : lputC n 0 = 2) (p2 : lputB n 0 = A) (p3 : lputX n 0 = 0) (_zA : A.size ≤ 1000000) (hk : n.k = 22) (hb : ¬ 12000 < b.size) : Calls Tryd.prog 4 #[.int .i64 ch, .string b, nA n ai az ci cz, .int .i64 cut] w (OkL w) := by
  unfold nA
  have hk' := hk
  rw [hk]
  have HX := Lib.hid (box_new w #[.int .i64 22, .string n.n, .string n.x, .string n.d, .int .i64 n.c, .int .i64 n.s, .int .i64 n.e, .int .i64 n.t, .bool n.o, .slice ai n.l.length ci, .slice az n.z.length cz] 25)
  have HB0 : Hid (Below w.heap.size w (w.alloc (.cells #[.int .i64 22, .string n.n, .string n.x, .string n.d, .int .i64 n.c, .int .i64 n.s, .int .i64 n.e, .int .i64 n.t, .bool n.o, .slice ai n.l.length ci, .slice az n.z.length cz] 25))) := (Below.refl _ w).alloc (Nat.le_refl _) _
  have HG := Lib.hid (fun W (hb : Below w.heap.size w W) => hG.below hb)
  have L := Lib.hid (fun W (g : Gp W) => live_any W g)
  have HR := Lib.hid (fun W (hb : Below w.heap.size w W) => h.below hb)
  have CS : Hid (∀ W, Below w.heap.size w W → Calls Tryd.prog 6 #[.agg #[.int .i64 22, .string n.n, .string n.x, .string n.d, .int .i64 n.c, .int .i64 n.s, .int .i64 n.e, .int .i64 n.t, .bool n.o, .slice ai n.l.length ci, .slice az n.z.length cz]] W (SmlP n W)) := fun W hb => by
    have k := small_any n ai az ci cz W (h.below hb)
    unfold nA at k
    rw [hk] at k
    exact k
  have CA : Hid (∀ W, Gp W → Calls Tryd.prog 10 #[.int .i64 ch, .string b] W (LpP y 0 W)) := fun W g => by
    have k := lparse_any ch b W g (by omega)
    rw [s1, s2] at k
    exact k
  have CC : Hid (∀ W pi pz ei ez, NtL W pi pz y → Calls Tryd.prog 12 #[.agg #[.int .i64 y.k, .string y.n, .string y.x, .string y.d, .int .i64 y.c, .int .i64 y.s, .int .i64 y.e, .int .i64 y.t, .bool y.o, .slice pi y.l.length ei, .slice pz y.z.length ez]] W (Gives (.int .i64 0) W)) := fun W pi pz ei ez hl => by
    have k := lcheck_any y pi pz ei ez W hl
    rw [s3, if_pos rfl] at k
    exact k
  have CD : Hid (∀ W pi pz ei ez, Gp W → NtL W pi pz y → Calls Tryd.prog 8 #[.agg #[.int .i64 y.k, .string y.n, .string y.x, .string y.d, .int .i64 y.c, .int .i64 y.s, .int .i64 y.e, .int .i64 y.t, .bool y.o, .slice pi y.l.length ei, .slice pz y.z.length ez], .int .i64 0] W (Gives (.tuple #[.int .i64 ch, .string b, .int .i64 0]) W)) := fun W pi pz ei ez g hl => by
    have k := lput_any y 0 pi pz ei ez W hl g
    rw [t1, t2, t3] at k
    exact k
  have HS4 := Lib.hid s4
  have v2 := bne_iff_ne.2 v1
  have v3 := beq_eq_false_iff_ne.2 v1
  have CP : Hid (∀ W, Gp W → NtL W ai az n → Calls Tryd.prog 8 #[.agg #[.int .i64 22, .string n.n, .string n.x, .string n.d, .int .i64 n.c, .int .i64 n.s, .int .i64 n.e, .int .i64 n.t, .bool n.o, .slice ai n.l.length ci, .slice az n.z.length cz], .int .i64 0] W (Gives (.tuple #[.int .i64 2, .string A, .int .i64 0]) W)) := fun W g hl => by
    have k := lput_any n 0 ai az ci cz W hl g
    rw [p1, p2, p3] at k
    unfold nA at k
    rw [hk] at k
    exact k
  have q1 : ¬ ((12000 : Int) < b.size) := by omega
  have hbm : b.size ≤ 12000 := by omega
  clear h hG s1 s2 s3 s4 t1 t2 t3 v1 p1 p2 p3 hk hb
  obtain ⟨m0, m1, m2, m3, m4, m5, m6, m7, m8, m9, m10⟩ := bx11 HX.out
  go_enter Tryd.func4, Tryd.ntmps4
  go_wp2_with fail
  refine (CS.out _ HB0.out).mono ?_
  rintro e w1 ⟨yn, rfl, hb, hs⟩
  clear m0 m1 m2 m3 m4 m5 m6 m7 m8 m9 m10
  have HX' := Lib.hid ((hb.block _ (heap_lt HX.out)).trans HX.out)
  clear HX
  have HX := HX'
  clear HX'
  have HB1 := Lib.hid (HB0.out.trans (hb.mono HB0.out.size))
  have HS := Lib.hid hs
  clear hb hs
  clear CS
  skip
  cases yn
  · skip
    clear HS HR CA CP CC CD HS4
    obtain ⟨m0, m1, m2, m3, m4, m5, m6, m7, m8, m9, m10⟩ := bx11 HX.out
    go_wp2_with fail
    refine (L.out _ (HG.out _ HB1.out)).mono ?_
    rintro e w2 ⟨rfl, hb⟩
    clear m0 m1 m2 m3 m4 m5 m6 m7 m8 m9 m10
    have HX' := Lib.hid ((hb.block _ (heap_lt HX.out)).trans HX.out)
    clear HX
    have HX := HX'
    clear HX'
    have HB2 := Lib.hid (HB1.out.trans (hb.mono HB1.out.size))
    clear hb
    obtain ⟨m0, m1, m2, m3, m4, m5, m6, m7, m8, m9, m10⟩ := bx11 HX.out
    go_wp2_with fail
    go_ret
    exact ⟨rfl, HB2.out⟩
  have HS1 := Lib.hid (HS.out rfl)
  clear HS
  obtain ⟨m0, m1, m2, m3, m4, m5, m6, m7, m8, m9, m10⟩ := bx11 HX.out
  go_wp2_with fail
  refine (CA.out _ (HG.out _ HB1.out)).mono ?_
  rintro e w2 ⟨pi, pz, ei, ez, rfl, hb, hI, hZ, -, -⟩
  clear m0 m1 m2 m3 m4 m5 m6 m7 m8 m9 m10
  have HX' := Lib.hid ((hb.block _ (heap_lt HX.out)).trans HX.out)
  clear HX
  have HX := HX'
  clear HX'
  have HB2 := Lib.hid (HB1.out.trans (hb.mono HB1.out.size))
  have HP : Hid (ItS w2 pi y.l ∧ CdS w2 pz y.z) := ⟨hI, hZ⟩
  clear hb hI hZ
  clear CA
  unfold nA
  have HPP : Hid (ItS (w2.alloc (.cells #[.int .i64 y.k, .string y.n, .string y.x, .string y.d, .int .i64 y.c, .int .i64 y.s, .int .i64 y.e, .int .i64 y.t, .bool y.o, .slice pi y.l.length ei, .slice pz y.z.length ez] 25)) pi y.l ∧ CdS (w2.alloc (.cells #[.int .i64 y.k, .string y.n, .string y.x, .string y.d, .int .i64 y.c, .int .i64 y.s, .int .i64 y.e, .int .i64 y.t, .bool y.o, .slice pi y.l.length ei, .slice pz y.z.length ez] 25)) pz y.z) := ⟨HP.out.1.below ((Below.refl _ _).alloc (Nat.le_refl _) _), HP.out.2.below ((Below.refl _ _).alloc (Nat.le_refl _) _)⟩
  clear HP
  have HP := Lib.hid (box_new w2 #[.int .i64 y.k, .string y.n, .string y.x, .string y.d, .int .i64 y.c, .int .i64 y.s, .int .i64 y.e, .int .i64 y.t, .bool y.o, .slice pi y.l.length ei, .slice pz y.z.length ez] 25)
  have HX' := Lib.hid ((Below.heap_alloc w2 (.cells #[.int .i64 y.k, .string y.n, .string y.x, .string y.d, .int .i64 y.c, .int .i64 y.s, .int .i64 y.e, .int .i64 y.t, .bool y.o, .slice pi y.l.length ei, .slice pz y.z.length ez] 25) _ (heap_lt HX.out)).trans HX.out)
  clear HX
  have HX := HX'
  clear HX'
  have HB2a := Lib.hid (HB2.out.alloc HB2.out.size (.cells #[.int .i64 y.k, .string y.n, .string y.x, .string y.d, .int .i64 y.c, .int .i64 y.s, .int .i64 y.e, .int .i64 y.t, .bool y.o, .slice pi y.l.length ei, .slice pz y.z.length ez] 25))
  have HPL := Lib.hid (nt_load HS4.out HPP.out.1 HPP.out.2)
  clear HPP HS4
  obtain ⟨m0, m1, m2, m3, m4, m5, m6, m7, m8, m9, m10⟩ := bx11 HX.out
  obtain ⟨u0, u1, u2, u3, u4, u5, u6, u7, u8, u9, u10⟩ := bx11 HP.out
  go_wp2_with fail
  refine (lnum_any _ _).mono ?_
  rintro e wz ⟨rfl, hw⟩
  have hw := hw.symm
  subst hw
  go_wp2_with fail
  refine (CC.out _ _ _ _ _ HPL.out).mono ?_
  rintro e w3 ⟨rfl, hb⟩
  clear m0 m1 m2 m3 m4 m5 m6 m7 m8 m9 m10
  clear u0 u1 u2 u3 u4 u5 u6 u7 u8 u9 u10
  have HX' := Lib.hid ((hb.block _ (heap_lt HX.out)).trans HX.out)
  clear HX
  have HX := HX'
  clear HX'
  have HP' := Lib.hid ((hb.block _ (heap_lt HP.out)).trans HP.out)
  clear HP
  have HP := HP'
  clear HP'
  have HB3 := Lib.hid (HB2a.out.trans (hb.mono HB2a.out.size))
  have HPL' := Lib.hid (HPL.out.below hb)
  clear HPL
  have HPL := HPL'
  clear HPL'
  clear hb
  obtain ⟨m0, m1, m2, m3, m4, m5, m6, m7, m8, m9, m10⟩ := bx11 HX.out
  obtain ⟨u0, u1, u2, u3, u4, u5, u6, u7, u8, u9, u10⟩ := bx11 HP.out
  go_wp2_with fail
  refine (lnum_any _ _).mono ?_
  rintro e wz ⟨rfl, hw⟩
  have hw := hw.symm
  subst hw
  go_wp2_with fail
  refine (CD.out _ _ _ _ _ (HG.out _ HB3.out) HPL.out).mono ?_
  rintro e w4 ⟨rfl, hb⟩
  clear m0 m1 m2 m3 m4 m5 m6 m7 m8 m9 m10
  clear u0 u1 u2 u3 u4 u5 u6 u7 u8 u9 u10
  have HX' := Lib.hid ((hb.block _ (heap_lt HX.out)).trans HX.out)
  clear HX
  have HX := HX'
  clear HX'
  have HB4 := Lib.hid (HB3.out.trans (hb.mono HB3.out.size))
  clear hb
  obtain ⟨m0, m1, m2, m3, m4, m5, m6, m7, m8, m9, m10⟩ := bx11 HX.out
  go_wp2_with fail
  clear CC CD HPL
  clear m0 m1 m2 m3 m4 m5 m6 m7 m8 m9 m10
  have XN : Hid (∀ z, Xc w4 9 #[.int .i64 z] (.int .i64 z)) := fun z => xc_pure fun W => lnum_any z W
  have hsome := extSome w4
  refine ext_region (by kernel_rfl) (by kernel_rfl) ?_
  repeat (go_big_quiet_step ((first | (go_at_call 9; with_reducible exact ext_call _ (XN.out _ _)))))
  refine wpQuiet_nil ?_
  rintro _ ⟨yy, hyy⟩
  subst hyy
  have HBy := Lib.hid (HB4.out.trans (yy.below.mono HB4.out.size))
  have HX' := Lib.hid ((yy.below.block _ (heap_lt HX.out)).trans HX.out)
  clear HX XN hsome
  have HX := HX'
  clear HX'
  obtain ⟨m0, m1, m2, m3, m4, m5, m6, m7, m8, m9, m10⟩ := bx11 HX.out
  go_wp2_with fail
  refine (CP.out _ (HG.out _ HBy.out) ((HR.out _ HBy.out).small HS1.out (by decide))).mono ?_
  rintro e w5 ⟨rfl, hb⟩
  clear m0 m1 m2 m3 m4 m5 m6 m7 m8 m9 m10
  have HX' := Lib.hid ((hb.block _ (heap_lt HX.out)).trans HX.out)
  clear HX
  have HX := HX'
  clear HX'
  have HB5 := Lib.hid (HBy.out.trans (hb.mono HBy.out.size))
  clear hb
  obtain ⟨m0, m1, m2, m3, m4, m5, m6, m7, m8, m9, m10⟩ := bx11 HX.out
  go_wp2_with fail
  clear CP
  refine (lnum_any _ _).mono ?_
  rintro e wz ⟨rfl, hw⟩
  have hw := hw.symm
  subst hw
  go_wp2_with fail
  refine (L.out _ (HG.out _ HB5.out)).mono ?_
  rintro e w6 ⟨rfl, hb⟩
  clear m0 m1 m2 m3 m4 m5 m6 m7 m8 m9 m10
  have HX' := Lib.hid ((hb.block _ (heap_lt HX.out)).trans HX.out)
  clear HX
  have HX := HX'
  clear HX'
  have HB6 := Lib.hid (HB5.out.trans (hb.mono HB5.out.size))
  clear hb
  obtain ⟨m0, m1, m2, m3, m4, m5, m6, m7, m8, m9, m10⟩ := bx11 HX.out
  go_wp2_with fail
  go_ret
  exact ⟨rfl, HB6.out⟩
set_option maxRecDepth 100000 in
set_option maxHeartbeats 8000000 in
theorem cut_p1_k25 (n : Nt) (ai az : Option Addr) (ci cz : Nat) (b : ByteArray) (ch : Int) (A : ByteArray) (cut : Int) (w : World) (h : NtR w ai az n) (hG : Gp w) (y : Nt) (s1 : lprs ch b = y) (s2 : lprsE ch b = 0) (s3 : may y = true) (s4 : Sm 1000000 y) (t1 : lputC y 0 = ch) (t2 : lputB y 0 = b) (t3 : lputX y 0 = 0) (v1 : ch ≠ 2) (p1 : lputC n 0 = 2) (p2 : lputB n 0 = A) (p3 : lputX n 0 = 0) (_zA : A.size ≤ 1000000) (hk : n.k = 25) (hb : ¬ 12000 < b.size) : Calls Tryd.prog 4 #[.int .i64 ch, .string b, nA n ai az ci cz, .int .i64 cut] w (OkL w) := by
  unfold nA
  have hk' := hk
  rw [hk]
  have HX := Lib.hid (box_new w #[.int .i64 25, .string n.n, .string n.x, .string n.d, .int .i64 n.c, .int .i64 n.s, .int .i64 n.e, .int .i64 n.t, .bool n.o, .slice ai n.l.length ci, .slice az n.z.length cz] 25)
  have HB0 : Hid (Below w.heap.size w (w.alloc (.cells #[.int .i64 25, .string n.n, .string n.x, .string n.d, .int .i64 n.c, .int .i64 n.s, .int .i64 n.e, .int .i64 n.t, .bool n.o, .slice ai n.l.length ci, .slice az n.z.length cz] 25))) := (Below.refl _ w).alloc (Nat.le_refl _) _
  have HG := Lib.hid (fun W (hb : Below w.heap.size w W) => hG.below hb)
  have L := Lib.hid (fun W (g : Gp W) => live_any W g)
  have HR := Lib.hid (fun W (hb : Below w.heap.size w W) => h.below hb)
  have CS : Hid (∀ W, Below w.heap.size w W → Calls Tryd.prog 6 #[.agg #[.int .i64 25, .string n.n, .string n.x, .string n.d, .int .i64 n.c, .int .i64 n.s, .int .i64 n.e, .int .i64 n.t, .bool n.o, .slice ai n.l.length ci, .slice az n.z.length cz]] W (SmlP n W)) := fun W hb => by
    have k := small_any n ai az ci cz W (h.below hb)
    unfold nA at k
    rw [hk] at k
    exact k
  have CA : Hid (∀ W, Gp W → Calls Tryd.prog 10 #[.int .i64 ch, .string b] W (LpP y 0 W)) := fun W g => by
    have k := lparse_any ch b W g (by omega)
    rw [s1, s2] at k
    exact k
  have CC : Hid (∀ W pi pz ei ez, NtL W pi pz y → Calls Tryd.prog 12 #[.agg #[.int .i64 y.k, .string y.n, .string y.x, .string y.d, .int .i64 y.c, .int .i64 y.s, .int .i64 y.e, .int .i64 y.t, .bool y.o, .slice pi y.l.length ei, .slice pz y.z.length ez]] W (Gives (.int .i64 0) W)) := fun W pi pz ei ez hl => by
    have k := lcheck_any y pi pz ei ez W hl
    rw [s3, if_pos rfl] at k
    exact k
  have CD : Hid (∀ W pi pz ei ez, Gp W → NtL W pi pz y → Calls Tryd.prog 8 #[.agg #[.int .i64 y.k, .string y.n, .string y.x, .string y.d, .int .i64 y.c, .int .i64 y.s, .int .i64 y.e, .int .i64 y.t, .bool y.o, .slice pi y.l.length ei, .slice pz y.z.length ez], .int .i64 0] W (Gives (.tuple #[.int .i64 ch, .string b, .int .i64 0]) W)) := fun W pi pz ei ez g hl => by
    have k := lput_any y 0 pi pz ei ez W hl g
    rw [t1, t2, t3] at k
    exact k
  have HS4 := Lib.hid s4
  have v2 := bne_iff_ne.2 v1
  have v3 := beq_eq_false_iff_ne.2 v1
  have CP : Hid (∀ W, Gp W → NtL W ai az n → Calls Tryd.prog 8 #[.agg #[.int .i64 25, .string n.n, .string n.x, .string n.d, .int .i64 n.c, .int .i64 n.s, .int .i64 n.e, .int .i64 n.t, .bool n.o, .slice ai n.l.length ci, .slice az n.z.length cz], .int .i64 0] W (Gives (.tuple #[.int .i64 2, .string A, .int .i64 0]) W)) := fun W g hl => by
    have k := lput_any n 0 ai az ci cz W hl g
    rw [p1, p2, p3] at k
    unfold nA at k
    rw [hk] at k
    exact k
  have q1 : ¬ ((12000 : Int) < b.size) := by omega
  have hbm : b.size ≤ 12000 := by omega
  clear h hG s1 s2 s3 s4 t1 t2 t3 v1 p1 p2 p3 hk hb
  obtain ⟨m0, m1, m2, m3, m4, m5, m6, m7, m8, m9, m10⟩ := bx11 HX.out
  go_enter Tryd.func4, Tryd.ntmps4
  go_wp2_with fail
  refine (CS.out _ HB0.out).mono ?_
  rintro e w1 ⟨yn, rfl, hb, hs⟩
  clear m0 m1 m2 m3 m4 m5 m6 m7 m8 m9 m10
  have HX' := Lib.hid ((hb.block _ (heap_lt HX.out)).trans HX.out)
  clear HX
  have HX := HX'
  clear HX'
  have HB1 := Lib.hid (HB0.out.trans (hb.mono HB0.out.size))
  have HS := Lib.hid hs
  clear hb hs
  clear CS
  skip
  cases yn
  · skip
    clear HS HR CA CP CC CD HS4
    obtain ⟨m0, m1, m2, m3, m4, m5, m6, m7, m8, m9, m10⟩ := bx11 HX.out
    go_wp2_with fail
    refine (L.out _ (HG.out _ HB1.out)).mono ?_
    rintro e w2 ⟨rfl, hb⟩
    clear m0 m1 m2 m3 m4 m5 m6 m7 m8 m9 m10
    have HX' := Lib.hid ((hb.block _ (heap_lt HX.out)).trans HX.out)
    clear HX
    have HX := HX'
    clear HX'
    have HB2 := Lib.hid (HB1.out.trans (hb.mono HB1.out.size))
    clear hb
    obtain ⟨m0, m1, m2, m3, m4, m5, m6, m7, m8, m9, m10⟩ := bx11 HX.out
    go_wp2_with fail
    go_ret
    exact ⟨rfl, HB2.out⟩
  have HS1 := Lib.hid (HS.out rfl)
  clear HS
  obtain ⟨m0, m1, m2, m3, m4, m5, m6, m7, m8, m9, m10⟩ := bx11 HX.out
  go_wp2_with fail
  refine (CA.out _ (HG.out _ HB1.out)).mono ?_
  rintro e w2 ⟨pi, pz, ei, ez, rfl, hb, hI, hZ, -, -⟩
  clear m0 m1 m2 m3 m4 m5 m6 m7 m8 m9 m10
  have HX' := Lib.hid ((hb.block _ (heap_lt HX.out)).trans HX.out)
  clear HX
  have HX := HX'
  clear HX'
  have HB2 := Lib.hid (HB1.out.trans (hb.mono HB1.out.size))
  have HP : Hid (ItS w2 pi y.l ∧ CdS w2 pz y.z) := ⟨hI, hZ⟩
  clear hb hI hZ
  clear CA
  unfold nA
  have HPP : Hid (ItS (w2.alloc (.cells #[.int .i64 y.k, .string y.n, .string y.x, .string y.d, .int .i64 y.c, .int .i64 y.s, .int .i64 y.e, .int .i64 y.t, .bool y.o, .slice pi y.l.length ei, .slice pz y.z.length ez] 25)) pi y.l ∧ CdS (w2.alloc (.cells #[.int .i64 y.k, .string y.n, .string y.x, .string y.d, .int .i64 y.c, .int .i64 y.s, .int .i64 y.e, .int .i64 y.t, .bool y.o, .slice pi y.l.length ei, .slice pz y.z.length ez] 25)) pz y.z) := ⟨HP.out.1.below ((Below.refl _ _).alloc (Nat.le_refl _) _), HP.out.2.below ((Below.refl _ _).alloc (Nat.le_refl _) _)⟩
  clear HP
  have HP := Lib.hid (box_new w2 #[.int .i64 y.k, .string y.n, .string y.x, .string y.d, .int .i64 y.c, .int .i64 y.s, .int .i64 y.e, .int .i64 y.t, .bool y.o, .slice pi y.l.length ei, .slice pz y.z.length ez] 25)
  have HX' := Lib.hid ((Below.heap_alloc w2 (.cells #[.int .i64 y.k, .string y.n, .string y.x, .string y.d, .int .i64 y.c, .int .i64 y.s, .int .i64 y.e, .int .i64 y.t, .bool y.o, .slice pi y.l.length ei, .slice pz y.z.length ez] 25) _ (heap_lt HX.out)).trans HX.out)
  clear HX
  have HX := HX'
  clear HX'
  have HB2a := Lib.hid (HB2.out.alloc HB2.out.size (.cells #[.int .i64 y.k, .string y.n, .string y.x, .string y.d, .int .i64 y.c, .int .i64 y.s, .int .i64 y.e, .int .i64 y.t, .bool y.o, .slice pi y.l.length ei, .slice pz y.z.length ez] 25))
  have HPL := Lib.hid (nt_load HS4.out HPP.out.1 HPP.out.2)
  clear HPP HS4
  obtain ⟨m0, m1, m2, m3, m4, m5, m6, m7, m8, m9, m10⟩ := bx11 HX.out
  obtain ⟨u0, u1, u2, u3, u4, u5, u6, u7, u8, u9, u10⟩ := bx11 HP.out
  go_wp2_with fail
  refine (lnum_any _ _).mono ?_
  rintro e wz ⟨rfl, hw⟩
  have hw := hw.symm
  subst hw
  go_wp2_with fail
  refine (CC.out _ _ _ _ _ HPL.out).mono ?_
  rintro e w3 ⟨rfl, hb⟩
  clear m0 m1 m2 m3 m4 m5 m6 m7 m8 m9 m10
  clear u0 u1 u2 u3 u4 u5 u6 u7 u8 u9 u10
  have HX' := Lib.hid ((hb.block _ (heap_lt HX.out)).trans HX.out)
  clear HX
  have HX := HX'
  clear HX'
  have HP' := Lib.hid ((hb.block _ (heap_lt HP.out)).trans HP.out)
  clear HP
  have HP := HP'
  clear HP'
  have HB3 := Lib.hid (HB2a.out.trans (hb.mono HB2a.out.size))
  have HPL' := Lib.hid (HPL.out.below hb)
  clear HPL
  have HPL := HPL'
  clear HPL'
  clear hb
  obtain ⟨m0, m1, m2, m3, m4, m5, m6, m7, m8, m9, m10⟩ := bx11 HX.out
  obtain ⟨u0, u1, u2, u3, u4, u5, u6, u7, u8, u9, u10⟩ := bx11 HP.out
  go_wp2_with fail
  refine (lnum_any _ _).mono ?_
  rintro e wz ⟨rfl, hw⟩
  have hw := hw.symm
  subst hw
  go_wp2_with fail
  refine (CD.out _ _ _ _ _ (HG.out _ HB3.out) HPL.out).mono ?_
  rintro e w4 ⟨rfl, hb⟩
  clear m0 m1 m2 m3 m4 m5 m6 m7 m8 m9 m10
  clear u0 u1 u2 u3 u4 u5 u6 u7 u8 u9 u10
  have HX' := Lib.hid ((hb.block _ (heap_lt HX.out)).trans HX.out)
  clear HX
  have HX := HX'
  clear HX'
  have HB4 := Lib.hid (HB3.out.trans (hb.mono HB3.out.size))
  clear hb
  obtain ⟨m0, m1, m2, m3, m4, m5, m6, m7, m8, m9, m10⟩ := bx11 HX.out
  go_wp2_with fail
  clear CC CD HPL
  clear m0 m1 m2 m3 m4 m5 m6 m7 m8 m9 m10
  have XN : Hid (∀ z, Xc w4 9 #[.int .i64 z] (.int .i64 z)) := fun z => xc_pure fun W => lnum_any z W
  have hsome := extSome w4
  refine ext_region (by kernel_rfl) (by kernel_rfl) ?_
  repeat (go_big_quiet_step ((first | (go_at_call 9; with_reducible exact ext_call _ (XN.out _ _)))))
  refine wpQuiet_nil ?_
  rintro _ ⟨yy, hyy⟩
  subst hyy
  have HBy := Lib.hid (HB4.out.trans (yy.below.mono HB4.out.size))
  have HX' := Lib.hid ((yy.below.block _ (heap_lt HX.out)).trans HX.out)
  clear HX XN hsome
  have HX := HX'
  clear HX'
  obtain ⟨m0, m1, m2, m3, m4, m5, m6, m7, m8, m9, m10⟩ := bx11 HX.out
  go_wp2_with fail
  refine (CP.out _ (HG.out _ HBy.out) ((HR.out _ HBy.out).small HS1.out (by decide))).mono ?_
  rintro e w5 ⟨rfl, hb⟩
  clear m0 m1 m2 m3 m4 m5 m6 m7 m8 m9 m10
  have HX' := Lib.hid ((hb.block _ (heap_lt HX.out)).trans HX.out)
  clear HX
  have HX := HX'
  clear HX'
  have HB5 := Lib.hid (HBy.out.trans (hb.mono HBy.out.size))
  clear hb
  obtain ⟨m0, m1, m2, m3, m4, m5, m6, m7, m8, m9, m10⟩ := bx11 HX.out
  go_wp2_with fail
  clear CP
  refine (lnum_any _ _).mono ?_
  rintro e wz ⟨rfl, hw⟩
  have hw := hw.symm
  subst hw
  go_wp2_with fail
  refine (L.out _ (HG.out _ HB5.out)).mono ?_
  rintro e w6 ⟨rfl, hb⟩
  clear m0 m1 m2 m3 m4 m5 m6 m7 m8 m9 m10
  have HX' := Lib.hid ((hb.block _ (heap_lt HX.out)).trans HX.out)
  clear HX
  have HX := HX'
  clear HX'
  have HB6 := Lib.hid (HB5.out.trans (hb.mono HB5.out.size))
  clear hb
  obtain ⟨m0, m1, m2, m3, m4, m5, m6, m7, m8, m9, m10⟩ := bx11 HX.out
  go_wp2_with fail
  go_ret
  exact ⟨rfl, HB6.out⟩
set_option maxRecDepth 100000 in
set_option maxHeartbeats 8000000 in
theorem cut_p1_neg (n : Nt) (ai az : Option Addr) (ci cz : Nat) (b : ByteArray) (ch : Int) (A : ByteArray) (cut : Int) (w : World) (h : NtR w ai az n) (hG : Gp w) (y : Nt) (s1 : lprs ch b = y) (s2 : lprsE ch b = 0) (s3 : may y = true) (s4 : Sm 1000000 y) (t1 : lputC y 0 = ch) (t2 : lputB y 0 = b) (t3 : lputX y 0 = 0) (v1 : ch ≠ 2) (p1 : lputC n 0 = 2) (p2 : lputB n 0 = A) (p3 : lputX n 0 = 0) (_zA : A.size ≤ 1000000) (k20 : n.k ≠ 20) (k21 : n.k ≠ 21) (k22 : n.k ≠ 22) (k25 : n.k ≠ 25) (hc : cut < 0) (hb : ¬ 12000 < b.size) : Calls Tryd.prog 4 #[.int .i64 ch, .string b, nA n ai az ci cz, .int .i64 cut] w (OkL w) := by
  unfold nA
  have HX := Lib.hid (box_new w #[.int .i64 n.k, .string n.n, .string n.x, .string n.d, .int .i64 n.c, .int .i64 n.s, .int .i64 n.e, .int .i64 n.t, .bool n.o, .slice ai n.l.length ci, .slice az n.z.length cz] 25)
  have HB0 : Hid (Below w.heap.size w (w.alloc (.cells #[.int .i64 n.k, .string n.n, .string n.x, .string n.d, .int .i64 n.c, .int .i64 n.s, .int .i64 n.e, .int .i64 n.t, .bool n.o, .slice ai n.l.length ci, .slice az n.z.length cz] 25))) := (Below.refl _ w).alloc (Nat.le_refl _) _
  have HG := Lib.hid (fun W (hb : Below w.heap.size w W) => hG.below hb)
  have L := Lib.hid (fun W (g : Gp W) => live_any W g)
  have HR := Lib.hid (fun W (hb : Below w.heap.size w W) => h.below hb)
  have CS : Hid (∀ W, Below w.heap.size w W → Calls Tryd.prog 6 #[.agg #[.int .i64 n.k, .string n.n, .string n.x, .string n.d, .int .i64 n.c, .int .i64 n.s, .int .i64 n.e, .int .i64 n.t, .bool n.o, .slice ai n.l.length ci, .slice az n.z.length cz]] W (SmlP n W)) := fun W hb => by
    have k := small_any n ai az ci cz W (h.below hb)
    exact k
  have CA : Hid (∀ W, Gp W → Calls Tryd.prog 10 #[.int .i64 ch, .string b] W (LpP y 0 W)) := fun W g => by
    have k := lparse_any ch b W g (by omega)
    rw [s1, s2] at k
    exact k
  have CC : Hid (∀ W pi pz ei ez, NtL W pi pz y → Calls Tryd.prog 12 #[.agg #[.int .i64 y.k, .string y.n, .string y.x, .string y.d, .int .i64 y.c, .int .i64 y.s, .int .i64 y.e, .int .i64 y.t, .bool y.o, .slice pi y.l.length ei, .slice pz y.z.length ez]] W (Gives (.int .i64 0) W)) := fun W pi pz ei ez hl => by
    have k := lcheck_any y pi pz ei ez W hl
    rw [s3, if_pos rfl] at k
    exact k
  have CD : Hid (∀ W pi pz ei ez, Gp W → NtL W pi pz y → Calls Tryd.prog 8 #[.agg #[.int .i64 y.k, .string y.n, .string y.x, .string y.d, .int .i64 y.c, .int .i64 y.s, .int .i64 y.e, .int .i64 y.t, .bool y.o, .slice pi y.l.length ei, .slice pz y.z.length ez], .int .i64 0] W (Gives (.tuple #[.int .i64 ch, .string b, .int .i64 0]) W)) := fun W pi pz ei ez g hl => by
    have k := lput_any y 0 pi pz ei ez W hl g
    rw [t1, t2, t3] at k
    exact k
  have HS4 := Lib.hid s4
  have v2 := bne_iff_ne.2 v1
  have v3 := beq_eq_false_iff_ne.2 v1
  have f20 := beq_eq_false_iff_ne.2 k20
  have f21 := beq_eq_false_iff_ne.2 k21
  have f22 := beq_eq_false_iff_ne.2 k22
  have f25 := beq_eq_false_iff_ne.2 k25
  have CP : Hid (∀ W, Gp W → NtL W ai az n → Calls Tryd.prog 8 #[.agg #[.int .i64 n.k, .string n.n, .string n.x, .string n.d, .int .i64 n.c, .int .i64 n.s, .int .i64 n.e, .int .i64 n.t, .bool n.o, .slice ai n.l.length ci, .slice az n.z.length cz], .int .i64 0] W (Gives (.tuple #[.int .i64 2, .string A, .int .i64 0]) W)) := fun W g hl => by
    have k := lput_any n 0 ai az ci cz W hl g
    rw [p1, p2, p3] at k
    exact k
  have q1 : ¬ ((12000 : Int) < b.size) := by omega
  have hbm : b.size ≤ 12000 := by omega
  clear h hG s1 s2 s3 s4 t1 t2 t3 v1 p1 p2 p3 k20 k21 k22 k25 hb
  obtain ⟨m0, m1, m2, m3, m4, m5, m6, m7, m8, m9, m10⟩ := bx11 HX.out
  go_enter Tryd.func4, Tryd.ntmps4
  go_wp2_with fail
  refine (CS.out _ HB0.out).mono ?_
  rintro e w1 ⟨yn, rfl, hb, hs⟩
  clear m0 m1 m2 m3 m4 m5 m6 m7 m8 m9 m10
  have HX' := Lib.hid ((hb.block _ (heap_lt HX.out)).trans HX.out)
  clear HX
  have HX := HX'
  clear HX'
  have HB1 := Lib.hid (HB0.out.trans (hb.mono HB0.out.size))
  have HS := Lib.hid hs
  clear hb hs
  clear CS
  skip
  cases yn
  · skip
    clear HS HR CA CP CC CD HS4
    obtain ⟨m0, m1, m2, m3, m4, m5, m6, m7, m8, m9, m10⟩ := bx11 HX.out
    go_wp2_with fail
    refine (L.out _ (HG.out _ HB1.out)).mono ?_
    rintro e w2 ⟨rfl, hb⟩
    clear m0 m1 m2 m3 m4 m5 m6 m7 m8 m9 m10
    have HX' := Lib.hid ((hb.block _ (heap_lt HX.out)).trans HX.out)
    clear HX
    have HX := HX'
    clear HX'
    have HB2 := Lib.hid (HB1.out.trans (hb.mono HB1.out.size))
    clear hb
    obtain ⟨m0, m1, m2, m3, m4, m5, m6, m7, m8, m9, m10⟩ := bx11 HX.out
    go_wp2_with fail
    go_ret
    exact ⟨rfl, HB2.out⟩
  have HS1 := Lib.hid (HS.out rfl)
  clear HS
  obtain ⟨m0, m1, m2, m3, m4, m5, m6, m7, m8, m9, m10⟩ := bx11 HX.out
  go_wp2_with fail
  refine (CA.out _ (HG.out _ HB1.out)).mono ?_
  rintro e w2 ⟨pi, pz, ei, ez, rfl, hb, hI, hZ, -, -⟩
  clear m0 m1 m2 m3 m4 m5 m6 m7 m8 m9 m10
  have HX' := Lib.hid ((hb.block _ (heap_lt HX.out)).trans HX.out)
  clear HX
  have HX := HX'
  clear HX'
  have HB2 := Lib.hid (HB1.out.trans (hb.mono HB1.out.size))
  have HP : Hid (ItS w2 pi y.l ∧ CdS w2 pz y.z) := ⟨hI, hZ⟩
  clear hb hI hZ
  clear CA
  unfold nA
  have HPP : Hid (ItS (w2.alloc (.cells #[.int .i64 y.k, .string y.n, .string y.x, .string y.d, .int .i64 y.c, .int .i64 y.s, .int .i64 y.e, .int .i64 y.t, .bool y.o, .slice pi y.l.length ei, .slice pz y.z.length ez] 25)) pi y.l ∧ CdS (w2.alloc (.cells #[.int .i64 y.k, .string y.n, .string y.x, .string y.d, .int .i64 y.c, .int .i64 y.s, .int .i64 y.e, .int .i64 y.t, .bool y.o, .slice pi y.l.length ei, .slice pz y.z.length ez] 25)) pz y.z) := ⟨HP.out.1.below ((Below.refl _ _).alloc (Nat.le_refl _) _), HP.out.2.below ((Below.refl _ _).alloc (Nat.le_refl _) _)⟩
  clear HP
  have HP := Lib.hid (box_new w2 #[.int .i64 y.k, .string y.n, .string y.x, .string y.d, .int .i64 y.c, .int .i64 y.s, .int .i64 y.e, .int .i64 y.t, .bool y.o, .slice pi y.l.length ei, .slice pz y.z.length ez] 25)
  have HX' := Lib.hid ((Below.heap_alloc w2 (.cells #[.int .i64 y.k, .string y.n, .string y.x, .string y.d, .int .i64 y.c, .int .i64 y.s, .int .i64 y.e, .int .i64 y.t, .bool y.o, .slice pi y.l.length ei, .slice pz y.z.length ez] 25) _ (heap_lt HX.out)).trans HX.out)
  clear HX
  have HX := HX'
  clear HX'
  have HB2a := Lib.hid (HB2.out.alloc HB2.out.size (.cells #[.int .i64 y.k, .string y.n, .string y.x, .string y.d, .int .i64 y.c, .int .i64 y.s, .int .i64 y.e, .int .i64 y.t, .bool y.o, .slice pi y.l.length ei, .slice pz y.z.length ez] 25))
  have HPL := Lib.hid (nt_load HS4.out HPP.out.1 HPP.out.2)
  clear HPP HS4
  obtain ⟨m0, m1, m2, m3, m4, m5, m6, m7, m8, m9, m10⟩ := bx11 HX.out
  obtain ⟨u0, u1, u2, u3, u4, u5, u6, u7, u8, u9, u10⟩ := bx11 HP.out
  go_wp2_with fail
  refine (lnum_any _ _).mono ?_
  rintro e wz ⟨rfl, hw⟩
  have hw := hw.symm
  subst hw
  go_wp2_with fail
  refine (CC.out _ _ _ _ _ HPL.out).mono ?_
  rintro e w3 ⟨rfl, hb⟩
  clear m0 m1 m2 m3 m4 m5 m6 m7 m8 m9 m10
  clear u0 u1 u2 u3 u4 u5 u6 u7 u8 u9 u10
  have HX' := Lib.hid ((hb.block _ (heap_lt HX.out)).trans HX.out)
  clear HX
  have HX := HX'
  clear HX'
  have HP' := Lib.hid ((hb.block _ (heap_lt HP.out)).trans HP.out)
  clear HP
  have HP := HP'
  clear HP'
  have HB3 := Lib.hid (HB2a.out.trans (hb.mono HB2a.out.size))
  have HPL' := Lib.hid (HPL.out.below hb)
  clear HPL
  have HPL := HPL'
  clear HPL'
  clear hb
  obtain ⟨m0, m1, m2, m3, m4, m5, m6, m7, m8, m9, m10⟩ := bx11 HX.out
  obtain ⟨u0, u1, u2, u3, u4, u5, u6, u7, u8, u9, u10⟩ := bx11 HP.out
  go_wp2_with fail
  refine (lnum_any _ _).mono ?_
  rintro e wz ⟨rfl, hw⟩
  have hw := hw.symm
  subst hw
  go_wp2_with fail
  refine (CD.out _ _ _ _ _ (HG.out _ HB3.out) HPL.out).mono ?_
  rintro e w4 ⟨rfl, hb⟩
  clear m0 m1 m2 m3 m4 m5 m6 m7 m8 m9 m10
  clear u0 u1 u2 u3 u4 u5 u6 u7 u8 u9 u10
  have HX' := Lib.hid ((hb.block _ (heap_lt HX.out)).trans HX.out)
  clear HX
  have HX := HX'
  clear HX'
  have HB4 := Lib.hid (HB3.out.trans (hb.mono HB3.out.size))
  clear hb
  obtain ⟨m0, m1, m2, m3, m4, m5, m6, m7, m8, m9, m10⟩ := bx11 HX.out
  go_wp2_with fail
  clear CC CD HPL
  clear m0 m1 m2 m3 m4 m5 m6 m7 m8 m9 m10
  have XN : Hid (∀ z, Xc w4 9 #[.int .i64 z] (.int .i64 z)) := fun z => xc_pure fun W => lnum_any z W
  have hsome := extSome w4
  refine ext_region (by kernel_rfl) (by kernel_rfl) ?_
  repeat (go_big_quiet_step ((first | (go_at_call 9; with_reducible exact ext_call _ (XN.out _ _)))))
  refine wpQuiet_nil ?_
  rintro _ ⟨yy, hyy⟩
  subst hyy
  have HBy := Lib.hid (HB4.out.trans (yy.below.mono HB4.out.size))
  have HX' := Lib.hid ((yy.below.block _ (heap_lt HX.out)).trans HX.out)
  clear HX XN hsome
  have HX := HX'
  clear HX'
  obtain ⟨m0, m1, m2, m3, m4, m5, m6, m7, m8, m9, m10⟩ := bx11 HX.out
  go_wp2_with fail
  refine (CP.out _ (HG.out _ HBy.out) ((HR.out _ HBy.out).small HS1.out (by decide))).mono ?_
  rintro e w5 ⟨rfl, hb⟩
  clear m0 m1 m2 m3 m4 m5 m6 m7 m8 m9 m10
  have HX' := Lib.hid ((hb.block _ (heap_lt HX.out)).trans HX.out)
  clear HX
  have HX := HX'
  clear HX'
  have HB5 := Lib.hid (HBy.out.trans (hb.mono HBy.out.size))
  clear hb
  obtain ⟨m0, m1, m2, m3, m4, m5, m6, m7, m8, m9, m10⟩ := bx11 HX.out
  go_wp2_with fail
  clear CP
  refine (lnum_any _ _).mono ?_
  rintro e wz ⟨rfl, hw⟩
  have hw := hw.symm
  subst hw
  go_wp2_with fail
  refine (L.out _ (HG.out _ HB5.out)).mono ?_
  rintro e w6 ⟨rfl, hb⟩
  clear m0 m1 m2 m3 m4 m5 m6 m7 m8 m9 m10
  have HX' := Lib.hid ((hb.block _ (heap_lt HX.out)).trans HX.out)
  clear HX
  have HX := HX'
  clear HX'
  have HB6 := Lib.hid (HB5.out.trans (hb.mono HB5.out.size))
  clear hb
  obtain ⟨m0, m1, m2, m3, m4, m5, m6, m7, m8, m9, m10⟩ := bx11 HX.out
  go_wp2_with fail
  go_ret
  exact ⟨rfl, HB6.out⟩
set_option maxRecDepth 100000 in
set_option maxHeartbeats 8000000 in
theorem cut_p1_long (n : Nt) (ai az : Option Addr) (ci cz : Nat) (b : ByteArray) (ch : Int) (A : ByteArray) (cut : Int) (w : World) (h : NtR w ai az n) (hG : Gp w) (y : Nt) (s1 : lprs ch b = y) (s2 : lprsE ch b = 0) (s3 : may y = true) (s4 : Sm 1000000 y) (t1 : lputC y 0 = ch) (t2 : lputB y 0 = b) (t3 : lputX y 0 = 0) (v1 : ch ≠ 2) (p1 : lputC n 0 = 2) (p2 : lputB n 0 = A) (p3 : lputX n 0 = 0) (_zA : A.size ≤ 1000000) (k20 : n.k ≠ 20) (k21 : n.k ≠ 21) (k22 : n.k ≠ 22) (k25 : n.k ≠ 25) (hc : ¬ cut < 0) (hd : (A.size : Int) ≤ cut) (hb : ¬ 12000 < b.size) : Calls Tryd.prog 4 #[.int .i64 ch, .string b, nA n ai az ci cz, .int .i64 cut] w (OkL w) := by
  unfold nA
  have HX := Lib.hid (box_new w #[.int .i64 n.k, .string n.n, .string n.x, .string n.d, .int .i64 n.c, .int .i64 n.s, .int .i64 n.e, .int .i64 n.t, .bool n.o, .slice ai n.l.length ci, .slice az n.z.length cz] 25)
  have HB0 : Hid (Below w.heap.size w (w.alloc (.cells #[.int .i64 n.k, .string n.n, .string n.x, .string n.d, .int .i64 n.c, .int .i64 n.s, .int .i64 n.e, .int .i64 n.t, .bool n.o, .slice ai n.l.length ci, .slice az n.z.length cz] 25))) := (Below.refl _ w).alloc (Nat.le_refl _) _
  have HG := Lib.hid (fun W (hb : Below w.heap.size w W) => hG.below hb)
  have L := Lib.hid (fun W (g : Gp W) => live_any W g)
  have HR := Lib.hid (fun W (hb : Below w.heap.size w W) => h.below hb)
  have CS : Hid (∀ W, Below w.heap.size w W → Calls Tryd.prog 6 #[.agg #[.int .i64 n.k, .string n.n, .string n.x, .string n.d, .int .i64 n.c, .int .i64 n.s, .int .i64 n.e, .int .i64 n.t, .bool n.o, .slice ai n.l.length ci, .slice az n.z.length cz]] W (SmlP n W)) := fun W hb => by
    have k := small_any n ai az ci cz W (h.below hb)
    exact k
  have CA : Hid (∀ W, Gp W → Calls Tryd.prog 10 #[.int .i64 ch, .string b] W (LpP y 0 W)) := fun W g => by
    have k := lparse_any ch b W g (by omega)
    rw [s1, s2] at k
    exact k
  have CC : Hid (∀ W pi pz ei ez, NtL W pi pz y → Calls Tryd.prog 12 #[.agg #[.int .i64 y.k, .string y.n, .string y.x, .string y.d, .int .i64 y.c, .int .i64 y.s, .int .i64 y.e, .int .i64 y.t, .bool y.o, .slice pi y.l.length ei, .slice pz y.z.length ez]] W (Gives (.int .i64 0) W)) := fun W pi pz ei ez hl => by
    have k := lcheck_any y pi pz ei ez W hl
    rw [s3, if_pos rfl] at k
    exact k
  have CD : Hid (∀ W pi pz ei ez, Gp W → NtL W pi pz y → Calls Tryd.prog 8 #[.agg #[.int .i64 y.k, .string y.n, .string y.x, .string y.d, .int .i64 y.c, .int .i64 y.s, .int .i64 y.e, .int .i64 y.t, .bool y.o, .slice pi y.l.length ei, .slice pz y.z.length ez], .int .i64 0] W (Gives (.tuple #[.int .i64 ch, .string b, .int .i64 0]) W)) := fun W pi pz ei ez g hl => by
    have k := lput_any y 0 pi pz ei ez W hl g
    rw [t1, t2, t3] at k
    exact k
  have HS4 := Lib.hid s4
  have v2 := bne_iff_ne.2 v1
  have v3 := beq_eq_false_iff_ne.2 v1
  have f20 := beq_eq_false_iff_ne.2 k20
  have f21 := beq_eq_false_iff_ne.2 k21
  have f22 := beq_eq_false_iff_ne.2 k22
  have f25 := beq_eq_false_iff_ne.2 k25
  have CP : Hid (∀ W, Gp W → NtL W ai az n → Calls Tryd.prog 8 #[.agg #[.int .i64 n.k, .string n.n, .string n.x, .string n.d, .int .i64 n.c, .int .i64 n.s, .int .i64 n.e, .int .i64 n.t, .bool n.o, .slice ai n.l.length ci, .slice az n.z.length cz], .int .i64 0] W (Gives (.tuple #[.int .i64 2, .string A, .int .i64 0]) W)) := fun W g hl => by
    have k := lput_any n 0 ai az ci cz W hl g
    rw [p1, p2, p3] at k
    exact k
  have q1 : ¬ ((12000 : Int) < b.size) := by omega
  have hbm : b.size ≤ 12000 := by omega
  clear h hG s1 s2 s3 s4 t1 t2 t3 v1 p1 p2 p3 k20 k21 k22 k25 hb
  obtain ⟨m0, m1, m2, m3, m4, m5, m6, m7, m8, m9, m10⟩ := bx11 HX.out
  go_enter Tryd.func4, Tryd.ntmps4
  go_wp2_with fail
  refine (CS.out _ HB0.out).mono ?_
  rintro e w1 ⟨yn, rfl, hb, hs⟩
  clear m0 m1 m2 m3 m4 m5 m6 m7 m8 m9 m10
  have HX' := Lib.hid ((hb.block _ (heap_lt HX.out)).trans HX.out)
  clear HX
  have HX := HX'
  clear HX'
  have HB1 := Lib.hid (HB0.out.trans (hb.mono HB0.out.size))
  have HS := Lib.hid hs
  clear hb hs
  clear CS
  skip
  cases yn
  · skip
    clear HS HR CA CP CC CD HS4
    obtain ⟨m0, m1, m2, m3, m4, m5, m6, m7, m8, m9, m10⟩ := bx11 HX.out
    go_wp2_with fail
    refine (L.out _ (HG.out _ HB1.out)).mono ?_
    rintro e w2 ⟨rfl, hb⟩
    clear m0 m1 m2 m3 m4 m5 m6 m7 m8 m9 m10
    have HX' := Lib.hid ((hb.block _ (heap_lt HX.out)).trans HX.out)
    clear HX
    have HX := HX'
    clear HX'
    have HB2 := Lib.hid (HB1.out.trans (hb.mono HB1.out.size))
    clear hb
    obtain ⟨m0, m1, m2, m3, m4, m5, m6, m7, m8, m9, m10⟩ := bx11 HX.out
    go_wp2_with fail
    go_ret
    exact ⟨rfl, HB2.out⟩
  have HS1 := Lib.hid (HS.out rfl)
  clear HS
  obtain ⟨m0, m1, m2, m3, m4, m5, m6, m7, m8, m9, m10⟩ := bx11 HX.out
  go_wp2_with fail
  refine (CA.out _ (HG.out _ HB1.out)).mono ?_
  rintro e w2 ⟨pi, pz, ei, ez, rfl, hb, hI, hZ, -, -⟩
  clear m0 m1 m2 m3 m4 m5 m6 m7 m8 m9 m10
  have HX' := Lib.hid ((hb.block _ (heap_lt HX.out)).trans HX.out)
  clear HX
  have HX := HX'
  clear HX'
  have HB2 := Lib.hid (HB1.out.trans (hb.mono HB1.out.size))
  have HP : Hid (ItS w2 pi y.l ∧ CdS w2 pz y.z) := ⟨hI, hZ⟩
  clear hb hI hZ
  clear CA
  unfold nA
  have HPP : Hid (ItS (w2.alloc (.cells #[.int .i64 y.k, .string y.n, .string y.x, .string y.d, .int .i64 y.c, .int .i64 y.s, .int .i64 y.e, .int .i64 y.t, .bool y.o, .slice pi y.l.length ei, .slice pz y.z.length ez] 25)) pi y.l ∧ CdS (w2.alloc (.cells #[.int .i64 y.k, .string y.n, .string y.x, .string y.d, .int .i64 y.c, .int .i64 y.s, .int .i64 y.e, .int .i64 y.t, .bool y.o, .slice pi y.l.length ei, .slice pz y.z.length ez] 25)) pz y.z) := ⟨HP.out.1.below ((Below.refl _ _).alloc (Nat.le_refl _) _), HP.out.2.below ((Below.refl _ _).alloc (Nat.le_refl _) _)⟩
  clear HP
  have HP := Lib.hid (box_new w2 #[.int .i64 y.k, .string y.n, .string y.x, .string y.d, .int .i64 y.c, .int .i64 y.s, .int .i64 y.e, .int .i64 y.t, .bool y.o, .slice pi y.l.length ei, .slice pz y.z.length ez] 25)
  have HX' := Lib.hid ((Below.heap_alloc w2 (.cells #[.int .i64 y.k, .string y.n, .string y.x, .string y.d, .int .i64 y.c, .int .i64 y.s, .int .i64 y.e, .int .i64 y.t, .bool y.o, .slice pi y.l.length ei, .slice pz y.z.length ez] 25) _ (heap_lt HX.out)).trans HX.out)
  clear HX
  have HX := HX'
  clear HX'
  have HB2a := Lib.hid (HB2.out.alloc HB2.out.size (.cells #[.int .i64 y.k, .string y.n, .string y.x, .string y.d, .int .i64 y.c, .int .i64 y.s, .int .i64 y.e, .int .i64 y.t, .bool y.o, .slice pi y.l.length ei, .slice pz y.z.length ez] 25))
  have HPL := Lib.hid (nt_load HS4.out HPP.out.1 HPP.out.2)
  clear HPP HS4
  obtain ⟨m0, m1, m2, m3, m4, m5, m6, m7, m8, m9, m10⟩ := bx11 HX.out
  obtain ⟨u0, u1, u2, u3, u4, u5, u6, u7, u8, u9, u10⟩ := bx11 HP.out
  go_wp2_with fail
  refine (lnum_any _ _).mono ?_
  rintro e wz ⟨rfl, hw⟩
  have hw := hw.symm
  subst hw
  go_wp2_with fail
  refine (CC.out _ _ _ _ _ HPL.out).mono ?_
  rintro e w3 ⟨rfl, hb⟩
  clear m0 m1 m2 m3 m4 m5 m6 m7 m8 m9 m10
  clear u0 u1 u2 u3 u4 u5 u6 u7 u8 u9 u10
  have HX' := Lib.hid ((hb.block _ (heap_lt HX.out)).trans HX.out)
  clear HX
  have HX := HX'
  clear HX'
  have HP' := Lib.hid ((hb.block _ (heap_lt HP.out)).trans HP.out)
  clear HP
  have HP := HP'
  clear HP'
  have HB3 := Lib.hid (HB2a.out.trans (hb.mono HB2a.out.size))
  have HPL' := Lib.hid (HPL.out.below hb)
  clear HPL
  have HPL := HPL'
  clear HPL'
  clear hb
  obtain ⟨m0, m1, m2, m3, m4, m5, m6, m7, m8, m9, m10⟩ := bx11 HX.out
  obtain ⟨u0, u1, u2, u3, u4, u5, u6, u7, u8, u9, u10⟩ := bx11 HP.out
  go_wp2_with fail
  refine (lnum_any _ _).mono ?_
  rintro e wz ⟨rfl, hw⟩
  have hw := hw.symm
  subst hw
  go_wp2_with fail
  refine (CD.out _ _ _ _ _ (HG.out _ HB3.out) HPL.out).mono ?_
  rintro e w4 ⟨rfl, hb⟩
  clear m0 m1 m2 m3 m4 m5 m6 m7 m8 m9 m10
  clear u0 u1 u2 u3 u4 u5 u6 u7 u8 u9 u10
  have HX' := Lib.hid ((hb.block _ (heap_lt HX.out)).trans HX.out)
  clear HX
  have HX := HX'
  clear HX'
  have HB4 := Lib.hid (HB3.out.trans (hb.mono HB3.out.size))
  clear hb
  obtain ⟨m0, m1, m2, m3, m4, m5, m6, m7, m8, m9, m10⟩ := bx11 HX.out
  go_wp2_with fail
  clear CC CD HPL
  clear m0 m1 m2 m3 m4 m5 m6 m7 m8 m9 m10
  have XN : Hid (∀ z, Xc w4 9 #[.int .i64 z] (.int .i64 z)) := fun z => xc_pure fun W => lnum_any z W
  have hsome := extSome w4
  refine ext_region (by kernel_rfl) (by kernel_rfl) ?_
  repeat (go_big_quiet_step ((first | (go_at_call 9; with_reducible exact ext_call _ (XN.out _ _)))))
  refine wpQuiet_nil ?_
  rintro _ ⟨yy, hyy⟩
  subst hyy
  have HBy := Lib.hid (HB4.out.trans (yy.below.mono HB4.out.size))
  have HX' := Lib.hid ((yy.below.block _ (heap_lt HX.out)).trans HX.out)
  clear HX XN hsome
  have HX := HX'
  clear HX'
  obtain ⟨m0, m1, m2, m3, m4, m5, m6, m7, m8, m9, m10⟩ := bx11 HX.out
  go_wp2_with fail
  refine (CP.out _ (HG.out _ HBy.out) ((HR.out _ HBy.out).small HS1.out (by decide))).mono ?_
  rintro e w5 ⟨rfl, hb⟩
  clear m0 m1 m2 m3 m4 m5 m6 m7 m8 m9 m10
  have HX' := Lib.hid ((hb.block _ (heap_lt HX.out)).trans HX.out)
  clear HX
  have HX := HX'
  clear HX'
  have HB5 := Lib.hid (HBy.out.trans (hb.mono HBy.out.size))
  clear hb
  obtain ⟨m0, m1, m2, m3, m4, m5, m6, m7, m8, m9, m10⟩ := bx11 HX.out
  go_wp2_with fail
  clear CP
  refine (lnum_any _ _).mono ?_
  rintro e wz ⟨rfl, hw⟩
  have hw := hw.symm
  subst hw
  go_wp2_with fail
  refine (L.out _ (HG.out _ HB5.out)).mono ?_
  rintro e w6 ⟨rfl, hb⟩
  clear m0 m1 m2 m3 m4 m5 m6 m7 m8 m9 m10
  have HX' := Lib.hid ((hb.block _ (heap_lt HX.out)).trans HX.out)
  clear HX
  have HX := HX'
  clear HX'
  have HB6 := Lib.hid (HB5.out.trans (hb.mono HB5.out.size))
  clear hb
  obtain ⟨m0, m1, m2, m3, m4, m5, m6, m7, m8, m9, m10⟩ := bx11 HX.out
  go_wp2_with fail
  go_ret
  exact ⟨rfl, HB6.out⟩
set_option maxRecDepth 100000 in
set_option maxHeartbeats 8000000 in
theorem cut_p1_cut (n : Nt) (ai az : Option Addr) (ci cz : Nat) (b : ByteArray) (ch : Int) (A : ByteArray) (w : World) (h : NtR w ai az n) (hG : Gp w) (y : Nt) (s1 : lprs ch b = y) (s2 : lprsE ch b = 0) (s3 : may y = true) (s4 : Sm 1000000 y) (t1 : lputC y 0 = ch) (t2 : lputB y 0 = b) (t3 : lputX y 0 = 0) (v1 : ch ≠ 2) (p1 : lputC n 0 = 2) (p2 : lputB n 0 = A) (p3 : lputX n 0 = 0) (zA : A.size ≤ 1000000) (k20 : n.k ≠ 20) (k21 : n.k ≠ 21) (k22 : n.k ≠ 22) (k25 : n.k ≠ 25) (k : Nat) (hd : k < A.size) (u1 : lprs 2 (A.extract 0 k) = zN) (u2 : lprsE 2 (A.extract 0 k) = 140) (hb : ¬ 12000 < b.size) : Calls Tryd.prog 4 #[.int .i64 ch, .string b, nA n ai az ci cz, .int .i64 k] w (OkL w) := by
  unfold nA
  have HX := Lib.hid (box_new w #[.int .i64 n.k, .string n.n, .string n.x, .string n.d, .int .i64 n.c, .int .i64 n.s, .int .i64 n.e, .int .i64 n.t, .bool n.o, .slice ai n.l.length ci, .slice az n.z.length cz] 25)
  have HB0 : Hid (Below w.heap.size w (w.alloc (.cells #[.int .i64 n.k, .string n.n, .string n.x, .string n.d, .int .i64 n.c, .int .i64 n.s, .int .i64 n.e, .int .i64 n.t, .bool n.o, .slice ai n.l.length ci, .slice az n.z.length cz] 25))) := (Below.refl _ w).alloc (Nat.le_refl _) _
  have HG := Lib.hid (fun W (hb : Below w.heap.size w W) => hG.below hb)
  have L := Lib.hid (fun W (g : Gp W) => live_any W g)
  have HR := Lib.hid (fun W (hb : Below w.heap.size w W) => h.below hb)
  have CS : Hid (∀ W, Below w.heap.size w W → Calls Tryd.prog 6 #[.agg #[.int .i64 n.k, .string n.n, .string n.x, .string n.d, .int .i64 n.c, .int .i64 n.s, .int .i64 n.e, .int .i64 n.t, .bool n.o, .slice ai n.l.length ci, .slice az n.z.length cz]] W (SmlP n W)) := fun W hb => by
    have k := small_any n ai az ci cz W (h.below hb)
    exact k
  have CA : Hid (∀ W, Gp W → Calls Tryd.prog 10 #[.int .i64 ch, .string b] W (LpP y 0 W)) := fun W g => by
    have k := lparse_any ch b W g (by omega)
    rw [s1, s2] at k
    exact k
  have CC : Hid (∀ W pi pz ei ez, NtL W pi pz y → Calls Tryd.prog 12 #[.agg #[.int .i64 y.k, .string y.n, .string y.x, .string y.d, .int .i64 y.c, .int .i64 y.s, .int .i64 y.e, .int .i64 y.t, .bool y.o, .slice pi y.l.length ei, .slice pz y.z.length ez]] W (Gives (.int .i64 0) W)) := fun W pi pz ei ez hl => by
    have k := lcheck_any y pi pz ei ez W hl
    rw [s3, if_pos rfl] at k
    exact k
  have CD : Hid (∀ W pi pz ei ez, Gp W → NtL W pi pz y → Calls Tryd.prog 8 #[.agg #[.int .i64 y.k, .string y.n, .string y.x, .string y.d, .int .i64 y.c, .int .i64 y.s, .int .i64 y.e, .int .i64 y.t, .bool y.o, .slice pi y.l.length ei, .slice pz y.z.length ez], .int .i64 0] W (Gives (.tuple #[.int .i64 ch, .string b, .int .i64 0]) W)) := fun W pi pz ei ez g hl => by
    have k := lput_any y 0 pi pz ei ez W hl g
    rw [t1, t2, t3] at k
    exact k
  have HS4 := Lib.hid s4
  have v2 := bne_iff_ne.2 v1
  have v3 := beq_eq_false_iff_ne.2 v1
  have f20 := beq_eq_false_iff_ne.2 k20
  have f21 := beq_eq_false_iff_ne.2 k21
  have f22 := beq_eq_false_iff_ne.2 k22
  have f25 := beq_eq_false_iff_ne.2 k25
  have hd' : ¬ ((A.size : Int) ≤ (k : Int)) := by omega
  have hd2 : ((k : Int) ≤ A.size) := by omega
  have CZ : Hid (∀ W, Gp W → Calls Tryd.prog 10 #[.int .i64 2, .string (A.extract 0 k)] W (LpP zN 140 W)) := fun W g => by
    have q := lparse_any 2 (A.extract 0 k) W g (Nat.le_trans (by rw [Lib.size_eq, ByteArray.data_extract, Array.toList_extract, List.extract, List.length_take, List.length_drop, By.len_size]; omega) zA)
    rw [u1, u2] at q
    exact q
  have CP : Hid (∀ W, Gp W → NtL W ai az n → Calls Tryd.prog 8 #[.agg #[.int .i64 n.k, .string n.n, .string n.x, .string n.d, .int .i64 n.c, .int .i64 n.s, .int .i64 n.e, .int .i64 n.t, .bool n.o, .slice ai n.l.length ci, .slice az n.z.length cz], .int .i64 0] W (Gives (.tuple #[.int .i64 2, .string A, .int .i64 0]) W)) := fun W g hl => by
    have k := lput_any n 0 ai az ci cz W hl g
    rw [p1, p2, p3] at k
    exact k
  have q1 : ¬ ((12000 : Int) < b.size) := by omega
  have hbm : b.size ≤ 12000 := by omega
  clear h hG s1 s2 s3 s4 t1 t2 t3 v1 p1 p2 p3 k20 k21 k22 k25 u1 u2 hb
  obtain ⟨m0, m1, m2, m3, m4, m5, m6, m7, m8, m9, m10⟩ := bx11 HX.out
  go_enter Tryd.func4, Tryd.ntmps4
  go_wp2_with fail
  refine (CS.out _ HB0.out).mono ?_
  rintro e w1 ⟨yn, rfl, hb, hs⟩
  clear m0 m1 m2 m3 m4 m5 m6 m7 m8 m9 m10
  have HX' := Lib.hid ((hb.block _ (heap_lt HX.out)).trans HX.out)
  clear HX
  have HX := HX'
  clear HX'
  have HB1 := Lib.hid (HB0.out.trans (hb.mono HB0.out.size))
  have HS := Lib.hid hs
  clear hb hs
  clear CS
  skip
  cases yn
  · skip
    clear HS HR CA CP CC CD HS4 CZ
    obtain ⟨m0, m1, m2, m3, m4, m5, m6, m7, m8, m9, m10⟩ := bx11 HX.out
    go_wp2_with fail
    refine (L.out _ (HG.out _ HB1.out)).mono ?_
    rintro e w2 ⟨rfl, hb⟩
    clear m0 m1 m2 m3 m4 m5 m6 m7 m8 m9 m10
    have HX' := Lib.hid ((hb.block _ (heap_lt HX.out)).trans HX.out)
    clear HX
    have HX := HX'
    clear HX'
    have HB2 := Lib.hid (HB1.out.trans (hb.mono HB1.out.size))
    clear hb
    obtain ⟨m0, m1, m2, m3, m4, m5, m6, m7, m8, m9, m10⟩ := bx11 HX.out
    go_wp2_with fail
    go_ret
    exact ⟨rfl, HB2.out⟩
  have HS1 := Lib.hid (HS.out rfl)
  clear HS
  obtain ⟨m0, m1, m2, m3, m4, m5, m6, m7, m8, m9, m10⟩ := bx11 HX.out
  go_wp2_with fail
  refine (CA.out _ (HG.out _ HB1.out)).mono ?_
  rintro e w2 ⟨pi, pz, ei, ez, rfl, hb, hI, hZ, -, -⟩
  clear m0 m1 m2 m3 m4 m5 m6 m7 m8 m9 m10
  have HX' := Lib.hid ((hb.block _ (heap_lt HX.out)).trans HX.out)
  clear HX
  have HX := HX'
  clear HX'
  have HB2 := Lib.hid (HB1.out.trans (hb.mono HB1.out.size))
  have HP : Hid (ItS w2 pi y.l ∧ CdS w2 pz y.z) := ⟨hI, hZ⟩
  clear hb hI hZ
  clear CA
  unfold nA
  have HPP : Hid (ItS (w2.alloc (.cells #[.int .i64 y.k, .string y.n, .string y.x, .string y.d, .int .i64 y.c, .int .i64 y.s, .int .i64 y.e, .int .i64 y.t, .bool y.o, .slice pi y.l.length ei, .slice pz y.z.length ez] 25)) pi y.l ∧ CdS (w2.alloc (.cells #[.int .i64 y.k, .string y.n, .string y.x, .string y.d, .int .i64 y.c, .int .i64 y.s, .int .i64 y.e, .int .i64 y.t, .bool y.o, .slice pi y.l.length ei, .slice pz y.z.length ez] 25)) pz y.z) := ⟨HP.out.1.below ((Below.refl _ _).alloc (Nat.le_refl _) _), HP.out.2.below ((Below.refl _ _).alloc (Nat.le_refl _) _)⟩
  clear HP
  have HP := Lib.hid (box_new w2 #[.int .i64 y.k, .string y.n, .string y.x, .string y.d, .int .i64 y.c, .int .i64 y.s, .int .i64 y.e, .int .i64 y.t, .bool y.o, .slice pi y.l.length ei, .slice pz y.z.length ez] 25)
  have HX' := Lib.hid ((Below.heap_alloc w2 (.cells #[.int .i64 y.k, .string y.n, .string y.x, .string y.d, .int .i64 y.c, .int .i64 y.s, .int .i64 y.e, .int .i64 y.t, .bool y.o, .slice pi y.l.length ei, .slice pz y.z.length ez] 25) _ (heap_lt HX.out)).trans HX.out)
  clear HX
  have HX := HX'
  clear HX'
  have HB2a := Lib.hid (HB2.out.alloc HB2.out.size (.cells #[.int .i64 y.k, .string y.n, .string y.x, .string y.d, .int .i64 y.c, .int .i64 y.s, .int .i64 y.e, .int .i64 y.t, .bool y.o, .slice pi y.l.length ei, .slice pz y.z.length ez] 25))
  have HPL := Lib.hid (nt_load HS4.out HPP.out.1 HPP.out.2)
  clear HPP HS4
  obtain ⟨m0, m1, m2, m3, m4, m5, m6, m7, m8, m9, m10⟩ := bx11 HX.out
  obtain ⟨u0, u1, u2, u3, u4, u5, u6, u7, u8, u9, u10⟩ := bx11 HP.out
  go_wp2_with fail
  refine (lnum_any _ _).mono ?_
  rintro e wz ⟨rfl, hw⟩
  have hw := hw.symm
  subst hw
  go_wp2_with fail
  refine (CC.out _ _ _ _ _ HPL.out).mono ?_
  rintro e w3 ⟨rfl, hb⟩
  clear m0 m1 m2 m3 m4 m5 m6 m7 m8 m9 m10
  clear u0 u1 u2 u3 u4 u5 u6 u7 u8 u9 u10
  have HX' := Lib.hid ((hb.block _ (heap_lt HX.out)).trans HX.out)
  clear HX
  have HX := HX'
  clear HX'
  have HP' := Lib.hid ((hb.block _ (heap_lt HP.out)).trans HP.out)
  clear HP
  have HP := HP'
  clear HP'
  have HB3 := Lib.hid (HB2a.out.trans (hb.mono HB2a.out.size))
  have HPL' := Lib.hid (HPL.out.below hb)
  clear HPL
  have HPL := HPL'
  clear HPL'
  clear hb
  obtain ⟨m0, m1, m2, m3, m4, m5, m6, m7, m8, m9, m10⟩ := bx11 HX.out
  obtain ⟨u0, u1, u2, u3, u4, u5, u6, u7, u8, u9, u10⟩ := bx11 HP.out
  go_wp2_with fail
  refine (lnum_any _ _).mono ?_
  rintro e wz ⟨rfl, hw⟩
  have hw := hw.symm
  subst hw
  go_wp2_with fail
  refine (CD.out _ _ _ _ _ (HG.out _ HB3.out) HPL.out).mono ?_
  rintro e w4 ⟨rfl, hb⟩
  clear m0 m1 m2 m3 m4 m5 m6 m7 m8 m9 m10
  clear u0 u1 u2 u3 u4 u5 u6 u7 u8 u9 u10
  have HX' := Lib.hid ((hb.block _ (heap_lt HX.out)).trans HX.out)
  clear HX
  have HX := HX'
  clear HX'
  have HB4 := Lib.hid (HB3.out.trans (hb.mono HB3.out.size))
  clear hb
  obtain ⟨m0, m1, m2, m3, m4, m5, m6, m7, m8, m9, m10⟩ := bx11 HX.out
  go_wp2_with fail
  clear CC CD HPL
  clear m0 m1 m2 m3 m4 m5 m6 m7 m8 m9 m10
  have XN : Hid (∀ z, Xc w4 9 #[.int .i64 z] (.int .i64 z)) := fun z => xc_pure fun W => lnum_any z W
  have hsome := extSome w4
  refine ext_region (by kernel_rfl) (by kernel_rfl) ?_
  repeat (go_big_quiet_step ((first | (go_at_call 9; with_reducible exact ext_call _ (XN.out _ _)))))
  refine wpQuiet_nil ?_
  rintro _ ⟨yy, hyy⟩
  subst hyy
  have HBy := Lib.hid (HB4.out.trans (yy.below.mono HB4.out.size))
  have HX' := Lib.hid ((yy.below.block _ (heap_lt HX.out)).trans HX.out)
  clear HX XN hsome
  have HX := HX'
  clear HX'
  obtain ⟨m0, m1, m2, m3, m4, m5, m6, m7, m8, m9, m10⟩ := bx11 HX.out
  go_wp2_with fail
  refine (CP.out _ (HG.out _ HBy.out) ((HR.out _ HBy.out).small HS1.out (by decide))).mono ?_
  rintro e w5 ⟨rfl, hb⟩
  clear m0 m1 m2 m3 m4 m5 m6 m7 m8 m9 m10
  have HX' := Lib.hid ((hb.block _ (heap_lt HX.out)).trans HX.out)
  clear HX
  have HX := HX'
  clear HX'
  have HB5 := Lib.hid (HBy.out.trans (hb.mono HBy.out.size))
  clear hb
  obtain ⟨m0, m1, m2, m3, m4, m5, m6, m7, m8, m9, m10⟩ := bx11 HX.out
  go_wp2_with fail
  clear CP
  refine (lnum_any _ _).mono ?_
  rintro e wz ⟨rfl, hw⟩
  have hw := hw.symm
  subst hw
  go_wp2_with fail
  refine (CZ.out _ (HG.out _ HB5.out)).mono ?_
  rintro e w6 ⟨qi, qz, fi, fz, rfl, hb, hI, hZ, -, -⟩
  clear m0 m1 m2 m3 m4 m5 m6 m7 m8 m9 m10
  have HX' := Lib.hid ((hb.block _ (heap_lt HX.out)).trans HX.out)
  clear HX
  have HX := HX'
  clear HX'
  have HB6 := Lib.hid (HB5.out.trans (hb.mono HB5.out.size))
  have HZ : Hid (ItS w6 qi zN.l ∧ CdS w6 qz zN.z) := ⟨hI, hZ⟩
  clear hb hI hZ
  clear CZ HZ
  unfold nA
  have HZ := Lib.hid (box_new w6 #[.int .i64 zN.k, .string zN.n, .string zN.x, .string zN.d, .int .i64 zN.c, .int .i64 zN.s, .int .i64 zN.e, .int .i64 zN.t, .bool zN.o, .slice qi zN.l.length fi, .slice qz zN.z.length fz] 25)
  have HX' := Lib.hid ((Below.heap_alloc w6 (.cells #[.int .i64 zN.k, .string zN.n, .string zN.x, .string zN.d, .int .i64 zN.c, .int .i64 zN.s, .int .i64 zN.e, .int .i64 zN.t, .bool zN.o, .slice qi zN.l.length fi, .slice qz zN.z.length fz] 25) _ (heap_lt HX.out)).trans HX.out)
  clear HX
  have HX := HX'
  clear HX'
  have HB6a := Lib.hid (HB6.out.alloc HB6.out.size (.cells #[.int .i64 zN.k, .string zN.n, .string zN.x, .string zN.d, .int .i64 zN.c, .int .i64 zN.s, .int .i64 zN.e, .int .i64 zN.t, .bool zN.o, .slice qi zN.l.length fi, .slice qz zN.z.length fz] 25))
  clear HZ
  obtain ⟨m0, m1, m2, m3, m4, m5, m6, m7, m8, m9, m10⟩ := bx11 HX.out
  go_wp2_with fail
  refine (lnum_any _ _).mono ?_
  rintro e wz ⟨rfl, hw⟩
  have hw := hw.symm
  subst hw
  go_wp2_with fail
  refine (L.out _ (HG.out _ HB6a.out)).mono ?_
  rintro e w7 ⟨rfl, hb⟩
  clear m0 m1 m2 m3 m4 m5 m6 m7 m8 m9 m10
  have HX' := Lib.hid ((hb.block _ (heap_lt HX.out)).trans HX.out)
  clear HX
  have HX := HX'
  clear HX'
  have HB7 := Lib.hid (HB6a.out.trans (hb.mono HB6a.out.size))
  clear hb
  obtain ⟨m0, m1, m2, m3, m4, m5, m6, m7, m8, m9, m10⟩ := bx11 HX.out
  go_wp2_with fail
  go_ret
  exact ⟨rfl, HB7.out⟩
end Go.Proofs.YtclkehfnakhljaaDoor.T
