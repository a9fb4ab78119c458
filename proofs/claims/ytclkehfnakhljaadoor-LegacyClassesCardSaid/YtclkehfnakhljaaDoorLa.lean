/- The walk of the law LegacyClasses. Conditions: the tables of places and of widths hold what the program's text lays; a note takes at most what a machine can hold. -/
import Derived.Test.YtclkehfnakhljaaDoorLp
namespace Go.Proofs.YtclkehfnakhljaaDoor.T
open Go.RowKit Go.Lib

set_option maxRecDepth 100000 in
set_option maxHeartbeats 8000000 in
theorem classes_no0 (n : Nt) (ai az : Option Addr) (ci cz : Nat) (w : World) (h : NtR w ai az n) (hG : Gp w) (B : ByteArray) (hC : lcl n.k = 0) (hP : lputC n 7 = 0) (hB : lputB n 7 = B) (hE : lputX n 7 = 140) : Calls Tryd.prog 5 #[nA n ai az ci cz] w (OkL w) := by
  unfold nA
  have HX := Lib.hid (box_new w #[.int .i64 n.k, .string n.n, .string n.x, .string n.d, .int .i64 n.c, .int .i64 n.s, .int .i64 n.e, .int .i64 n.t, .bool n.o, .slice ai n.l.length ci, .slice az n.z.length cz] 25)
  have HB0 : Hid (Below w.heap.size w (w.alloc (.cells #[.int .i64 n.k, .string n.n, .string n.x, .string n.d, .int .i64 n.c, .int .i64 n.s, .int .i64 n.e, .int .i64 n.t, .bool n.o, .slice ai n.l.length ci, .slice az n.z.length cz] 25))) := (Below.refl _ w).alloc (Nat.le_refl _) _
  have HG := Lib.hid (fun W (hb : Below w.heap.size w W) => hG.below hb)
  have L := Lib.hid (fun W (g : Gp W) => live_any W g)
  have HR := Lib.hid (fun W (hb : Below w.heap.size w W) => h.below hb)
  have CS : Hid (∀ W, Below w.heap.size w W → Calls Tryd.prog 6 #[.agg #[.int .i64 n.k, .string n.n, .string n.x, .string n.d, .int .i64 n.c, .int .i64 n.s, .int .i64 n.e, .int .i64 n.t, .bool n.o, .slice ai n.l.length ci, .slice az n.z.length cz]] W (SmlP n W)) := fun W hb => small_any n ai az ci cz W (h.below hb)
  have CC : Hid (∀ W, Gp W → Calls Tryd.prog 13 #[.int .i64 n.k] W (Gives (.int .i64 (0)) W)) := fun W g => by
    have k : Calls Tryd.prog 13 #[.int .i64 n.k] W (Gives (.int .i64 (lcl n.k)) W) := lclass_any n.k W g
    rw [hC] at k
    exact k
  have CP : Hid (∀ W, Gp W → NtL W ai az n → Calls Tryd.prog 8 #[.agg #[.int .i64 n.k, .string n.n, .string n.x, .string n.d, .int .i64 n.c, .int .i64 n.s, .int .i64 n.e, .int .i64 n.t, .bool n.o, .slice ai n.l.length ci, .slice az n.z.length cz], .int .i64 7] W (Gives (.tuple #[.int .i64 (0), .string B, .int .i64 140]) W)) := fun W g hl => by
    have k := lput_any n 7 ai az ci cz W hl g
    rw [hP, hB, hE] at k
    exact k
  clear h hG hC hP hB hE
  obtain ⟨m0, m1, m2, m3, m4, m5, m6, m7, m8, m9, m10⟩ := bx11 HX.out
  go_enter Tryd.func5, Tryd.ntmps5
  go_wp2_with fail
  refine (CS.out _ HB0.out).mono ?_
  rintro e w1 ⟨b, rfl, hb, hs⟩
  clear m0 m1 m2 m3 m4 m5 m6 m7 m8 m9 m10
  have HX' := Lib.hid ((hb.block _ (heap_lt HX.out)).trans HX.out)
  clear HX
  have HX := HX'
  clear HX'
  have HB1 := Lib.hid (HB0.out.trans (hb.mono HB0.out.size))
  have HS := Lib.hid hs
  clear hb hs
  clear CS
  cases b
  · skip
    clear HS CC CP HR
    obtain ⟨m0, m1, m2, m3, m4, m5, m6, m7, m8, m9, m10⟩ := bx11 HX.out
    go_wp2_with fail
    refine (L.out _ (HG.out _ HB1.out)).mono ?_
    rintro e w2 ⟨rfl, hb⟩
    clear m0 m1 m2 m3 m4 m5 m6 m7 m8 m9 m10
    have HX' := Lib.hid ((hb.block _ (heap_lt HX.out)).trans HX.out)
    clear HX
    have HX := HX'
    clear HX'
    have HB2 := Lib.hid (HB1.out.trans (hb.mono HB1.out.size))
    clear hb
    obtain ⟨m0, m1, m2, m3, m4, m5, m6, m7, m8, m9, m10⟩ := bx11 HX.out
    go_wp2_with fail
    go_ret
    exact ⟨rfl, HB2.out⟩
  · skip
    have HS1 := Lib.hid (HS.out rfl)
    clear HS
    obtain ⟨m0, m1, m2, m3, m4, m5, m6, m7, m8, m9, m10⟩ := bx11 HX.out
    go_wp2_with fail
    refine (CC.out _ (HG.out _ HB1.out)).mono ?_
    rintro e w2 ⟨rfl, hb⟩
    clear m0 m1 m2 m3 m4 m5 m6 m7 m8 m9 m10
    have HX' := Lib.hid ((hb.block _ (heap_lt HX.out)).trans HX.out)
    clear HX
    have HX := HX'
    clear HX'
    have HB2 := Lib.hid (HB1.out.trans (hb.mono HB1.out.size))
    clear hb
    obtain ⟨m0, m1, m2, m3, m4, m5, m6, m7, m8, m9, m10⟩ := bx11 HX.out
    go_wp2_with fail
    refine (CP.out _ (HG.out _ HB2.out) ((HR.out _ HB2.out).small HS1.out (by decide))).mono ?_
    rintro e w3 ⟨rfl, hb⟩
    clear m0 m1 m2 m3 m4 m5 m6 m7 m8 m9 m10
    have HX' := Lib.hid ((hb.block _ (heap_lt HX.out)).trans HX.out)
    clear HX
    have HX := HX'
    clear HX'
    have HB3 := Lib.hid (HB2.out.trans (hb.mono HB2.out.size))
    clear hb
    obtain ⟨m0, m1, m2, m3, m4, m5, m6, m7, m8, m9, m10⟩ := bx11 HX.out
    go_wp2_with fail
    clear CC CP HR HS1
    refine (lnum_any _ _).mono ?_
    rintro e wz ⟨rfl, hw⟩
    have hw := hw.symm
    subst hw
    go_wp2_with fail
    refine (L.out _ (HG.out _ HB3.out)).mono ?_
    rintro e w4 ⟨rfl, hb⟩
    clear m0 m1 m2 m3 m4 m5 m6 m7 m8 m9 m10
    have HX' := Lib.hid ((hb.block _ (heap_lt HX.out)).trans HX.out)
    clear HX
    have HX := HX'
    clear HX'
    have HB4 := Lib.hid (HB3.out.trans (hb.mono HB3.out.size))
    clear hb
    obtain ⟨m0, m1, m2, m3, m4, m5, m6, m7, m8, m9, m10⟩ := bx11 HX.out
    go_wp2_with fail
    go_ret
    exact ⟨rfl, HB4.out⟩
set_option maxRecDepth 100000 in
set_option maxHeartbeats 8000000 in
theorem classes_no1 (n : Nt) (ai az : Option Addr) (ci cz : Nat) (w : World) (h : NtR w ai az n) (hG : Gp w) (B : ByteArray) (hC : lcl n.k = 1) (hP : lputC n 7 = 0) (hB : lputB n 7 = B) (hE : lputX n 7 = 140) : Calls Tryd.prog 5 #[nA n ai az ci cz] w (OkL w) := by
  unfold nA
  have HX := Lib.hid (box_new w #[.int .i64 n.k, .string n.n, .string n.x, .string n.d, .int .i64 n.c, .int .i64 n.s, .int .i64 n.e, .int .i64 n.t, .bool n.o, .slice ai n.l.length ci, .slice az n.z.length cz] 25)
  have HB0 : Hid (Below w.heap.size w (w.alloc (.cells #[.int .i64 n.k, .string n.n, .string n.x, .string n.d, .int .i64 n.c, .int .i64 n.s, .int .i64 n.e, .int .i64 n.t, .bool n.o, .slice ai n.l.length ci, .slice az n.z.length cz] 25))) := (Below.refl _ w).alloc (Nat.le_refl _) _
  have HG := Lib.hid (fun W (hb : Below w.heap.size w W) => hG.below hb)
  have L := Lib.hid (fun W (g : Gp W) => live_any W g)
  have HR := Lib.hid (fun W (hb : Below w.heap.size w W) => h.below hb)
  have CS : Hid (∀ W, Below w.heap.size w W → Calls Tryd.prog 6 #[.agg #[.int .i64 n.k, .string n.n, .string n.x, .string n.d, .int .i64 n.c, .int .i64 n.s, .int .i64 n.e, .int .i64 n.t, .bool n.o, .slice ai n.l.length ci, .slice az n.z.length cz]] W (SmlP n W)) := fun W hb => small_any n ai az ci cz W (h.below hb)
  have CC : Hid (∀ W, Gp W → Calls Tryd.prog 13 #[.int .i64 n.k] W (Gives (.int .i64 (1)) W)) := fun W g => by
    have k : Calls Tryd.prog 13 #[.int .i64 n.k] W (Gives (.int .i64 (lcl n.k)) W) := lclass_any n.k W g
    rw [hC] at k
    exact k
  have CP : Hid (∀ W, Gp W → NtL W ai az n → Calls Tryd.prog 8 #[.agg #[.int .i64 n.k, .string n.n, .string n.x, .string n.d, .int .i64 n.c, .int .i64 n.s, .int .i64 n.e, .int .i64 n.t, .bool n.o, .slice ai n.l.length ci, .slice az n.z.length cz], .int .i64 7] W (Gives (.tuple #[.int .i64 (0), .string B, .int .i64 140]) W)) := fun W g hl => by
    have k := lput_any n 7 ai az ci cz W hl g
    rw [hP, hB, hE] at k
    exact k
  clear h hG hC hP hB hE
  obtain ⟨m0, m1, m2, m3, m4, m5, m6, m7, m8, m9, m10⟩ := bx11 HX.out
  go_enter Tryd.func5, Tryd.ntmps5
  go_wp2_with fail
  refine (CS.out _ HB0.out).mono ?_
  rintro e w1 ⟨b, rfl, hb, hs⟩
  clear m0 m1 m2 m3 m4 m5 m6 m7 m8 m9 m10
  have HX' := Lib.hid ((hb.block _ (heap_lt HX.out)).trans HX.out)
  clear HX
  have HX := HX'
  clear HX'
  have HB1 := Lib.hid (HB0.out.trans (hb.mono HB0.out.size))
  have HS := Lib.hid hs
  clear hb hs
  clear CS
  cases b
  · skip
    clear HS CC CP HR
    obtain ⟨m0, m1, m2, m3, m4, m5, m6, m7, m8, m9, m10⟩ := bx11 HX.out
    go_wp2_with fail
    refine (L.out _ (HG.out _ HB1.out)).mono ?_
    rintro e w2 ⟨rfl, hb⟩
    clear m0 m1 m2 m3 m4 m5 m6 m7 m8 m9 m10
    have HX' := Lib.hid ((hb.block _ (heap_lt HX.out)).trans HX.out)
    clear HX
    have HX := HX'
    clear HX'
    have HB2 := Lib.hid (HB1.out.trans (hb.mono HB1.out.size))
    clear hb
    obtain ⟨m0, m1, m2, m3, m4, m5, m6, m7, m8, m9, m10⟩ := bx11 HX.out
    go_wp2_with fail
    go_ret
    exact ⟨rfl, HB2.out⟩
  · skip
    have HS1 := Lib.hid (HS.out rfl)
    clear HS
    obtain ⟨m0, m1, m2, m3, m4, m5, m6, m7, m8, m9, m10⟩ := bx11 HX.out
    go_wp2_with fail
    refine (CC.out _ (HG.out _ HB1.out)).mono ?_
    rintro e w2 ⟨rfl, hb⟩
    clear m0 m1 m2 m3 m4 m5 m6 m7 m8 m9 m10
    have HX' := Lib.hid ((hb.block _ (heap_lt HX.out)).trans HX.out)
    clear HX
    have HX := HX'
    clear HX'
    have HB2 := Lib.hid (HB1.out.trans (hb.mono HB1.out.size))
    clear hb
    obtain ⟨m0, m1, m2, m3, m4, m5, m6, m7, m8, m9, m10⟩ := bx11 HX.out
    go_wp2_with fail
    refine (CP.out _ (HG.out _ HB2.out) ((HR.out _ HB2.out).small HS1.out (by decide))).mono ?_
    rintro e w3 ⟨rfl, hb⟩
    clear m0 m1 m2 m3 m4 m5 m6 m7 m8 m9 m10
    have HX' := Lib.hid ((hb.block _ (heap_lt HX.out)).trans HX.out)
    clear HX
    have HX := HX'
    clear HX'
    have HB3 := Lib.hid (HB2.out.trans (hb.mono HB2.out.size))
    clear hb
    obtain ⟨m0, m1, m2, m3, m4, m5, m6, m7, m8, m9, m10⟩ := bx11 HX.out
    go_wp2_with fail
    clear CC CP HR HS1
    refine (lnum_any _ _).mono ?_
    rintro e wz ⟨rfl, hw⟩
    have hw := hw.symm
    subst hw
    go_wp2_with fail
    refine (L.out _ (HG.out _ HB3.out)).mono ?_
    rintro e w4 ⟨rfl, hb⟩
    clear m0 m1 m2 m3 m4 m5 m6 m7 m8 m9 m10
    have HX' := Lib.hid ((hb.block _ (heap_lt HX.out)).trans HX.out)
    clear HX
    have HX := HX'
    clear HX'
    have HB4 := Lib.hid (HB3.out.trans (hb.mono HB3.out.size))
    clear hb
    obtain ⟨m0, m1, m2, m3, m4, m5, m6, m7, m8, m9, m10⟩ := bx11 HX.out
    go_wp2_with fail
    go_ret
    exact ⟨rfl, HB4.out⟩
set_option maxRecDepth 100000 in
set_option maxHeartbeats 8000000 in
theorem classes_no2 (n : Nt) (ai az : Option Addr) (ci cz : Nat) (w : World) (h : NtR w ai az n) (hG : Gp w) (B : ByteArray) (hC : lcl n.k = 2) (hP : lputC n 7 = 0) (hB : lputB n 7 = B) (hE : lputX n 7 = 140) : Calls Tryd.prog 5 #[nA n ai az ci cz] w (OkL w) := by
  unfold nA
  have HX := Lib.hid (box_new w #[.int .i64 n.k, .string n.n, .string n.x, .string n.d, .int .i64 n.c, .int .i64 n.s, .int .i64 n.e, .int .i64 n.t, .bool n.o, .slice ai n.l.length ci, .slice az n.z.length cz] 25)
  have HB0 : Hid (Below w.heap.size w (w.alloc (.cells #[.int .i64 n.k, .string n.n, .string n.x, .string n.d, .int .i64 n.c, .int .i64 n.s, .int .i64 n.e, .int .i64 n.t, .bool n.o, .slice ai n.l.length ci, .slice az n.z.length cz] 25))) := (Below.refl _ w).alloc (Nat.le_refl _) _
  have HG := Lib.hid (fun W (hb : Below w.heap.size w W) => hG.below hb)
  have L := Lib.hid (fun W (g : Gp W) => live_any W g)
  have HR := Lib.hid (fun W (hb : Below w.heap.size w W) => h.below hb)
  have CS : Hid (∀ W, Below w.heap.size w W → Calls Tryd.prog 6 #[.agg #[.int .i64 n.k, .string n.n, .string n.x, .string n.d, .int .i64 n.c, .int .i64 n.s, .int .i64 n.e, .int .i64 n.t, .bool n.o, .slice ai n.l.length ci, .slice az n.z.length cz]] W (SmlP n W)) := fun W hb => small_any n ai az ci cz W (h.below hb)
  have CC : Hid (∀ W, Gp W → Calls Tryd.prog 13 #[.int .i64 n.k] W (Gives (.int .i64 (2)) W)) := fun W g => by
    have k : Calls Tryd.prog 13 #[.int .i64 n.k] W (Gives (.int .i64 (lcl n.k)) W) := lclass_any n.k W g
    rw [hC] at k
    exact k
  have CP : Hid (∀ W, Gp W → NtL W ai az n → Calls Tryd.prog 8 #[.agg #[.int .i64 n.k, .string n.n, .string n.x, .string n.d, .int .i64 n.c, .int .i64 n.s, .int .i64 n.e, .int .i64 n.t, .bool n.o, .slice ai n.l.length ci, .slice az n.z.length cz], .int .i64 7] W (Gives (.tuple #[.int .i64 (0), .string B, .int .i64 140]) W)) := fun W g hl => by
    have k := lput_any n 7 ai az ci cz W hl g
    rw [hP, hB, hE] at k
    exact k
  clear h hG hC hP hB hE
  obtain ⟨m0, m1, m2, m3, m4, m5, m6, m7, m8, m9, m10⟩ := bx11 HX.out
  go_enter Tryd.func5, Tryd.ntmps5
  go_wp2_with fail
  refine (CS.out _ HB0.out).mono ?_
  rintro e w1 ⟨b, rfl, hb, hs⟩
  clear m0 m1 m2 m3 m4 m5 m6 m7 m8 m9 m10
  have HX' := Lib.hid ((hb.block _ (heap_lt HX.out)).trans HX.out)
  clear HX
  have HX := HX'
  clear HX'
  have HB1 := Lib.hid (HB0.out.trans (hb.mono HB0.out.size))
  have HS := Lib.hid hs
  clear hb hs
  clear CS
  cases b
  · skip
    clear HS CC CP HR
    obtain ⟨m0, m1, m2, m3, m4, m5, m6, m7, m8, m9, m10⟩ := bx11 HX.out
    go_wp2_with fail
    refine (L.out _ (HG.out _ HB1.out)).mono ?_
    rintro e w2 ⟨rfl, hb⟩
    clear m0 m1 m2 m3 m4 m5 m6 m7 m8 m9 m10
    have HX' := Lib.hid ((hb.block _ (heap_lt HX.out)).trans HX.out)
    clear HX
    have HX := HX'
    clear HX'
    have HB2 := Lib.hid (HB1.out.trans (hb.mono HB1.out.size))
    clear hb
    obtain ⟨m0, m1, m2, m3, m4, m5, m6, m7, m8, m9, m10⟩ := bx11 HX.out
    go_wp2_with fail
    go_ret
    exact ⟨rfl, HB2.out⟩
  · skip
    have HS1 := Lib.hid (HS.out rfl)
    clear HS
    obtain ⟨m0, m1, m2, m3, m4, m5, m6, m7, m8, m9, m10⟩ := bx11 HX.out
    go_wp2_with fail
    refine (CC.out _ (HG.out _ HB1.out)).mono ?_
    rintro e w2 ⟨rfl, hb⟩
    clear m0 m1 m2 m3 m4 m5 m6 m7 m8 m9 m10
    have HX' := Lib.hid ((hb.block _ (heap_lt HX.out)).trans HX.out)
    clear HX
    have HX := HX'
    clear HX'
    have HB2 := Lib.hid (HB1.out.trans (hb.mono HB1.out.size))
    clear hb
    obtain ⟨m0, m1, m2, m3, m4, m5, m6, m7, m8, m9, m10⟩ := bx11 HX.out
    go_wp2_with fail
    refine (CP.out _ (HG.out _ HB2.out) ((HR.out _ HB2.out).small HS1.out (by decide))).mono ?_
    rintro e w3 ⟨rfl, hb⟩
    clear m0 m1 m2 m3 m4 m5 m6 m7 m8 m9 m10
    have HX' := Lib.hid ((hb.block _ (heap_lt HX.out)).trans HX.out)
    clear HX
    have HX := HX'
    clear HX'
    have HB3 := Lib.hid (HB2.out.trans (hb.mono HB2.out.size))
    clear hb
    obtain ⟨m0, m1, m2, m3, m4, m5, m6, m7, m8, m9, m10⟩ := bx11 HX.out
    go_wp2_with fail
    clear CC CP HR HS1
    refine (lnum_any _ _).mono ?_
    rintro e wz ⟨rfl, hw⟩
    have hw := hw.symm
    subst hw
    go_wp2_with fail
    refine (L.out _ (HG.out _ HB3.out)).mono ?_
    rintro e w4 ⟨rfl, hb⟩
    clear m0 m1 m2 m3 m4 m5 m6 m7 m8 m9 m10
    have HX' := Lib.hid ((hb.block _ (heap_lt HX.out)).trans HX.out)
    clear HX
    have HX := HX'
    clear HX'
    have HB4 := Lib.hid (HB3.out.trans (hb.mono HB3.out.size))
    clear hb
    obtain ⟨m0, m1, m2, m3, m4, m5, m6, m7, m8, m9, m10⟩ := bx11 HX.out
    go_wp2_with fail
    go_ret
    exact ⟨rfl, HB4.out⟩
set_option maxRecDepth 100000 in
set_option maxHeartbeats 8000000 in
theorem classes_no3 (n : Nt) (ai az : Option Addr) (ci cz : Nat) (w : World) (h : NtR w ai az n) (hG : Gp w) (B : ByteArray) (hC : lcl n.k = 3) (hP : lputC n 7 = 0) (hB : lputB n 7 = B) (hE : lputX n 7 = 140) : Calls Tryd.prog 5 #[nA n ai az ci cz] w (OkL w) := by
  unfold nA
  have HX := Lib.hid (box_new w #[.int .i64 n.k, .string n.n, .string n.x, .string n.d, .int .i64 n.c, .int .i64 n.s, .int .i64 n.e, .int .i64 n.t, .bool n.o, .slice ai n.l.length ci, .slice az n.z.length cz] 25)
  have HB0 : Hid (Below w.heap.size w (w.alloc (.cells #[.int .i64 n.k, .string n.n, .string n.x, .string n.d, .int .i64 n.c, .int .i64 n.s, .int .i64 n.e, .int .i64 n.t, .bool n.o, .slice ai n.l.length ci, .slice az n.z.length cz] 25))) := (Below.refl _ w).alloc (Nat.le_refl _) _
  have HG := Lib.hid (fun W (hb : Below w.heap.size w W) => hG.below hb)
  have L := Lib.hid (fun W (g : Gp W) => live_any W g)
  have HR := Lib.hid (fun W (hb : Below w.heap.size w W) => h.below hb)
  have CS : Hid (∀ W, Below w.heap.size w W → Calls Tryd.prog 6 #[.agg #[.int .i64 n.k, .string n.n, .string n.x, .string n.d, .int .i64 n.c, .int .i64 n.s, .int .i64 n.e, .int .i64 n.t, .bool n.o, .slice ai n.l.length ci, .slice az n.z.length cz]] W (SmlP n W)) := fun W hb => small_any n ai az ci cz W (h.below hb)
  have CC : Hid (∀ W, Gp W → Calls Tryd.prog 13 #[.int .i64 n.k] W (Gives (.int .i64 (3)) W)) := fun W g => by
    have k : Calls Tryd.prog 13 #[.int .i64 n.k] W (Gives (.int .i64 (lcl n.k)) W) := lclass_any n.k W g
    rw [hC] at k
    exact k
  have CP : Hid (∀ W, Gp W → NtL W ai az n → Calls Tryd.prog 8 #[.agg #[.int .i64 n.k, .string n.n, .string n.x, .string n.d, .int .i64 n.c, .int .i64 n.s, .int .i64 n.e, .int .i64 n.t, .bool n.o, .slice ai n.l.length ci, .slice az n.z.length cz], .int .i64 7] W (Gives (.tuple #[.int .i64 (0), .string B, .int .i64 140]) W)) := fun W g hl => by
    have k := lput_any n 7 ai az ci cz W hl g
    rw [hP, hB, hE] at k
    exact k
  clear h hG hC hP hB hE
  obtain ⟨m0, m1, m2, m3, m4, m5, m6, m7, m8, m9, m10⟩ := bx11 HX.out
  go_enter Tryd.func5, Tryd.ntmps5
  go_wp2_with fail
  refine (CS.out _ HB0.out).mono ?_
  rintro e w1 ⟨b, rfl, hb, hs⟩
  clear m0 m1 m2 m3 m4 m5 m6 m7 m8 m9 m10
  have HX' := Lib.hid ((hb.block _ (heap_lt HX.out)).trans HX.out)
  clear HX
  have HX := HX'
  clear HX'
  have HB1 := Lib.hid (HB0.out.trans (hb.mono HB0.out.size))
  have HS := Lib.hid hs
  clear hb hs
  clear CS
  cases b
  · skip
    clear HS CC CP HR
    obtain ⟨m0, m1, m2, m3, m4, m5, m6, m7, m8, m9, m10⟩ := bx11 HX.out
    go_wp2_with fail
    refine (L.out _ (HG.out _ HB1.out)).mono ?_
    rintro e w2 ⟨rfl, hb⟩
    clear m0 m1 m2 m3 m4 m5 m6 m7 m8 m9 m10
    have HX' := Lib.hid ((hb.block _ (heap_lt HX.out)).trans HX.out)
    clear HX
    have HX := HX'
    clear HX'
    have HB2 := Lib.hid (HB1.out.trans (hb.mono HB1.out.size))
    clear hb
    obtain ⟨m0, m1, m2, m3, m4, m5, m6, m7, m8, m9, m10⟩ := bx11 HX.out
    go_wp2_with fail
    go_ret
    exact ⟨rfl, HB2.out⟩
  · skip
    have HS1 := Lib.hid (HS.out rfl)
    clear HS
    obtain ⟨m0, m1, m2, m3, m4, m5, m6, m7, m8, m9, m10⟩ := bx11 HX.out
    go_wp2_with fail
    refine (CC.out _ (HG.out _ HB1.out)).mono ?_
    rintro e w2 ⟨rfl, hb⟩
    clear m0 m1 m2 m3 m4 m5 m6 m7 m8 m9 m10
    have HX' := Lib.hid ((hb.block _ (heap_lt HX.out)).trans HX.out)
    clear HX
    have HX := HX'
    clear HX'
    have HB2 := Lib.hid (HB1.out.trans (hb.mono HB1.out.size))
    clear hb
    obtain ⟨m0, m1, m2, m3, m4, m5, m6, m7, m8, m9, m10⟩ := bx11 HX.out
    go_wp2_with fail
    refine (CP.out _ (HG.out _ HB2.out) ((HR.out _ HB2.out).small HS1.out (by decide))).mono ?_
    rintro e w3 ⟨rfl, hb⟩
    clear m0 m1 m2 m3 m4 m5 m6 m7 m8 m9 m10
    have HX' := Lib.hid ((hb.block _ (heap_lt HX.out)).trans HX.out)
    clear HX
    have HX := HX'
    clear HX'
    have HB3 := Lib.hid (HB2.out.trans (hb.mono HB2.out.size))
    clear hb
    obtain ⟨m0, m1, m2, m3, m4, m5, m6, m7, m8, m9, m10⟩ := bx11 HX.out
    go_wp2_with fail
    clear CC CP HR HS1
    refine (lnum_any _ _).mono ?_
    rintro e wz ⟨rfl, hw⟩
    have hw := hw.symm
    subst hw
    go_wp2_with fail
    refine (L.out _ (HG.out _ HB3.out)).mono ?_
    rintro e w4 ⟨rfl, hb⟩
    clear m0 m1 m2 m3 m4 m5 m6 m7 m8 m9 m10
    have HX' := Lib.hid ((hb.block _ (heap_lt HX.out)).trans HX.out)
    clear HX
    have HX := HX'
    clear HX'
    have HB4 := Lib.hid (HB3.out.trans (hb.mono HB3.out.size))
    clear hb
    obtain ⟨m0, m1, m2, m3, m4, m5, m6, m7, m8, m9, m10⟩ := bx11 HX.out
    go_wp2_with fail
    go_ret
    exact ⟨rfl, HB4.out⟩
set_option maxRecDepth 100000 in
set_option maxHeartbeats 8000000 in
theorem classes_flat1 (n : Nt) (ai az : Option Addr) (ci cz : Nat) (w : World) (h : NtR w ai az n) (hG : Gp w) (B : ByteArray) (hC : lcl n.k = 0) (hP : lputC n 7 = 1) (hB : lputB n 7 = B) (hE : lputX n 7 = 0) : Calls Tryd.prog 5 #[nA n ai az ci cz] w (OkL w) := by
  unfold nA
  have HX := Lib.hid (box_new w #[.int .i64 n.k, .string n.n, .string n.x, .string n.d, .int .i64 n.c, .int .i64 n.s, .int .i64 n.e, .int .i64 n.t, .bool n.o, .slice ai n.l.length ci, .slice az n.z.length cz] 25)
  have HB0 : Hid (Below w.heap.size w (w.alloc (.cells #[.int .i64 n.k, .string n.n, .string n.x, .string n.d, .int .i64 n.c, .int .i64 n.s, .int .i64 n.e, .int .i64 n.t, .bool n.o, .slice ai n.l.length ci, .slice az n.z.length cz] 25))) := (Below.refl _ w).alloc (Nat.le_refl _) _
  have HG := Lib.hid (fun W (hb : Below w.heap.size w W) => hG.below hb)
  have L := Lib.hid (fun W (g : Gp W) => live_any W g)
  have HR := Lib.hid (fun W (hb : Below w.heap.size w W) => h.below hb)
  have CS : Hid (∀ W, Below w.heap.size w W → Calls Tryd.prog 6 #[.agg #[.int .i64 n.k, .string n.n, .string n.x, .string n.d, .int .i64 n.c, .int .i64 n.s, .int .i64 n.e, .int .i64 n.t, .bool n.o, .slice ai n.l.length ci, .slice az n.z.length cz]] W (SmlP n W)) := fun W hb => small_any n ai az ci cz W (h.below hb)
  have CC : Hid (∀ W, Gp W → Calls Tryd.prog 13 #[.int .i64 n.k] W (Gives (.int .i64 (0)) W)) := fun W g => by
    have k : Calls Tryd.prog 13 #[.int .i64 n.k] W (Gives (.int .i64 (lcl n.k)) W) := lclass_any n.k W g
    rw [hC] at k
    exact k
  have CP : Hid (∀ W, Gp W → NtL W ai az n → Calls Tryd.prog 8 #[.agg #[.int .i64 n.k, .string n.n, .string n.x, .string n.d, .int .i64 n.c, .int .i64 n.s, .int .i64 n.e, .int .i64 n.t, .bool n.o, .slice ai n.l.length ci, .slice az n.z.length cz], .int .i64 7] W (Gives (.tuple #[.int .i64 (1), .string B, .int .i64 0]) W)) := fun W g hl => by
    have k := lput_any n 7 ai az ci cz W hl g
    rw [hP, hB, hE] at k
    exact k
  clear h hG hC hP hB hE
  obtain ⟨m0, m1, m2, m3, m4, m5, m6, m7, m8, m9, m10⟩ := bx11 HX.out
  go_enter Tryd.func5, Tryd.ntmps5
  go_wp2_with fail
  refine (CS.out _ HB0.out).mono ?_
  rintro e w1 ⟨b, rfl, hb, hs⟩
  clear m0 m1 m2 m3 m4 m5 m6 m7 m8 m9 m10
  have HX' := Lib.hid ((hb.block _ (heap_lt HX.out)).trans HX.out)
  clear HX
  have HX := HX'
  clear HX'
  have HB1 := Lib.hid (HB0.out.trans (hb.mono HB0.out.size))
  have HS := Lib.hid hs
  clear hb hs
  clear CS
  cases b
  · skip
    clear HS CC CP HR
    obtain ⟨m0, m1, m2, m3, m4, m5, m6, m7, m8, m9, m10⟩ := bx11 HX.out
    go_wp2_with fail
    refine (L.out _ (HG.out _ HB1.out)).mono ?_
    rintro e w2 ⟨rfl, hb⟩
    clear m0 m1 m2 m3 m4 m5 m6 m7 m8 m9 m10
    have HX' := Lib.hid ((hb.block _ (heap_lt HX.out)).trans HX.out)
    clear HX
    have HX := HX'
    clear HX'
    have HB2 := Lib.hid (HB1.out.trans (hb.mono HB1.out.size))
    clear hb
    obtain ⟨m0, m1, m2, m3, m4, m5, m6, m7, m8, m9, m10⟩ := bx11 HX.out
    go_wp2_with fail
    go_ret
    exact ⟨rfl, HB2.out⟩
  · skip
    have HS1 := Lib.hid (HS.out rfl)
    clear HS
    obtain ⟨m0, m1, m2, m3, m4, m5, m6, m7, m8, m9, m10⟩ := bx11 HX.out
    go_wp2_with fail
    refine (CC.out _ (HG.out _ HB1.out)).mono ?_
    rintro e w2 ⟨rfl, hb⟩
    clear m0 m1 m2 m3 m4 m5 m6 m7 m8 m9 m10
    have HX' := Lib.hid ((hb.block _ (heap_lt HX.out)).trans HX.out)
    clear HX
    have HX := HX'
    clear HX'
    have HB2 := Lib.hid (HB1.out.trans (hb.mono HB1.out.size))
    clear hb
    obtain ⟨m0, m1, m2, m3, m4, m5, m6, m7, m8, m9, m10⟩ := bx11 HX.out
    go_wp2_with fail
    refine (CP.out _ (HG.out _ HB2.out) ((HR.out _ HB2.out).small HS1.out (by decide))).mono ?_
    rintro e w3 ⟨rfl, hb⟩
    clear m0 m1 m2 m3 m4 m5 m6 m7 m8 m9 m10
    have HX' := Lib.hid ((hb.block _ (heap_lt HX.out)).trans HX.out)
    clear HX
    have HX := HX'
    clear HX'
    have HB3 := Lib.hid (HB2.out.trans (hb.mono HB2.out.size))
    clear hb
    obtain ⟨m0, m1, m2, m3, m4, m5, m6, m7, m8, m9, m10⟩ := bx11 HX.out
    go_wp2_with fail
    clear CC CP HR HS1
    refine (lnum_any _ _).mono ?_
    rintro e wz ⟨rfl, hw⟩
    have hw := hw.symm
    subst hw
    go_wp2_with fail
    refine (L.out _ (HG.out _ HB3.out)).mono ?_
    rintro e w4 ⟨rfl, hb⟩
    clear m0 m1 m2 m3 m4 m5 m6 m7 m8 m9 m10
    have HX' := Lib.hid ((hb.block _ (heap_lt HX.out)).trans HX.out)
    clear HX
    have HX := HX'
    clear HX'
    have HB4 := Lib.hid (HB3.out.trans (hb.mono HB3.out.size))
    clear hb
    obtain ⟨m0, m1, m2, m3, m4, m5, m6, m7, m8, m9, m10⟩ := bx11 HX.out
    go_wp2_with fail
    go_ret
    exact ⟨rfl, HB4.out⟩
set_option maxRecDepth 100000 in
set_option maxHeartbeats 8000000 in
theorem classes_flat4 (n : Nt) (ai az : Option Addr) (ci cz : Nat) (w : World) (h : NtR w ai az n) (hG : Gp w) (B : ByteArray) (hC : lcl n.k = 0) (hP : lputC n 7 = 4) (hB : lputB n 7 = B) (hE : lputX n 7 = 0) : Calls Tryd.prog 5 #[nA n ai az ci cz] w (OkL w) := by
  unfold nA
  have HX := Lib.hid (box_new w #[.int .i64 n.k, .string n.n, .string n.x, .string n.d, .int .i64 n.c, .int .i64 n.s, .int .i64 n.e, .int .i64 n.t, .bool n.o, .slice ai n.l.length ci, .slice az n.z.length cz] 25)
  have HB0 : Hid (Below w.heap.size w (w.alloc (.cells #[.int .i64 n.k, .string n.n, .string n.x, .string n.d, .int .i64 n.c, .int .i64 n.s, .int .i64 n.e, .int .i64 n.t, .bool n.o, .slice ai n.l.length ci, .slice az n.z.length cz] 25))) := (Below.refl _ w).alloc (Nat.le_refl _) _
  have HG := Lib.hid (fun W (hb : Below w.heap.size w W) => hG.below hb)
  have L := Lib.hid (fun W (g : Gp W) => live_any W g)
  have HR := Lib.hid (fun W (hb : Below w.heap.size w W) => h.below hb)
  have CS : Hid (∀ W, Below w.heap.size w W → Calls Tryd.prog 6 #[.agg #[.int .i64 n.k, .string n.n, .string n.x, .string n.d, .int .i64 n.c, .int .i64 n.s, .int .i64 n.e, .int .i64 n.t, .bool n.o, .slice ai n.l.length ci, .slice az n.z.length cz]] W (SmlP n W)) := fun W hb => small_any n ai az ci cz W (h.below hb)
  have CC : Hid (∀ W, Gp W → Calls Tryd.prog 13 #[.int .i64 n.k] W (Gives (.int .i64 (0)) W)) := fun W g => by
    have k : Calls Tryd.prog 13 #[.int .i64 n.k] W (Gives (.int .i64 (lcl n.k)) W) := lclass_any n.k W g
    rw [hC] at k
    exact k
  have CP : Hid (∀ W, Gp W → NtL W ai az n → Calls Tryd.prog 8 #[.agg #[.int .i64 n.k, .string n.n, .string n.x, .string n.d, .int .i64 n.c, .int .i64 n.s, .int .i64 n.e, .int .i64 n.t, .bool n.o, .slice ai n.l.length ci, .slice az n.z.length cz], .int .i64 7] W (Gives (.tuple #[.int .i64 (4), .string B, .int .i64 0]) W)) := fun W g hl => by
    have k := lput_any n 7 ai az ci cz W hl g
    rw [hP, hB, hE] at k
    exact k
  clear h hG hC hP hB hE
  obtain ⟨m0, m1, m2, m3, m4, m5, m6, m7, m8, m9, m10⟩ := bx11 HX.out
  go_enter Tryd.func5, Tryd.ntmps5
  go_wp2_with fail
  refine (CS.out _ HB0.out).mono ?_
  rintro e w1 ⟨b, rfl, hb, hs⟩
  clear m0 m1 m2 m3 m4 m5 m6 m7 m8 m9 m10
  have HX' := Lib.hid ((hb.block _ (heap_lt HX.out)).trans HX.out)
  clear HX
  have HX := HX'
  clear HX'
  have HB1 := Lib.hid (HB0.out.trans (hb.mono HB0.out.size))
  have HS := Lib.hid hs
  clear hb hs
  clear CS
  cases b
  · skip
    clear HS CC CP HR
    obtain ⟨m0, m1, m2, m3, m4, m5, m6, m7, m8, m9, m10⟩ := bx11 HX.out
    go_wp2_with fail
    refine (L.out _ (HG.out _ HB1.out)).mono ?_
    rintro e w2 ⟨rfl, hb⟩
    clear m0 m1 m2 m3 m4 m5 m6 m7 m8 m9 m10
    have HX' := Lib.hid ((hb.block _ (heap_lt HX.out)).trans HX.out)
    clear HX
    have HX := HX'
    clear HX'
    have HB2 := Lib.hid (HB1.out.trans (hb.mono HB1.out.size))
    clear hb
    obtain ⟨m0, m1, m2, m3, m4, m5, m6, m7, m8, m9, m10⟩ := bx11 HX.out
    go_wp2_with fail
    go_ret
    exact ⟨rfl, HB2.out⟩
  · skip
    have HS1 := Lib.hid (HS.out rfl)
    clear HS
    obtain ⟨m0, m1, m2, m3, m4, m5, m6, m7, m8, m9, m10⟩ := bx11 HX.out
    go_wp2_with fail
    refine (CC.out _ (HG.out _ HB1.out)).mono ?_
    rintro e w2 ⟨rfl, hb⟩
    clear m0 m1 m2 m3 m4 m5 m6 m7 m8 m9 m10
    have HX' := Lib.hid ((hb.block _ (heap_lt HX.out)).trans HX.out)
    clear HX
    have HX := HX'
    clear HX'
    have HB2 := Lib.hid (HB1.out.trans (hb.mono HB1.out.size))
    clear hb
    obtain ⟨m0, m1, m2, m3, m4, m5, m6, m7, m8, m9, m10⟩ := bx11 HX.out
    go_wp2_with fail
    refine (CP.out _ (HG.out _ HB2.out) ((HR.out _ HB2.out).small HS1.out (by decide))).mono ?_
    rintro e w3 ⟨rfl, hb⟩
    clear m0 m1 m2 m3 m4 m5 m6 m7 m8 m9 m10
    have HX' := Lib.hid ((hb.block _ (heap_lt HX.out)).trans HX.out)
    clear HX
    have HX := HX'
    clear HX'
    have HB3 := Lib.hid (HB2.out.trans (hb.mono HB2.out.size))
    clear hb
    obtain ⟨m0, m1, m2, m3, m4, m5, m6, m7, m8, m9, m10⟩ := bx11 HX.out
    go_wp2_with fail
    clear CC CP HR HS1
    refine (lnum_any _ _).mono ?_
    rintro e wz ⟨rfl, hw⟩
    have hw := hw.symm
    subst hw
    go_wp2_with fail
    refine (L.out _ (HG.out _ HB3.out)).mono ?_
    rintro e w4 ⟨rfl, hb⟩
    clear m0 m1 m2 m3 m4 m5 m6 m7 m8 m9 m10
    have HX' := Lib.hid ((hb.block _ (heap_lt HX.out)).trans HX.out)
    clear HX
    have HX := HX'
    clear HX'
    have HB4 := Lib.hid (HB3.out.trans (hb.mono HB3.out.size))
    clear hb
    obtain ⟨m0, m1, m2, m3, m4, m5, m6, m7, m8, m9, m10⟩ := bx11 HX.out
    go_wp2_with fail
    go_ret
    exact ⟨rfl, HB4.out⟩
set_option maxRecDepth 100000 in
set_option maxHeartbeats 8000000 in
theorem classes_flat5 (n : Nt) (ai az : Option Addr) (ci cz : Nat) (w : World) (h : NtR w ai az n) (hG : Gp w) (B : ByteArray) (hC : lcl n.k = 0) (hP : lputC n 7 = 5) (hB : lputB n 7 = B) (hE : lputX n 7 = 0) : Calls Tryd.prog 5 #[nA n ai az ci cz] w (OkL w) := by
  unfold nA
  have HX := Lib.hid (box_new w #[.int .i64 n.k, .string n.n, .string n.x, .string n.d, .int .i64 n.c, .int .i64 n.s, .int .i64 n.e, .int .i64 n.t, .bool n.o, .slice ai n.l.length ci, .slice az n.z.length cz] 25)
  have HB0 : Hid (Below w.heap.size w (w.alloc (.cells #[.int .i64 n.k, .string n.n, .string n.x, .string n.d, .int .i64 n.c, .int .i64 n.s, .int .i64 n.e, .int .i64 n.t, .bool n.o, .slice ai n.l.length ci, .slice az n.z.length cz] 25))) := (Below.refl _ w).alloc (Nat.le_refl _) _
  have HG := Lib.hid (fun W (hb : Below w.heap.size w W) => hG.below hb)
  have L := Lib.hid (fun W (g : Gp W) => live_any W g)
  have HR := Lib.hid (fun W (hb : Below w.heap.size w W) => h.below hb)
  have CS : Hid (∀ W, Below w.heap.size w W → Calls Tryd.prog 6 #[.agg #[.int .i64 n.k, .string n.n, .string n.x, .string n.d, .int .i64 n.c, .int .i64 n.s, .int .i64 n.e, .int .i64 n.t, .bool n.o, .slice ai n.l.length ci, .slice az n.z.length cz]] W (SmlP n W)) := fun W hb => small_any n ai az ci cz W (h.below hb)
  have CC : Hid (∀ W, Gp W → Calls Tryd.prog 13 #[.int .i64 n.k] W (Gives (.int .i64 (0)) W)) := fun W g => by
    have k : Calls Tryd.prog 13 #[.int .i64 n.k] W (Gives (.int .i64 (lcl n.k)) W) := lclass_any n.k W g
    rw [hC] at k
    exact k
  have CP : Hid (∀ W, Gp W → NtL W ai az n → Calls Tryd.prog 8 #[.agg #[.int .i64 n.k, .string n.n, .string n.x, .string n.d, .int .i64 n.c, .int .i64 n.s, .int .i64 n.e, .int .i64 n.t, .bool n.o, .slice ai n.l.length ci, .slice az n.z.length cz], .int .i64 7] W (Gives (.tuple #[.int .i64 (5), .string B, .int .i64 0]) W)) := fun W g hl => by
    have k := lput_any n 7 ai az ci cz W hl g
    rw [hP, hB, hE] at k
    exact k
  clear h hG hC hP hB hE
  obtain ⟨m0, m1, m2, m3, m4, m5, m6, m7, m8, m9, m10⟩ := bx11 HX.out
  go_enter Tryd.func5, Tryd.ntmps5
  go_wp2_with fail
  refine (CS.out _ HB0.out).mono ?_
  rintro e w1 ⟨b, rfl, hb, hs⟩
  clear m0 m1 m2 m3 m4 m5 m6 m7 m8 m9 m10
  have HX' := Lib.hid ((hb.block _ (heap_lt HX.out)).trans HX.out)
  clear HX
  have HX := HX'
  clear HX'
  have HB1 := Lib.hid (HB0.out.trans (hb.mono HB0.out.size))
  have HS := Lib.hid hs
  clear hb hs
  clear CS
  cases b
  · skip
    clear HS CC CP HR
    obtain ⟨m0, m1, m2, m3, m4, m5, m6, m7, m8, m9, m10⟩ := bx11 HX.out
    go_wp2_with fail
    refine (L.out _ (HG.out _ HB1.out)).mono ?_
    rintro e w2 ⟨rfl, hb⟩
    clear m0 m1 m2 m3 m4 m5 m6 m7 m8 m9 m10
    have HX' := Lib.hid ((hb.block _ (heap_lt HX.out)).trans HX.out)
    clear HX
    have HX := HX'
    clear HX'
    have HB2 := Lib.hid (HB1.out.trans (hb.mono HB1.out.size))
    clear hb
    obtain ⟨m0, m1, m2, m3, m4, m5, m6, m7, m8, m9, m10⟩ := bx11 HX.out
    go_wp2_with fail
    go_ret
    exact ⟨rfl, HB2.out⟩
  · skip
    have HS1 := Lib.hid (HS.out rfl)
    clear HS
    obtain ⟨m0, m1, m2, m3, m4, m5, m6, m7, m8, m9, m10⟩ := bx11 HX.out
    go_wp2_with fail
    refine (CC.out _ (HG.out _ HB1.out)).mono ?_
    rintro e w2 ⟨rfl, hb⟩
    clear m0 m1 m2 m3 m4 m5 m6 m7 m8 m9 m10
    have HX' := Lib.hid ((hb.block _ (heap_lt HX.out)).trans HX.out)
    clear HX
    have HX := HX'
    clear HX'
    have HB2 := Lib.hid (HB1.out.trans (hb.mono HB1.out.size))
    clear hb
    obtain ⟨m0, m1, m2, m3, m4, m5, m6, m7, m8, m9, m10⟩ := bx11 HX.out
    go_wp2_with fail
    refine (CP.out _ (HG.out _ HB2.out) ((HR.out _ HB2.out).small HS1.out (by decide))).mono ?_
    rintro e w3 ⟨rfl, hb⟩
    clear m0 m1 m2 m3 m4 m5 m6 m7 m8 m9 m10
    have HX' := Lib.hid ((hb.block _ (heap_lt HX.out)).trans HX.out)
    clear HX
    have HX := HX'
    clear HX'
    have HB3 := Lib.hid (HB2.out.trans (hb.mono HB2.out.size))
    clear hb
    obtain ⟨m0, m1, m2, m3, m4, m5, m6, m7, m8, m9, m10⟩ := bx11 HX.out
    go_wp2_with fail
    clear CC CP HR HS1
    refine (lnum_any _ _).mono ?_
    rintro e wz ⟨rfl, hw⟩
    have hw := hw.symm
    subst hw
    go_wp2_with fail
    refine (L.out _ (HG.out _ HB3.out)).mono ?_
    rintro e w4 ⟨rfl, hb⟩
    clear m0 m1 m2 m3 m4 m5 m6 m7 m8 m9 m10
    have HX' := Lib.hid ((hb.block _ (heap_lt HX.out)).trans HX.out)
    clear HX
    have HX := HX'
    clear HX'
    have HB4 := Lib.hid (HB3.out.trans (hb.mono HB3.out.size))
    clear hb
    obtain ⟨m0, m1, m2, m3, m4, m5, m6, m7, m8, m9, m10⟩ := bx11 HX.out
    go_wp2_with fail
    go_ret
    exact ⟨rfl, HB4.out⟩
set_option maxRecDepth 100000 in
set_option maxHeartbeats 8000000 in
theorem classes_snac1 (n : Nt) (ai az : Option Addr) (ci cz : Nat) (w : World) (h : NtR w ai az n) (hG : Gp w) (B : ByteArray) (hC : lcl n.k = 1) (hP : lputC n 7 = 2) (hB : lputB n 7 = B) (hE : lputX n 7 = 0) (hz : 10 ≤ B.size) (h9 : (B[9]'hz).toNat = 7) : Calls Tryd.prog 5 #[nA n ai az ci cz] w (OkL w) := by
  unfold nA
  have hz1 : (10 : Int) ≤ B.size := by omega
  have HX := Lib.hid (box_new w #[.int .i64 n.k, .string n.n, .string n.x, .string n.d, .int .i64 n.c, .int .i64 n.s, .int .i64 n.e, .int .i64 n.t, .bool n.o, .slice ai n.l.length ci, .slice az n.z.length cz] 25)
  have HB0 : Hid (Below w.heap.size w (w.alloc (.cells #[.int .i64 n.k, .string n.n, .string n.x, .string n.d, .int .i64 n.c, .int .i64 n.s, .int .i64 n.e, .int .i64 n.t, .bool n.o, .slice ai n.l.length ci, .slice az n.z.length cz] 25))) := (Below.refl _ w).alloc (Nat.le_refl _) _
  have HG := Lib.hid (fun W (hb : Below w.heap.size w W) => hG.below hb)
  have L := Lib.hid (fun W (g : Gp W) => live_any W g)
  have HR := Lib.hid (fun W (hb : Below w.heap.size w W) => h.below hb)
  have CS : Hid (∀ W, Below w.heap.size w W → Calls Tryd.prog 6 #[.agg #[.int .i64 n.k, .string n.n, .string n.x, .string n.d, .int .i64 n.c, .int .i64 n.s, .int .i64 n.e, .int .i64 n.t, .bool n.o, .slice ai n.l.length ci, .slice az n.z.length cz]] W (SmlP n W)) := fun W hb => small_any n ai az ci cz W (h.below hb)
  have CC : Hid (∀ W, Gp W → Calls Tryd.prog 13 #[.int .i64 n.k] W (Gives (.int .i64 (1)) W)) := fun W g => by
    have k : Calls Tryd.prog 13 #[.int .i64 n.k] W (Gives (.int .i64 (lcl n.k)) W) := lclass_any n.k W g
    rw [hC] at k
    exact k
  have CP : Hid (∀ W, Gp W → NtL W ai az n → Calls Tryd.prog 8 #[.agg #[.int .i64 n.k, .string n.n, .string n.x, .string n.d, .int .i64 n.c, .int .i64 n.s, .int .i64 n.e, .int .i64 n.t, .bool n.o, .slice ai n.l.length ci, .slice az n.z.length cz], .int .i64 7] W (Gives (.tuple #[.int .i64 (2), .string B, .int .i64 0]) W)) := fun W g hl => by
    have k := lput_any n 7 ai az ci cz W hl g
    rw [hP, hB, hE] at k
    exact k
  clear h hG hC hP hB hE
  obtain ⟨m0, m1, m2, m3, m4, m5, m6, m7, m8, m9, m10⟩ := bx11 HX.out
  go_enter Tryd.func5, Tryd.ntmps5
  go_wp2_with fail
  refine (CS.out _ HB0.out).mono ?_
  rintro e w1 ⟨b, rfl, hb, hs⟩
  clear m0 m1 m2 m3 m4 m5 m6 m7 m8 m9 m10
  have HX' := Lib.hid ((hb.block _ (heap_lt HX.out)).trans HX.out)
  clear HX
  have HX := HX'
  clear HX'
  have HB1 := Lib.hid (HB0.out.trans (hb.mono HB0.out.size))
  have HS := Lib.hid hs
  clear hb hs
  clear CS
  cases b
  · skip
    clear HS CC CP HR
    obtain ⟨m0, m1, m2, m3, m4, m5, m6, m7, m8, m9, m10⟩ := bx11 HX.out
    go_wp2_with fail
    refine (L.out _ (HG.out _ HB1.out)).mono ?_
    rintro e w2 ⟨rfl, hb⟩
    clear m0 m1 m2 m3 m4 m5 m6 m7 m8 m9 m10
    have HX' := Lib.hid ((hb.block _ (heap_lt HX.out)).trans HX.out)
    clear HX
    have HX := HX'
    clear HX'
    have HB2 := Lib.hid (HB1.out.trans (hb.mono HB1.out.size))
    clear hb
    obtain ⟨m0, m1, m2, m3, m4, m5, m6, m7, m8, m9, m10⟩ := bx11 HX.out
    go_wp2_with fail
    go_ret
    exact ⟨rfl, HB2.out⟩
  · skip
    have HS1 := Lib.hid (HS.out rfl)
    clear HS
    obtain ⟨m0, m1, m2, m3, m4, m5, m6, m7, m8, m9, m10⟩ := bx11 HX.out
    go_wp2_with fail
    refine (CC.out _ (HG.out _ HB1.out)).mono ?_
    rintro e w2 ⟨rfl, hb⟩
    clear m0 m1 m2 m3 m4 m5 m6 m7 m8 m9 m10
    have HX' := Lib.hid ((hb.block _ (heap_lt HX.out)).trans HX.out)
    clear HX
    have HX := HX'
    clear HX'
    have HB2 := Lib.hid (HB1.out.trans (hb.mono HB1.out.size))
    clear hb
    obtain ⟨m0, m1, m2, m3, m4, m5, m6, m7, m8, m9, m10⟩ := bx11 HX.out
    go_wp2_with fail
    refine (CP.out _ (HG.out _ HB2.out) ((HR.out _ HB2.out).small HS1.out (by decide))).mono ?_
    rintro e w3 ⟨rfl, hb⟩
    clear m0 m1 m2 m3 m4 m5 m6 m7 m8 m9 m10
    have HX' := Lib.hid ((hb.block _ (heap_lt HX.out)).trans HX.out)
    clear HX
    have HX := HX'
    clear HX'
    have HB3 := Lib.hid (HB2.out.trans (hb.mono HB2.out.size))
    clear hb
    obtain ⟨m0, m1, m2, m3, m4, m5, m6, m7, m8, m9, m10⟩ := bx11 HX.out
    go_wp2_with fail
    clear CC CP HR HS1
    refine (lnum_any _ _).mono ?_
    rintro e wz ⟨rfl, hw⟩
    have hw := hw.symm
    subst hw
    go_wp2_with fail
    refine (L.out _ (HG.out _ HB3.out)).mono ?_
    rintro e w4 ⟨rfl, hb⟩
    clear m0 m1 m2 m3 m4 m5 m6 m7 m8 m9 m10
    have HX' := Lib.hid ((hb.block _ (heap_lt HX.out)).trans HX.out)
    clear HX
    have HX := HX'
    clear HX'
    have HB4 := Lib.hid (HB3.out.trans (hb.mono HB3.out.size))
    clear hb
    obtain ⟨m0, m1, m2, m3, m4, m5, m6, m7, m8, m9, m10⟩ := bx11 HX.out
    go_wp2_with fail
    go_ret
    exact ⟨rfl, HB4.out⟩
set_option maxRecDepth 100000 in
set_option maxHeartbeats 8000000 in
theorem classes_snac2 (n : Nt) (ai az : Option Addr) (ci cz : Nat) (w : World) (h : NtR w ai az n) (hG : Gp w) (B : ByteArray) (hC : lcl n.k = 2) (hP : lputC n 7 = 2) (hB : lputB n 7 = B) (hE : lputX n 7 = 0) (hz : 10 ≤ B.size) (h9 : (B[9]'hz).toNat = 7) : Calls Tryd.prog 5 #[nA n ai az ci cz] w (OkL w) := by
  unfold nA
  have hz1 : (10 : Int) ≤ B.size := by omega
  have HX := Lib.hid (box_new w #[.int .i64 n.k, .string n.n, .string n.x, .string n.d, .int .i64 n.c, .int .i64 n.s, .int .i64 n.e, .int .i64 n.t, .bool n.o, .slice ai n.l.length ci, .slice az n.z.length cz] 25)
  have HB0 : Hid (Below w.heap.size w (w.alloc (.cells #[.int .i64 n.k, .string n.n, .string n.x, .string n.d, .int .i64 n.c, .int .i64 n.s, .int .i64 n.e, .int .i64 n.t, .bool n.o, .slice ai n.l.length ci, .slice az n.z.length cz] 25))) := (Below.refl _ w).alloc (Nat.le_refl _) _
  have HG := Lib.hid (fun W (hb : Below w.heap.size w W) => hG.below hb)
  have L := Lib.hid (fun W (g : Gp W) => live_any W g)
  have HR := Lib.hid (fun W (hb : Below w.heap.size w W) => h.below hb)
  have CS : Hid (∀ W, Below w.heap.size w W → Calls Tryd.prog 6 #[.agg #[.int .i64 n.k, .string n.n, .string n.x, .string n.d, .int .i64 n.c, .int .i64 n.s, .int .i64 n.e, .int .i64 n.t, .bool n.o, .slice ai n.l.length ci, .slice az n.z.length cz]] W (SmlP n W)) := fun W hb => small_any n ai az ci cz W (h.below hb)
  have CC : Hid (∀ W, Gp W → Calls Tryd.prog 13 #[.int .i64 n.k] W (Gives (.int .i64 (2)) W)) := fun W g => by
    have k : Calls Tryd.prog 13 #[.int .i64 n.k] W (Gives (.int .i64 (lcl n.k)) W) := lclass_any n.k W g
    rw [hC] at k
    exact k
  have CP : Hid (∀ W, Gp W → NtL W ai az n → Calls Tryd.prog 8 #[.agg #[.int .i64 n.k, .string n.n, .string n.x, .string n.d, .int .i64 n.c, .int .i64 n.s, .int .i64 n.e, .int .i64 n.t, .bool n.o, .slice ai n.l.length ci, .slice az n.z.length cz], .int .i64 7] W (Gives (.tuple #[.int .i64 (2), .string B, .int .i64 0]) W)) := fun W g hl => by
    have k := lput_any n 7 ai az ci cz W hl g
    rw [hP, hB, hE] at k
    exact k
  clear h hG hC hP hB hE
  obtain ⟨m0, m1, m2, m3, m4, m5, m6, m7, m8, m9, m10⟩ := bx11 HX.out
  go_enter Tryd.func5, Tryd.ntmps5
  go_wp2_with fail
  refine (CS.out _ HB0.out).mono ?_
  rintro e w1 ⟨b, rfl, hb, hs⟩
  clear m0 m1 m2 m3 m4 m5 m6 m7 m8 m9 m10
  have HX' := Lib.hid ((hb.block _ (heap_lt HX.out)).trans HX.out)
  clear HX
  have HX := HX'
  clear HX'
  have HB1 := Lib.hid (HB0.out.trans (hb.mono HB0.out.size))
  have HS := Lib.hid hs
  clear hb hs
  clear CS
  cases b
  · skip
    clear HS CC CP HR
    obtain ⟨m0, m1, m2, m3, m4, m5, m6, m7, m8, m9, m10⟩ := bx11 HX.out
    go_wp2_with fail
    refine (L.out _ (HG.out _ HB1.out)).mono ?_
    rintro e w2 ⟨rfl, hb⟩
    clear m0 m1 m2 m3 m4 m5 m6 m7 m8 m9 m10
    have HX' := Lib.hid ((hb.block _ (heap_lt HX.out)).trans HX.out)
    clear HX
    have HX := HX'
    clear HX'
    have HB2 := Lib.hid (HB1.out.trans (hb.mono HB1.out.size))
    clear hb
    obtain ⟨m0, m1, m2, m3, m4, m5, m6, m7, m8, m9, m10⟩ := bx11 HX.out
    go_wp2_with fail
    go_ret
    exact ⟨rfl, HB2.out⟩
  · skip
    have HS1 := Lib.hid (HS.out rfl)
    clear HS
    obtain ⟨m0, m1, m2, m3, m4, m5, m6, m7, m8, m9, m10⟩ := bx11 HX.out
    go_wp2_with fail
    refine (CC.out _ (HG.out _ HB1.out)).mono ?_
    rintro e w2 ⟨rfl, hb⟩
    clear m0 m1 m2 m3 m4 m5 m6 m7 m8 m9 m10
    have HX' := Lib.hid ((hb.block _ (heap_lt HX.out)).trans HX.out)
    clear HX
    have HX := HX'
    clear HX'
    have HB2 := Lib.hid (HB1.out.trans (hb.mono HB1.out.size))
    clear hb
    obtain ⟨m0, m1, m2, m3, m4, m5, m6, m7, m8, m9, m10⟩ := bx11 HX.out
    go_wp2_with fail
    refine (CP.out _ (HG.out _ HB2.out) ((HR.out _ HB2.out).small HS1.out (by decide))).mono ?_
    rintro e w3 ⟨rfl, hb⟩
    clear m0 m1 m2 m3 m4 m5 m6 m7 m8 m9 m10
    have HX' := Lib.hid ((hb.block _ (heap_lt HX.out)).trans HX.out)
    clear HX
    have HX := HX'
    clear HX'
    have HB3 := Lib.hid (HB2.out.trans (hb.mono HB2.out.size))
    clear hb
    obtain ⟨m0, m1, m2, m3, m4, m5, m6, m7, m8, m9, m10⟩ := bx11 HX.out
    go_wp2_with fail
    clear CC CP HR HS1
    refine (lnum_any _ _).mono ?_
    rintro e wz ⟨rfl, hw⟩
    have hw := hw.symm
    subst hw
    go_wp2_with fail
    refine (L.out _ (HG.out _ HB3.out)).mono ?_
    rintro e w4 ⟨rfl, hb⟩
    clear m0 m1 m2 m3 m4 m5 m6 m7 m8 m9 m10
    have HX' := Lib.hid ((hb.block _ (heap_lt HX.out)).trans HX.out)
    clear HX
    have HX := HX'
    clear HX'
    have HB4 := Lib.hid (HB3.out.trans (hb.mono HB3.out.size))
    clear hb
    obtain ⟨m0, m1, m2, m3, m4, m5, m6, m7, m8, m9, m10⟩ := bx11 HX.out
    go_wp2_with fail
    go_ret
    exact ⟨rfl, HB4.out⟩
set_option maxRecDepth 100000 in
set_option maxHeartbeats 8000000 in
theorem classes_snac3 (n : Nt) (ai az : Option Addr) (ci cz : Nat) (w : World) (h : NtR w ai az n) (hG : Gp w) (B : ByteArray) (hC : lcl n.k = 3) (hP : lputC n 7 = 2) (hB : lputB n 7 = B) (hE : lputX n 7 = 0) (hz : 10 ≤ B.size) (h9 : (B[9]'hz).toNat = 7) : Calls Tryd.prog 5 #[nA n ai az ci cz] w (OkL w) := by
  unfold nA
  have hz1 : (10 : Int) ≤ B.size := by omega
  have HX := Lib.hid (box_new w #[.int .i64 n.k, .string n.n, .string n.x, .string n.d, .int .i64 n.c, .int .i64 n.s, .int .i64 n.e, .int .i64 n.t, .bool n.o, .slice ai n.l.length ci, .slice az n.z.length cz] 25)
  have HB0 : Hid (Below w.heap.size w (w.alloc (.cells #[.int .i64 n.k, .string n.n, .string n.x, .string n.d, .int .i64 n.c, .int .i64 n.s, .int .i64 n.e, .int .i64 n.t, .bool n.o, .slice ai n.l.length ci, .slice az n.z.length cz] 25))) := (Below.refl _ w).alloc (Nat.le_refl _) _
  have HG := Lib.hid (fun W (hb : Below w.heap.size w W) => hG.below hb)
  have L := Lib.hid (fun W (g : Gp W) => live_any W g)
  have HR := Lib.hid (fun W (hb : Below w.heap.size w W) => h.below hb)
  have CS : Hid (∀ W, Below w.heap.size w W → Calls Tryd.prog 6 #[.agg #[.int .i64 n.k, .string n.n, .string n.x, .string n.d, .int .i64 n.c, .int .i64 n.s, .int .i64 n.e, .int .i64 n.t, .bool n.o, .slice ai n.l.length ci, .slice az n.z.length cz]] W (SmlP n W)) := fun W hb => small_any n ai az ci cz W (h.below hb)
  have CC : Hid (∀ W, Gp W → Calls Tryd.prog 13 #[.int .i64 n.k] W (Gives (.int .i64 (3)) W)) := fun W g => by
    have k : Calls Tryd.prog 13 #[.int .i64 n.k] W (Gives (.int .i64 (lcl n.k)) W) := lclass_any n.k W g
    rw [hC] at k
    exact k
  have CP : Hid (∀ W, Gp W → NtL W ai az n → Calls Tryd.prog 8 #[.agg #[.int .i64 n.k, .string n.n, .string n.x, .string n.d, .int .i64 n.c, .int .i64 n.s, .int .i64 n.e, .int .i64 n.t, .bool n.o, .slice ai n.l.length ci, .slice az n.z.length cz], .int .i64 7] W (Gives (.tuple #[.int .i64 (2), .string B, .int .i64 0]) W)) := fun W g hl => by
    have k := lput_any n 7 ai az ci cz W hl g
    rw [hP, hB, hE] at k
    exact k
  clear h hG hC hP hB hE
  obtain ⟨m0, m1, m2, m3, m4, m5, m6, m7, m8, m9, m10⟩ := bx11 HX.out
  go_enter Tryd.func5, Tryd.ntmps5
  go_wp2_with fail
  refine (CS.out _ HB0.out).mono ?_
  rintro e w1 ⟨b, rfl, hb, hs⟩
  clear m0 m1 m2 m3 m4 m5 m6 m7 m8 m9 m10
  have HX' := Lib.hid ((hb.block _ (heap_lt HX.out)).trans HX.out)
  clear HX
  have HX := HX'
  clear HX'
  have HB1 := Lib.hid (HB0.out.trans (hb.mono HB0.out.size))
  have HS := Lib.hid hs
  clear hb hs
  clear CS
  cases b
  · skip
    clear HS CC CP HR
    obtain ⟨m0, m1, m2, m3, m4, m5, m6, m7, m8, m9, m10⟩ := bx11 HX.out
    go_wp2_with fail
    refine (L.out _ (HG.out _ HB1.out)).mono ?_
    rintro e w2 ⟨rfl, hb⟩
    clear m0 m1 m2 m3 m4 m5 m6 m7 m8 m9 m10
    have HX' := Lib.hid ((hb.block _ (heap_lt HX.out)).trans HX.out)
    clear HX
    have HX := HX'
    clear HX'
    have HB2 := Lib.hid (HB1.out.trans (hb.mono HB1.out.size))
    clear hb
    obtain ⟨m0, m1, m2, m3, m4, m5, m6, m7, m8, m9, m10⟩ := bx11 HX.out
    go_wp2_with fail
    go_ret
    exact ⟨rfl, HB2.out⟩
  · skip
    have HS1 := Lib.hid (HS.out rfl)
    clear HS
    obtain ⟨m0, m1, m2, m3, m4, m5, m6, m7, m8, m9, m10⟩ := bx11 HX.out
    go_wp2_with fail
    refine (CC.out _ (HG.out _ HB1.out)).mono ?_
    rintro e w2 ⟨rfl, hb⟩
    clear m0 m1 m2 m3 m4 m5 m6 m7 m8 m9 m10
    have HX' := Lib.hid ((hb.block _ (heap_lt HX.out)).trans HX.out)
    clear HX
    have HX := HX'
    clear HX'
    have HB2 := Lib.hid (HB1.out.trans (hb.mono HB1.out.size))
    clear hb
    obtain ⟨m0, m1, m2, m3, m4, m5, m6, m7, m8, m9, m10⟩ := bx11 HX.out
    go_wp2_with fail
    refine (CP.out _ (HG.out _ HB2.out) ((HR.out _ HB2.out).small HS1.out (by decide))).mono ?_
    rintro e w3 ⟨rfl, hb⟩
    clear m0 m1 m2 m3 m4 m5 m6 m7 m8 m9 m10
    have HX' := Lib.hid ((hb.block _ (heap_lt HX.out)).trans HX.out)
    clear HX
    have HX := HX'
    clear HX'
    have HB3 := Lib.hid (HB2.out.trans (hb.mono HB2.out.size))
    clear hb
    obtain ⟨m0, m1, m2, m3, m4, m5, m6, m7, m8, m9, m10⟩ := bx11 HX.out
    go_wp2_with fail
    clear CC CP HR HS1
    refine (lnum_any _ _).mono ?_
    rintro e wz ⟨rfl, hw⟩
    have hw := hw.symm
    subst hw
    go_wp2_with fail
    refine (L.out _ (HG.out _ HB3.out)).mono ?_
    rintro e w4 ⟨rfl, hb⟩
    clear m0 m1 m2 m3 m4 m5 m6 m7 m8 m9 m10
    have HX' := Lib.hid ((hb.block _ (heap_lt HX.out)).trans HX.out)
    clear HX
    have HX := HX'
    clear HX'
    have HB4 := Lib.hid (HB3.out.trans (hb.mono HB3.out.size))
    clear hb
    obtain ⟨m0, m1, m2, m3, m4, m5, m6, m7, m8, m9, m10⟩ := bx11 HX.out
    go_wp2_with fail
    go_ret
    exact ⟨rfl, HB4.out⟩
theorem classes_walk (n : Nt) (ai az : Option Addr) (ci cz : Nat) (w : World) (h : NtR w ai az n) (hG : Gp w) : Calls Tryd.prog 5 #[nA n ai az ci cz] w (OkL w) := by
  cases hok : lputOk n 7
  · obtain ⟨p1, p2, p3⟩ := put_no hok
    rcases lcl_cases n.k with c | c | c | c
    · exact classes_no0 n ai az ci cz w h hG _ c p1 p2 p3
    · exact classes_no1 n ai az ci cz w h hG _ c p1 p2 p3
    · exact classes_no2 n ai az ci cz w h hG _ c p1 p2 p3
    · exact classes_no3 n ai az ci cz w h hG _ c p1 p2 p3
  · have p3 := put_yes hok
    rcases put_cases hok with ⟨c, p1 | p1 | p1⟩ | ⟨c, p1, hz, h9⟩
    · exact classes_flat1 n ai az ci cz w h hG _ c p1 rfl p3
    · exact classes_flat4 n ai az ci cz w h hG _ c p1 rfl p3
    · exact classes_flat5 n ai az ci cz w h hG _ c p1 rfl p3
    · have e9 : ((lputB n 7)[9]'hz).toNat = 7 := by rw [By.byte_nb]; exact h9 rfl
      rcases c with c | c | c
      · exact classes_snac1 n ai az ci cz w h hG _ c p1 rfl p3 hz e9
      · exact classes_snac2 n ai az ci cz w h hG _ c p1 rfl p3 hz e9
      · exact classes_snac3 n ai az ci cz w h hG _ c p1 rfl p3 hz e9
end Go.Proofs.YtclkehfnakhljaaDoor.T
