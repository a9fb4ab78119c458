/- The walk of the law LegacyBack. Conditions: the tables of places and of widths hold what the program's text lays; a note takes at most what a machine can hold. -/
import Derived.Test.YtclkehfnakhljaaDoorLp
import Derived.Test.YtclkehfnakhljaaDoorZv
namespace Go.Proofs.YtclkehfnakhljaaDoor.T
open Go.RowKit Go.Lib

set_option maxRecDepth 100000 in
set_option maxHeartbeats 8000000 in
theorem back_no (n m : Nt) (ai az bi bz : Option Addr) (ci cz di dz : Nat) (req : Int) (w : World) (h : NtR w ai az n) (h' : NtR w bi bz m) (hG : Gp w) (p1 : lputC n req = 0) (p2 : lputB n req = ⟨#[]⟩) (p3 : lputX n req = 140) : Calls Tryd.prog 3 #[nA n ai az ci cz, nA m bi bz di dz, .int .i64 req] w (OkL w) := by
  unfold nA
  have HB0 : Hid (Below w.heap.size w ((w.alloc (.cells #[.int .i64 n.k, .string n.n, .string n.x, .string n.d, .int .i64 n.c, .int .i64 n.s, .int .i64 n.e, .int .i64 n.t, .bool n.o, .slice ai n.l.length ci, .slice az n.z.length cz] 25)).alloc (.cells #[.int .i64 m.k, .string m.n, .string m.x, .string m.d, .int .i64 m.c, .int .i64 m.s, .int .i64 m.e, .int .i64 m.t, .bool m.o, .slice bi m.l.length di, .slice bz m.z.length dz] 25))) := ((Below.refl _ w).alloc (Nat.le_refl _) _).alloc (by simp) _
  have HX : Hid (((w.alloc (.cells #[.int .i64 n.k, .string n.n, .string n.x, .string n.d, .int .i64 n.c, .int .i64 n.s, .int .i64 n.e, .int .i64 n.t, .bool n.o, .slice ai n.l.length ci, .slice az n.z.length cz] 25)).alloc (.cells #[.int .i64 m.k, .string m.n, .string m.x, .string m.d, .int .i64 m.c, .int .i64 m.s, .int .i64 m.e, .int .i64 m.t, .bool m.o, .slice bi m.l.length di, .slice bz m.z.length dz] 25)).heap[w.heap.size]? = some (.cells #[.int .i64 n.k, .string n.n, .string n.x, .string n.d, .int .i64 n.c, .int .i64 n.s, .int .i64 n.e, .int .i64 n.t, .bool n.o, .slice ai n.l.length ci, .slice az n.z.length cz] 25 (0, 0))) := (Below.heap_alloc (w.alloc (.cells #[.int .i64 n.k, .string n.n, .string n.x, .string n.d, .int .i64 n.c, .int .i64 n.s, .int .i64 n.e, .int .i64 n.t, .bool n.o, .slice ai n.l.length ci, .slice az n.z.length cz] 25)) _ _ (by simp)).trans (box_new w _ _)
  have HY : Hid (((w.alloc (.cells #[.int .i64 n.k, .string n.n, .string n.x, .string n.d, .int .i64 n.c, .int .i64 n.s, .int .i64 n.e, .int .i64 n.t, .bool n.o, .slice ai n.l.length ci, .slice az n.z.length cz] 25)).alloc (.cells #[.int .i64 m.k, .string m.n, .string m.x, .string m.d, .int .i64 m.c, .int .i64 m.s, .int .i64 m.e, .int .i64 m.t, .bool m.o, .slice bi m.l.length di, .slice bz m.z.length dz] 25)).heap[w.heap.size + 1]? = some (.cells #[.int .i64 m.k, .string m.n, .string m.x, .string m.d, .int .i64 m.c, .int .i64 m.s, .int .i64 m.e, .int .i64 m.t, .bool m.o, .slice bi m.l.length di, .slice bz m.z.length dz] 25 (0, 0))) := by
    have := box_new (w.alloc (.cells #[.int .i64 n.k, .string n.n, .string n.x, .string n.d, .int .i64 n.c, .int .i64 n.s, .int .i64 n.e, .int .i64 n.t, .bool n.o, .slice ai n.l.length ci, .slice az n.z.length cz] 25)) #[.int .i64 m.k, .string m.n, .string m.x, .string m.d, .int .i64 m.c, .int .i64 m.s, .int .i64 m.e, .int .i64 m.t, .bool m.o, .slice bi m.l.length di, .slice bz m.z.length dz] 25
    show _ = _
    simpa using this
  have HG := Lib.hid (fun W (hb : Below w.heap.size w W) => hG.below hb)
  have L := Lib.hid (fun W (g : Gp W) => live_any W g)
  have HR := Lib.hid (fun W (hb : Below w.heap.size w W) => h.below hb)
  have HQ := Lib.hid (fun W (hb : Below w.heap.size w W) => h'.below hb)
  have CS : Hid (∀ W, Below w.heap.size w W → Calls Tryd.prog 6 #[.agg #[.int .i64 n.k, .string n.n, .string n.x, .string n.d, .int .i64 n.c, .int .i64 n.s, .int .i64 n.e, .int .i64 n.t, .bool n.o, .slice ai n.l.length ci, .slice az n.z.length cz]] W (SmlP n W)) := fun W hb => small_any n ai az ci cz W (h.below hb)
  have CT : Hid (∀ W, Below w.heap.size w W → Calls Tryd.prog 6 #[.agg #[.int .i64 m.k, .string m.n, .string m.x, .string m.d, .int .i64 m.c, .int .i64 m.s, .int .i64 m.e, .int .i64 m.t, .bool m.o, .slice bi m.l.length di, .slice bz m.z.length dz]] W (SmlP m W)) := fun W hb => small_any m bi bz di dz W (h'.below hb)
  have CP : Hid (∀ W, Gp W → NtL W ai az n → Calls Tryd.prog 8 #[.agg #[.int .i64 n.k, .string n.n, .string n.x, .string n.d, .int .i64 n.c, .int .i64 n.s, .int .i64 n.e, .int .i64 n.t, .bool n.o, .slice ai n.l.length ci, .slice az n.z.length cz], .int .i64 req] W (Gives (.tuple #[.int .i64 0, .string ⟨#[]⟩, .int .i64 140]) W)) := fun W g hl => by
    have k := lput_any n req ai az ci cz W hl g
    rw [p1, p2, p3] at k
    exact k
  clear h h' hG p1 p2 p3
  obtain ⟨m0, m1, m2, m3, m4, m5, m6, m7, m8, m9, m10⟩ := bx11 HX.out
  obtain ⟨k0, k1, k2, k3, k4, k5, k6, k7, k8, k9, k10⟩ := bx11 HY.out
  go_enter Tryd.func3, Tryd.ntmps3
  go_wp2_with fail
  refine (CS.out _ HB0.out).mono ?_
  rintro e w1 ⟨b, rfl, hb, hs⟩
  clear m0 m1 m2 m3 m4 m5 m6 m7 m8 m9 m10
  clear k0 k1 k2 k3 k4 k5 k6 k7 k8 k9 k10
  have HX' := Lib.hid ((hb.block _ (heap_lt HX.out)).trans HX.out)
  clear HX
  have HX := HX'
  clear HX'
  have HY' := Lib.hid ((hb.block _ (heap_lt HY.out)).trans HY.out)
  clear HY
  have HY := HY'
  clear HY'
  have HB1 := Lib.hid (HB0.out.trans (hb.mono HB0.out.size))
  have HS := Lib.hid hs
  clear hb hs
  clear CS
  cases b
  · skip
    clear HS CT HR HQ CP
    obtain ⟨m0, m1, m2, m3, m4, m5, m6, m7, m8, m9, m10⟩ := bx11 HX.out
    obtain ⟨k0, k1, k2, k3, k4, k5, k6, k7, k8, k9, k10⟩ := bx11 HY.out
    go_wp2_with fail
    refine (L.out _ (HG.out _ HB1.out)).mono ?_
    rintro e w2 ⟨rfl, hb⟩
    clear m0 m1 m2 m3 m4 m5 m6 m7 m8 m9 m10
    clear k0 k1 k2 k3 k4 k5 k6 k7 k8 k9 k10
    have HX' := Lib.hid ((hb.block _ (heap_lt HX.out)).trans HX.out)
    clear HX
    have HX := HX'
    clear HX'
    have HY' := Lib.hid ((hb.block _ (heap_lt HY.out)).trans HY.out)
    clear HY
    have HY := HY'
    clear HY'
    have HB2 := Lib.hid (HB1.out.trans (hb.mono HB1.out.size))
    clear hb
    obtain ⟨m0, m1, m2, m3, m4, m5, m6, m7, m8, m9, m10⟩ := bx11 HX.out
    obtain ⟨k0, k1, k2, k3, k4, k5, k6, k7, k8, k9, k10⟩ := bx11 HY.out
    go_wp2_with fail
    go_ret
    exact ⟨rfl, HB2.out⟩
  have HS1 := Lib.hid (HS.out rfl)
  clear HS
  obtain ⟨m0, m1, m2, m3, m4, m5, m6, m7, m8, m9, m10⟩ := bx11 HX.out
  obtain ⟨k0, k1, k2, k3, k4, k5, k6, k7, k8, k9, k10⟩ := bx11 HY.out
  go_wp2_with fail
  refine (CT.out _ HB1.out).mono ?_
  rintro e w2 ⟨b, rfl, hb, hs⟩
  clear m0 m1 m2 m3 m4 m5 m6 m7 m8 m9 m10
  clear k0 k1 k2 k3 k4 k5 k6 k7 k8 k9 k10
  have HX' := Lib.hid ((hb.block _ (heap_lt HX.out)).trans HX.out)
  clear HX
  have HX := HX'
  clear HX'
  have HY' := Lib.hid ((hb.block _ (heap_lt HY.out)).trans HY.out)
  clear HY
  have HY := HY'
  clear HY'
  have HB2 := Lib.hid (HB1.out.trans (hb.mono HB1.out.size))
  have HS := Lib.hid hs
  clear hb hs
  clear CT
  cases b
  · skip
    clear HS HS1 HR HQ CP
    obtain ⟨m0, m1, m2, m3, m4, m5, m6, m7, m8, m9, m10⟩ := bx11 HX.out
    obtain ⟨k0, k1, k2, k3, k4, k5, k6, k7, k8, k9, k10⟩ := bx11 HY.out
    go_wp2_with fail
    refine (L.out _ (HG.out _ HB2.out)).mono ?_
    rintro e w3 ⟨rfl, hb⟩
    clear m0 m1 m2 m3 m4 m5 m6 m7 m8 m9 m10
    clear k0 k1 k2 k3 k4 k5 k6 k7 k8 k9 k10
    have HX' := Lib.hid ((hb.block _ (heap_lt HX.out)).trans HX.out)
    clear HX
    have HX := HX'
    clear HX'
    have HY' := Lib.hid ((hb.block _ (heap_lt HY.out)).trans HY.out)
    clear HY
    have HY := HY'
    clear HY'
    have HB3 := Lib.hid (HB2.out.trans (hb.mono HB2.out.size))
    clear hb
    obtain ⟨m0, m1, m2, m3, m4, m5, m6, m7, m8, m9, m10⟩ := bx11 HX.out
    obtain ⟨k0, k1, k2, k3, k4, k5, k6, k7, k8, k9, k10⟩ := bx11 HY.out
    go_wp2_with fail
    go_ret
    exact ⟨rfl, HB3.out⟩
  have HS2 := Lib.hid (HS.out rfl)
  clear HS
  obtain ⟨m0, m1, m2, m3, m4, m5, m6, m7, m8, m9, m10⟩ := bx11 HX.out
  obtain ⟨k0, k1, k2, k3, k4, k5, k6, k7, k8, k9, k10⟩ := bx11 HY.out
  go_wp2_with fail
  refine (CP.out _ (HG.out _ HB2.out) ((HR.out _ HB2.out).small HS1.out (by decide))).mono ?_
  rintro e w3 ⟨rfl, hb⟩
  clear m0 m1 m2 m3 m4 m5 m6 m7 m8 m9 m10
  clear k0 k1 k2 k3 k4 k5 k6 k7 k8 k9 k10
  have HX' := Lib.hid ((hb.block _ (heap_lt HX.out)).trans HX.out)
  clear HX
  have HX := HX'
  clear HX'
  have HY' := Lib.hid ((hb.block _ (heap_lt HY.out)).trans HY.out)
  clear HY
  have HY := HY'
  clear HY'
  have HB3 := Lib.hid (HB2.out.trans (hb.mono HB2.out.size))
  clear hb
  obtain ⟨m0, m1, m2, m3, m4, m5, m6, m7, m8, m9, m10⟩ := bx11 HX.out
  obtain ⟨k0, k1, k2, k3, k4, k5, k6, k7, k8, k9, k10⟩ := bx11 HY.out
  go_wp2_with fail
  clear CP
  refine (lnum_any _ _).mono ?_
  rintro e wz ⟨rfl, hw⟩
  have hw := hw.symm
  subst hw
  go_wp2_with fail
  refine (L.out _ (HG.out _ HB3.out)).mono ?_
  rintro e w4 ⟨rfl, hb⟩
  clear m0 m1 m2 m3 m4 m5 m6 m7 m8 m9 m10
  clear k0 k1 k2 k3 k4 k5 k6 k7 k8 k9 k10
  have HX' := Lib.hid ((hb.block _ (heap_lt HX.out)).trans HX.out)
  clear HX
  have HX := HX'
  clear HX'
  have HY' := Lib.hid ((hb.block _ (heap_lt HY.out)).trans HY.out)
  clear HY
  have HY := HY'
  clear HY'
  have HB4 := Lib.hid (HB3.out.trans (hb.mono HB3.out.size))
  clear hb
  obtain ⟨m0, m1, m2, m3, m4, m5, m6, m7, m8, m9, m10⟩ := bx11 HX.out
  obtain ⟨k0, k1, k2, k3, k4, k5, k6, k7, k8, k9, k10⟩ := bx11 HY.out
  go_wp2_with fail
  go_ret
  exact ⟨rfl, HB4.out⟩
set_option maxRecDepth 100000 in
set_option maxHeartbeats 8000000 in
theorem back_mno (n m : Nt) (ai az bi bz : Option Addr) (ci cz di dz : Nat) (req : Int) (w : World) (h : NtR w ai az n) (h' : NtR w bi bz m) (hG : Gp w) (C : Int) (A : ByteArray) (p1 : lputC n req = C) (p2 : lputB n req = A) (p3 : lputX n req = 0) (s1 : lprs C A = n) (s2 : lprsE C A = 0) (s3 : A.size ≤ 1000000) (r1 : lputC m req = 0) (r2 : lputB m req = ⟨#[]⟩) (r3 : lputX m req = 140) : Calls Tryd.prog 3 #[nA n ai az ci cz, nA m bi bz di dz, .int .i64 req] w (OkL w) := by
  unfold nA
  have HB0 : Hid (Below w.heap.size w ((w.alloc (.cells #[.int .i64 n.k, .string n.n, .string n.x, .string n.d, .int .i64 n.c, .int .i64 n.s, .int .i64 n.e, .int .i64 n.t, .bool n.o, .slice ai n.l.length ci, .slice az n.z.length cz] 25)).alloc (.cells #[.int .i64 m.k, .string m.n, .string m.x, .string m.d, .int .i64 m.c, .int .i64 m.s, .int .i64 m.e, .int .i64 m.t, .bool m.o, .slice bi m.l.length di, .slice bz m.z.length dz] 25))) := ((Below.refl _ w).alloc (Nat.le_refl _) _).alloc (by simp) _
  have HX : Hid (((w.alloc (.cells #[.int .i64 n.k, .string n.n, .string n.x, .string n.d, .int .i64 n.c, .int .i64 n.s, .int .i64 n.e, .int .i64 n.t, .bool n.o, .slice ai n.l.length ci, .slice az n.z.length cz] 25)).alloc (.cells #[.int .i64 m.k, .string m.n, .string m.x, .string m.d, .int .i64 m.c, .int .i64 m.s, .int .i64 m.e, .int .i64 m.t, .bool m.o, .slice bi m.l.length di, .slice bz m.z.length dz] 25)).heap[w.heap.size]? = some (.cells #[.int .i64 n.k, .string n.n, .string n.x, .string n.d, .int .i64 n.c, .int .i64 n.s, .int .i64 n.e, .int .i64 n.t, .bool n.o, .slice ai n.l.length ci, .slice az n.z.length cz] 25 (0, 0))) := (Below.heap_alloc (w.alloc (.cells #[.int .i64 n.k, .string n.n, .string n.x, .string n.d, .int .i64 n.c, .int .i64 n.s, .int .i64 n.e, .int .i64 n.t, .bool n.o, .slice ai n.l.length ci, .slice az n.z.length cz] 25)) _ _ (by simp)).trans (box_new w _ _)
  have HY : Hid (((w.alloc (.cells #[.int .i64 n.k, .string n.n, .string n.x, .string n.d, .int .i64 n.c, .int .i64 n.s, .int .i64 n.e, .int .i64 n.t, .bool n.o, .slice ai n.l.length ci, .slice az n.z.length cz] 25)).alloc (.cells #[.int .i64 m.k, .string m.n, .string m.x, .string m.d, .int .i64 m.c, .int .i64 m.s, .int .i64 m.e, .int .i64 m.t, .bool m.o, .slice bi m.l.length di, .slice bz m.z.length dz] 25)).heap[w.heap.size + 1]? = some (.cells #[.int .i64 m.k, .string m.n, .string m.x, .string m.d, .int .i64 m.c, .int .i64 m.s, .int .i64 m.e, .int .i64 m.t, .bool m.o, .slice bi m.l.length di, .slice bz m.z.length dz] 25 (0, 0))) := by
    have := box_new (w.alloc (.cells #[.int .i64 n.k, .string n.n, .string n.x, .string n.d, .int .i64 n.c, .int .i64 n.s, .int .i64 n.e, .int .i64 n.t, .bool n.o, .slice ai n.l.length ci, .slice az n.z.length cz] 25)) #[.int .i64 m.k, .string m.n, .string m.x, .string m.d, .int .i64 m.c, .int .i64 m.s, .int .i64 m.e, .int .i64 m.t, .bool m.o, .slice bi m.l.length di, .slice bz m.z.length dz] 25
    show _ = _
    simpa using this
  have HG := Lib.hid (fun W (hb : Below w.heap.size w W) => hG.below hb)
  have L := Lib.hid (fun W (g : Gp W) => live_any W g)
  have HR := Lib.hid (fun W (hb : Below w.heap.size w W) => h.below hb)
  have HQ := Lib.hid (fun W (hb : Below w.heap.size w W) => h'.below hb)
  have CS : Hid (∀ W, Below w.heap.size w W → Calls Tryd.prog 6 #[.agg #[.int .i64 n.k, .string n.n, .string n.x, .string n.d, .int .i64 n.c, .int .i64 n.s, .int .i64 n.e, .int .i64 n.t, .bool n.o, .slice ai n.l.length ci, .slice az n.z.length cz]] W (SmlP n W)) := fun W hb => small_any n ai az ci cz W (h.below hb)
  have CT : Hid (∀ W, Below w.heap.size w W → Calls Tryd.prog 6 #[.agg #[.int .i64 m.k, .string m.n, .string m.x, .string m.d, .int .i64 m.c, .int .i64 m.s, .int .i64 m.e, .int .i64 m.t, .bool m.o, .slice bi m.l.length di, .slice bz m.z.length dz]] W (SmlP m W)) := fun W hb => small_any m bi bz di dz W (h'.below hb)
  have CP : Hid (∀ W, Gp W → NtL W ai az n → Calls Tryd.prog 8 #[.agg #[.int .i64 n.k, .string n.n, .string n.x, .string n.d, .int .i64 n.c, .int .i64 n.s, .int .i64 n.e, .int .i64 n.t, .bool n.o, .slice ai n.l.length ci, .slice az n.z.length cz], .int .i64 req] W (Gives (.tuple #[.int .i64 C, .string A, .int .i64 0]) W)) := fun W g hl => by
    have k := lput_any n req ai az ci cz W hl g
    rw [p1, p2, p3] at k
    exact k
  have CA : Hid (∀ W, Gp W → Calls Tryd.prog 10 #[.int .i64 C, .string A] W (LpP n 0 W)) := fun W g => by
    have k := lparse_any C A W g s3
    rw [s1, s2] at k
    exact k
  have CE : Hid (∀ W pi pz ei ez, NtL W pi pz n → NtL W ai az n → Calls Tryd.prog 11 #[.agg #[.int .i64 n.k, .string n.n, .string n.x, .string n.d, .int .i64 n.c, .int .i64 n.s, .int .i64 n.e, .int .i64 n.t, .bool n.o, .slice pi n.l.length ei, .slice pz n.z.length ez], .agg #[.int .i64 n.k, .string n.n, .string n.x, .string n.d, .int .i64 n.c, .int .i64 n.s, .int .i64 n.e, .int .i64 n.t, .bool n.o, .slice ai n.l.length ci, .slice az n.z.length cz]] W (Gives (.bool true) W)) := fun W pi pz ei ez a b => by
    have k := rsame_any n n pi pz ai az ei ez ci cz W a b
    rw [eqv_yes rfl] at k
    exact k
  have CQ : Hid (∀ W, Gp W → NtL W bi bz m → Calls Tryd.prog 8 #[.agg #[.int .i64 m.k, .string m.n, .string m.x, .string m.d, .int .i64 m.c, .int .i64 m.s, .int .i64 m.e, .int .i64 m.t, .bool m.o, .slice bi m.l.length di, .slice bz m.z.length dz], .int .i64 req] W (Gives (.tuple #[.int .i64 0, .string ⟨#[]⟩, .int .i64 140]) W)) := fun W g hl => by
    have k := lput_any m req bi bz di dz W hl g
    rw [r1, r2, r3] at k
    exact k
  clear h h' hG p1 p2 p3 s1 s2 s3 r1 r2 r3
  obtain ⟨m0, m1, m2, m3, m4, m5, m6, m7, m8, m9, m10⟩ := bx11 HX.out
  obtain ⟨k0, k1, k2, k3, k4, k5, k6, k7, k8, k9, k10⟩ := bx11 HY.out
  go_enter Tryd.func3, Tryd.ntmps3
  go_wp2_with fail
  refine (CS.out _ HB0.out).mono ?_
  rintro e w1 ⟨b, rfl, hb, hs⟩
  clear m0 m1 m2 m3 m4 m5 m6 m7 m8 m9 m10
  clear k0 k1 k2 k3 k4 k5 k6 k7 k8 k9 k10
  have HX' := Lib.hid ((hb.block _ (heap_lt HX.out)).trans HX.out)
  clear HX
  have HX := HX'
  clear HX'
  have HY' := Lib.hid ((hb.block _ (heap_lt HY.out)).trans HY.out)
  clear HY
  have HY := HY'
  clear HY'
  have HB1 := Lib.hid (HB0.out.trans (hb.mono HB0.out.size))
  have HS := Lib.hid hs
  clear hb hs
  clear CS
  cases b
  · skip
    clear HS CT HR HQ CP CA CE CQ
    obtain ⟨m0, m1, m2, m3, m4, m5, m6, m7, m8, m9, m10⟩ := bx11 HX.out
    obtain ⟨k0, k1, k2, k3, k4, k5, k6, k7, k8, k9, k10⟩ := bx11 HY.out
    go_wp2_with fail
    refine (L.out _ (HG.out _ HB1.out)).mono ?_
    rintro e w2 ⟨rfl, hb⟩
    clear m0 m1 m2 m3 m4 m5 m6 m7 m8 m9 m10
    clear k0 k1 k2 k3 k4 k5 k6 k7 k8 k9 k10
    have HX' := Lib.hid ((hb.block _ (heap_lt HX.out)).trans HX.out)
    clear HX
    have HX := HX'
    clear HX'
    have HY' := Lib.hid ((hb.block _ (heap_lt HY.out)).trans HY.out)
    clear HY
    have HY := HY'
    clear HY'
    have HB2 := Lib.hid (HB1.out.trans (hb.mono HB1.out.size))
    clear hb
    obtain ⟨m0, m1, m2, m3, m4, m5, m6, m7, m8, m9, m10⟩ := bx11 HX.out
    obtain ⟨k0, k1, k2, k3, k4, k5, k6, k7, k8, k9, k10⟩ := bx11 HY.out
    go_wp2_with fail
    go_ret
    exact ⟨rfl, HB2.out⟩
  have HS1 := Lib.hid (HS.out rfl)
  clear HS
  obtain ⟨m0, m1, m2, m3, m4, m5, m6, m7, m8, m9, m10⟩ := bx11 HX.out
  obtain ⟨k0, k1, k2, k3, k4, k5, k6, k7, k8, k9, k10⟩ := bx11 HY.out
  go_wp2_with fail
  refine (CT.out _ HB1.out).mono ?_
  rintro e w2 ⟨b, rfl, hb, hs⟩
  clear m0 m1 m2 m3 m4 m5 m6 m7 m8 m9 m10
  clear k0 k1 k2 k3 k4 k5 k6 k7 k8 k9 k10
  have HX' := Lib.hid ((hb.block _ (heap_lt HX.out)).trans HX.out)
  clear HX
  have HX := HX'
  clear HX'
  have HY' := Lib.hid ((hb.block _ (heap_lt HY.out)).trans HY.out)
  clear HY
  have HY := HY'
  clear HY'
  have HB2 := Lib.hid (HB1.out.trans (hb.mono HB1.out.size))
  have HS := Lib.hid hs
  clear hb hs
  clear CT
  cases b
  · skip
    clear HS HS1 HR HQ CP CA CE CQ
    obtain ⟨m0, m1, m2, m3, m4, m5, m6, m7, m8, m9, m10⟩ := bx11 HX.out
    obtain ⟨k0, k1, k2, k3, k4, k5, k6, k7, k8, k9, k10⟩ := bx11 HY.out
    go_wp2_with fail
    refine (L.out _ (HG.out _ HB2.out)).mono ?_
    rintro e w3 ⟨rfl, hb⟩
    clear m0 m1 m2 m3 m4 m5 m6 m7 m8 m9 m10
    clear k0 k1 k2 k3 k4 k5 k6 k7 k8 k9 k10
    have HX' := Lib.hid ((hb.block _ (heap_lt HX.out)).trans HX.out)
    clear HX
    have HX := HX'
    clear HX'
    have HY' := Lib.hid ((hb.block _ (heap_lt HY.out)).trans HY.out)
    clear HY
    have HY := HY'
    clear HY'
    have HB3 := Lib.hid (HB2.out.trans (hb.mono HB2.out.size))
    clear hb
    obtain ⟨m0, m1, m2, m3, m4, m5, m6, m7, m8, m9, m10⟩ := bx11 HX.out
    obtain ⟨k0, k1, k2, k3, k4, k5, k6, k7, k8, k9, k10⟩ := bx11 HY.out
    go_wp2_with fail
    go_ret
    exact ⟨rfl, HB3.out⟩
  have HS2 := Lib.hid (HS.out rfl)
  clear HS
  obtain ⟨m0, m1, m2, m3, m4, m5, m6, m7, m8, m9, m10⟩ := bx11 HX.out
  obtain ⟨k0, k1, k2, k3, k4, k5, k6, k7, k8, k9, k10⟩ := bx11 HY.out
  go_wp2_with fail
  refine (CP.out _ (HG.out _ HB2.out) ((HR.out _ HB2.out).small HS1.out (by decide))).mono ?_
  rintro e w3 ⟨rfl, hb⟩
  clear m0 m1 m2 m3 m4 m5 m6 m7 m8 m9 m10
  clear k0 k1 k2 k3 k4 k5 k6 k7 k8 k9 k10
  have HX' := Lib.hid ((hb.block _ (heap_lt HX.out)).trans HX.out)
  clear HX
  have HX := HX'
  clear HX'
  have HY' := Lib.hid ((hb.block _ (heap_lt HY.out)).trans HY.out)
  clear HY
  have HY := HY'
  clear HY'
  have HB3 := Lib.hid (HB2.out.trans (hb.mono HB2.out.size))
  clear hb
  obtain ⟨m0, m1, m2, m3, m4, m5, m6, m7, m8, m9, m10⟩ := bx11 HX.out
  obtain ⟨k0, k1, k2, k3, k4, k5, k6, k7, k8, k9, k10⟩ := bx11 HY.out
  go_wp2_with fail
  clear CP
  refine (lnum_any _ _).mono ?_
  rintro e wz ⟨rfl, hw⟩
  have hw := hw.symm
  subst hw
  go_wp2_with fail
  refine (CA.out _ (HG.out _ HB3.out)).mono ?_
  rintro e w4 ⟨pi, pz, ei, ez, rfl, hb, hI, hZ, -, -⟩
  clear m0 m1 m2 m3 m4 m5 m6 m7 m8 m9 m10
  clear k0 k1 k2 k3 k4 k5 k6 k7 k8 k9 k10
  have HX' := Lib.hid ((hb.block _ (heap_lt HX.out)).trans HX.out)
  clear HX
  have HX := HX'
  clear HX'
  have HY' := Lib.hid ((hb.block _ (heap_lt HY.out)).trans HY.out)
  clear HY
  have HY := HY'
  clear HY'
  have HB4 := Lib.hid (HB3.out.trans (hb.mono HB3.out.size))
  have HI0 : Hid (ItS w4 pi n.l ∧ CdS w4 pz n.z) := ⟨hI, hZ⟩
  clear hb hI hZ
  clear CA
  unfold nA
  have HP := Lib.hid (box_new w4 #[.int .i64 n.k, .string n.n, .string n.x, .string n.d, .int .i64 n.c, .int .i64 n.s, .int .i64 n.e, .int .i64 n.t, .bool n.o, .slice pi n.l.length ei, .slice pz n.z.length ez] 25)
  have HX' := Lib.hid ((Below.heap_alloc w4 (.cells #[.int .i64 n.k, .string n.n, .string n.x, .string n.d, .int .i64 n.c, .int .i64 n.s, .int .i64 n.e, .int .i64 n.t, .bool n.o, .slice pi n.l.length ei, .slice pz n.z.length ez] 25) _ (heap_lt HX.out)).trans HX.out)
  clear HX
  have HX := HX'
  clear HX'
  have HY' := Lib.hid ((Below.heap_alloc w4 (.cells #[.int .i64 n.k, .string n.n, .string n.x, .string n.d, .int .i64 n.c, .int .i64 n.s, .int .i64 n.e, .int .i64 n.t, .bool n.o, .slice pi n.l.length ei, .slice pz n.z.length ez] 25) _ (heap_lt HY.out)).trans HY.out)
  clear HY
  have HY := HY'
  clear HY'
  have HB4a := Lib.hid (HB4.out.alloc HB4.out.size (.cells #[.int .i64 n.k, .string n.n, .string n.x, .string n.d, .int .i64 n.c, .int .i64 n.s, .int .i64 n.e, .int .i64 n.t, .bool n.o, .slice pi n.l.length ei, .slice pz n.z.length ez] 25))
  have HPP : Hid (ItS (w4.alloc (.cells #[.int .i64 n.k, .string n.n, .string n.x, .string n.d, .int .i64 n.c, .int .i64 n.s, .int .i64 n.e, .int .i64 n.t, .bool n.o, .slice pi n.l.length ei, .slice pz n.z.length ez] 25)) pi n.l ∧ CdS (w4.alloc (.cells #[.int .i64 n.k, .string n.n, .string n.x, .string n.d, .int .i64 n.c, .int .i64 n.s, .int .i64 n.e, .int .i64 n.t, .bool n.o, .slice pi n.l.length ei, .slice pz n.z.length ez] 25)) pz n.z) := ⟨HI0.out.1.below ((Below.refl _ _).alloc (Nat.le_refl _) _), HI0.out.2.below ((Below.refl _ _).alloc (Nat.le_refl _) _)⟩
  clear HI0
  obtain ⟨m0, m1, m2, m3, m4, m5, m6, m7, m8, m9, m10⟩ := bx11 HX.out
  obtain ⟨k0, k1, k2, k3, k4, k5, k6, k7, k8, k9, k10⟩ := bx11 HY.out
  obtain ⟨u0, u1, u2, u3, u4, u5, u6, u7, u8, u9, u10⟩ := bx11 HP.out
  go_wp2_with fail
  refine (lnum_any _ _).mono ?_
  rintro e wz ⟨rfl, hw⟩
  have hw := hw.symm
  subst hw
  go_wp2_with fail
  refine (CE.out _ pi pz ei ez (nt_load (HS1.out.mono (by decide)) HPP.out.1 HPP.out.2) ((HR.out _ HB4a.out).small HS1.out (by decide))).mono ?_
  rintro e w5 ⟨rfl, hb⟩
  clear m0 m1 m2 m3 m4 m5 m6 m7 m8 m9 m10
  clear u0 u1 u2 u3 u4 u5 u6 u7 u8 u9 u10
  clear k0 k1 k2 k3 k4 k5 k6 k7 k8 k9 k10
  have HX' := Lib.hid ((hb.block _ (heap_lt HX.out)).trans HX.out)
  clear HX
  have HX := HX'
  clear HX'
  have HY' := Lib.hid ((hb.block _ (heap_lt HY.out)).trans HY.out)
  clear HY
  have HY := HY'
  clear HY'
  have HB5 := Lib.hid (HB4a.out.trans (hb.mono HB4a.out.size))
  clear hb
  obtain ⟨m0, m1, m2, m3, m4, m5, m6, m7, m8, m9, m10⟩ := bx11 HX.out
  obtain ⟨k0, k1, k2, k3, k4, k5, k6, k7, k8, k9, k10⟩ := bx11 HY.out
  go_wp2_with fail
  clear CE HPP
  refine (CQ.out _ (HG.out _ HB5.out) ((HQ.out _ HB5.out).small HS2.out (by decide))).mono ?_
  rintro e w6 ⟨rfl, hb⟩
  clear m0 m1 m2 m3 m4 m5 m6 m7 m8 m9 m10
  clear k0 k1 k2 k3 k4 k5 k6 k7 k8 k9 k10
  have HX' := Lib.hid ((hb.block _ (heap_lt HX.out)).trans HX.out)
  clear HX
  have HX := HX'
  clear HX'
  have HY' := Lib.hid ((hb.block _ (heap_lt HY.out)).trans HY.out)
  clear HY
  have HY := HY'
  clear HY'
  have HB6 := Lib.hid (HB5.out.trans (hb.mono HB5.out.size))
  clear hb
  obtain ⟨m0, m1, m2, m3, m4, m5, m6, m7, m8, m9, m10⟩ := bx11 HX.out
  obtain ⟨k0, k1, k2, k3, k4, k5, k6, k7, k8, k9, k10⟩ := bx11 HY.out
  go_wp2_with fail
  clear CQ
  refine (lnum_any _ _).mono ?_
  rintro e wz ⟨rfl, hw⟩
  have hw := hw.symm
  subst hw
  go_wp2_with fail
  refine (L.out _ (HG.out _ HB6.out)).mono ?_
  rintro e w7 ⟨rfl, hb⟩
  clear m0 m1 m2 m3 m4 m5 m6 m7 m8 m9 m10
  clear k0 k1 k2 k3 k4 k5 k6 k7 k8 k9 k10
  have HX' := Lib.hid ((hb.block _ (heap_lt HX.out)).trans HX.out)
  clear HX
  have HX := HX'
  clear HX'
  have HY' := Lib.hid ((hb.block _ (heap_lt HY.out)).trans HY.out)
  clear HY
  have HY := HY'
  clear HY'
  have HB7 := Lib.hid (HB6.out.trans (hb.mono HB6.out.size))
  clear hb
  obtain ⟨m0, m1, m2, m3, m4, m5, m6, m7, m8, m9, m10⟩ := bx11 HX.out
  obtain ⟨k0, k1, k2, k3, k4, k5, k6, k7, k8, k9, k10⟩ := bx11 HY.out
  go_wp2_with fail
  go_ret
  exact ⟨rfl, HB7.out⟩
set_option maxRecDepth 100000 in
set_option maxHeartbeats 8000000 in
theorem back_same (n : Nt) (ai az bi bz : Option Addr) (ci cz di dz : Nat) (req : Int) (w : World) (h : NtR w ai az n) (h' : NtR w bi bz n) (hG : Gp w) (C : Int) (A : ByteArray) (p1 : lputC n req = C) (p2 : lputB n req = A) (p3 : lputX n req = 0) (s1 : lprs C A = n) (s2 : lprsE C A = 0) (s3 : A.size ≤ 1000000) : Calls Tryd.prog 3 #[nA n ai az ci cz, nA n bi bz di dz, .int .i64 req] w (OkL w) := by
  unfold nA
  have HB0 : Hid (Below w.heap.size w ((w.alloc (.cells #[.int .i64 n.k, .string n.n, .string n.x, .string n.d, .int .i64 n.c, .int .i64 n.s, .int .i64 n.e, .int .i64 n.t, .bool n.o, .slice ai n.l.length ci, .slice az n.z.length cz] 25)).alloc (.cells #[.int .i64 n.k, .string n.n, .string n.x, .string n.d, .int .i64 n.c, .int .i64 n.s, .int .i64 n.e, .int .i64 n.t, .bool n.o, .slice bi n.l.length di, .slice bz n.z.length dz] 25))) := ((Below.refl _ w).alloc (Nat.le_refl _) _).alloc (by simp) _
  have HX : Hid (((w.alloc (.cells #[.int .i64 n.k, .string n.n, .string n.x, .string n.d, .int .i64 n.c, .int .i64 n.s, .int .i64 n.e, .int .i64 n.t, .bool n.o, .slice ai n.l.length ci, .slice az n.z.length cz] 25)).alloc (.cells #[.int .i64 n.k, .string n.n, .string n.x, .string n.d, .int .i64 n.c, .int .i64 n.s, .int .i64 n.e, .int .i64 n.t, .bool n.o, .slice bi n.l.length di, .slice bz n.z.length dz] 25)).heap[w.heap.size]? = some (.cells #[.int .i64 n.k, .string n.n, .string n.x, .string n.d, .int .i64 n.c, .int .i64 n.s, .int .i64 n.e, .int .i64 n.t, .bool n.o, .slice ai n.l.length ci, .slice az n.z.length cz] 25 (0, 0))) := (Below.heap_alloc (w.alloc (.cells #[.int .i64 n.k, .string n.n, .string n.x, .string n.d, .int .i64 n.c, .int .i64 n.s, .int .i64 n.e, .int .i64 n.t, .bool n.o, .slice ai n.l.length ci, .slice az n.z.length cz] 25)) _ _ (by simp)).trans (box_new w _ _)
  have HY : Hid (((w.alloc (.cells #[.int .i64 n.k, .string n.n, .string n.x, .string n.d, .int .i64 n.c, .int .i64 n.s, .int .i64 n.e, .int .i64 n.t, .bool n.o, .slice ai n.l.length ci, .slice az n.z.length cz] 25)).alloc (.cells #[.int .i64 n.k, .string n.n, .string n.x, .string n.d, .int .i64 n.c, .int .i64 n.s, .int .i64 n.e, .int .i64 n.t, .bool n.o, .slice bi n.l.length di, .slice bz n.z.length dz] 25)).heap[w.heap.size + 1]? = some (.cells #[.int .i64 n.k, .string n.n, .string n.x, .string n.d, .int .i64 n.c, .int .i64 n.s, .int .i64 n.e, .int .i64 n.t, .bool n.o, .slice bi n.l.length di, .slice bz n.z.length dz] 25 (0, 0))) := by
    have := box_new (w.alloc (.cells #[.int .i64 n.k, .string n.n, .string n.x, .string n.d, .int .i64 n.c, .int .i64 n.s, .int .i64 n.e, .int .i64 n.t, .bool n.o, .slice ai n.l.length ci, .slice az n.z.length cz] 25)) #[.int .i64 n.k, .string n.n, .string n.x, .string n.d, .int .i64 n.c, .int .i64 n.s, .int .i64 n.e, .int .i64 n.t, .bool n.o, .slice bi n.l.length di, .slice bz n.z.length dz] 25
    show _ = _
    simpa using this
  have HG := Lib.hid (fun W (hb : Below w.heap.size w W) => hG.below hb)
  have L := Lib.hid (fun W (g : Gp W) => live_any W g)
  have HR := Lib.hid (fun W (hb : Below w.heap.size w W) => h.below hb)
  have HQ := Lib.hid (fun W (hb : Below w.heap.size w W) => h'.below hb)
  have CS : Hid (∀ W, Below w.heap.size w W → Calls Tryd.prog 6 #[.agg #[.int .i64 n.k, .string n.n, .string n.x, .string n.d, .int .i64 n.c, .int .i64 n.s, .int .i64 n.e, .int .i64 n.t, .bool n.o, .slice ai n.l.length ci, .slice az n.z.length cz]] W (SmlP n W)) := fun W hb => small_any n ai az ci cz W (h.below hb)
  have CT : Hid (∀ W, Below w.heap.size w W → Calls Tryd.prog 6 #[.agg #[.int .i64 n.k, .string n.n, .string n.x, .string n.d, .int .i64 n.c, .int .i64 n.s, .int .i64 n.e, .int .i64 n.t, .bool n.o, .slice bi n.l.length di, .slice bz n.z.length dz]] W (SmlP n W)) := fun W hb => small_any n bi bz di dz W (h'.below hb)
  have CP : Hid (∀ W, Gp W → NtL W ai az n → Calls Tryd.prog 8 #[.agg #[.int .i64 n.k, .string n.n, .string n.x, .string n.d, .int .i64 n.c, .int .i64 n.s, .int .i64 n.e, .int .i64 n.t, .bool n.o, .slice ai n.l.length ci, .slice az n.z.length cz], .int .i64 req] W (Gives (.tuple #[.int .i64 C, .string A, .int .i64 0]) W)) := fun W g hl => by
    have k := lput_any n req ai az ci cz W hl g
    rw [p1, p2, p3] at k
    exact k
  have CA : Hid (∀ W, Gp W → Calls Tryd.prog 10 #[.int .i64 C, .string A] W (LpP n 0 W)) := fun W g => by
    have k := lparse_any C A W g s3
    rw [s1, s2] at k
    exact k
  have CE : Hid (∀ W pi pz ei ez, NtL W pi pz n → NtL W ai az n → Calls Tryd.prog 11 #[.agg #[.int .i64 n.k, .string n.n, .string n.x, .string n.d, .int .i64 n.c, .int .i64 n.s, .int .i64 n.e, .int .i64 n.t, .bool n.o, .slice pi n.l.length ei, .slice pz n.z.length ez], .agg #[.int .i64 n.k, .string n.n, .string n.x, .string n.d, .int .i64 n.c, .int .i64 n.s, .int .i64 n.e, .int .i64 n.t, .bool n.o, .slice ai n.l.length ci, .slice az n.z.length cz]] W (Gives (.bool true) W)) := fun W pi pz ei ez a b => by
    have k := rsame_any n n pi pz ai az ei ez ci cz W a b
    rw [eqv_yes rfl] at k
    exact k
  have CQ : Hid (∀ W, Gp W → NtL W bi bz n → Calls Tryd.prog 8 #[.agg #[.int .i64 n.k, .string n.n, .string n.x, .string n.d, .int .i64 n.c, .int .i64 n.s, .int .i64 n.e, .int .i64 n.t, .bool n.o, .slice bi n.l.length di, .slice bz n.z.length dz], .int .i64 req] W (Gives (.tuple #[.int .i64 C, .string A, .int .i64 0]) W)) := fun W g hl => by
    have k := lput_any n req bi bz di dz W hl g
    rw [p1, p2, p3] at k
    exact k
  have CF : Hid (∀ W, NtL W ai az n → NtL W bi bz n → Calls Tryd.prog 11 #[.agg #[.int .i64 n.k, .string n.n, .string n.x, .string n.d, .int .i64 n.c, .int .i64 n.s, .int .i64 n.e, .int .i64 n.t, .bool n.o, .slice ai n.l.length ci, .slice az n.z.length cz], .agg #[.int .i64 n.k, .string n.n, .string n.x, .string n.d, .int .i64 n.c, .int .i64 n.s, .int .i64 n.e, .int .i64 n.t, .bool n.o, .slice bi n.l.length di, .slice bz n.z.length dz]] W (Gives (.bool true) W)) := fun W a b => by
    have k := rsame_any n n ai az bi bz ci cz di dz W a b
    rw [eqv_yes rfl] at k
    exact k
  clear h h' hG p1 p2 p3 s1 s2 s3
  obtain ⟨m0, m1, m2, m3, m4, m5, m6, m7, m8, m9, m10⟩ := bx11 HX.out
  obtain ⟨k0, k1, k2, k3, k4, k5, k6, k7, k8, k9, k10⟩ := bx11 HY.out
  go_enter Tryd.func3, Tryd.ntmps3
  go_wp2_with fail
  refine (CS.out _ HB0.out).mono ?_
  rintro e w1 ⟨b, rfl, hb, hs⟩
  clear m0 m1 m2 m3 m4 m5 m6 m7 m8 m9 m10
  clear k0 k1 k2 k3 k4 k5 k6 k7 k8 k9 k10
  have HX' := Lib.hid ((hb.block _ (heap_lt HX.out)).trans HX.out)
  clear HX
  have HX := HX'
  clear HX'
  have HY' := Lib.hid ((hb.block _ (heap_lt HY.out)).trans HY.out)
  clear HY
  have HY := HY'
  clear HY'
  have HB1 := Lib.hid (HB0.out.trans (hb.mono HB0.out.size))
  have HS := Lib.hid hs
  clear hb hs
  clear CS
  cases b
  · skip
    clear HS CT HR HQ CP CA CE CQ CF
    obtain ⟨m0, m1, m2, m3, m4, m5, m6, m7, m8, m9, m10⟩ := bx11 HX.out
    obtain ⟨k0, k1, k2, k3, k4, k5, k6, k7, k8, k9, k10⟩ := bx11 HY.out
    go_wp2_with fail
    refine (L.out _ (HG.out _ HB1.out)).mono ?_
    rintro e w2 ⟨rfl, hb⟩
    clear m0 m1 m2 m3 m4 m5 m6 m7 m8 m9 m10
    clear k0 k1 k2 k3 k4 k5 k6 k7 k8 k9 k10
    have HX' := Lib.hid ((hb.block _ (heap_lt HX.out)).trans HX.out)
    clear HX
    have HX := HX'
    clear HX'
    have HY' := Lib.hid ((hb.block _ (heap_lt HY.out)).trans HY.out)
    clear HY
    have HY := HY'
    clear HY'
    have HB2 := Lib.hid (HB1.out.trans (hb.mono HB1.out.size))
    clear hb
    obtain ⟨m0, m1, m2, m3, m4, m5, m6, m7, m8, m9, m10⟩ := bx11 HX.out
    obtain ⟨k0, k1, k2, k3, k4, k5, k6, k7, k8, k9, k10⟩ := bx11 HY.out
    go_wp2_with fail
    go_ret
    exact ⟨rfl, HB2.out⟩
  have HS1 := Lib.hid (HS.out rfl)
  clear HS
  obtain ⟨m0, m1, m2, m3, m4, m5, m6, m7, m8, m9, m10⟩ := bx11 HX.out
  obtain ⟨k0, k1, k2, k3, k4, k5, k6, k7, k8, k9, k10⟩ := bx11 HY.out
  go_wp2_with fail
  refine (CT.out _ HB1.out).mono ?_
  rintro e w2 ⟨b, rfl, hb, hs⟩
  clear m0 m1 m2 m3 m4 m5 m6 m7 m8 m9 m10
  clear k0 k1 k2 k3 k4 k5 k6 k7 k8 k9 k10
  have HX' := Lib.hid ((hb.block _ (heap_lt HX.out)).trans HX.out)
  clear HX
  have HX := HX'
  clear HX'
  have HY' := Lib.hid ((hb.block _ (heap_lt HY.out)).trans HY.out)
  clear HY
  have HY := HY'
  clear HY'
  have HB2 := Lib.hid (HB1.out.trans (hb.mono HB1.out.size))
  have HS := Lib.hid hs
  clear hb hs
  clear CT
  cases b
  · skip
    clear HS HS1 HR HQ CP CA CE CQ CF
    obtain ⟨m0, m1, m2, m3, m4, m5, m6, m7, m8, m9, m10⟩ := bx11 HX.out
    obtain ⟨k0, k1, k2, k3, k4, k5, k6, k7, k8, k9, k10⟩ := bx11 HY.out
    go_wp2_with fail
    refine (L.out _ (HG.out _ HB2.out)).mono ?_
    rintro e w3 ⟨rfl, hb⟩
    clear m0 m1 m2 m3 m4 m5 m6 m7 m8 m9 m10
    clear k0 k1 k2 k3 k4 k5 k6 k7 k8 k9 k10
    have HX' := Lib.hid ((hb.block _ (heap_lt HX.out)).trans HX.out)
    clear HX
    have HX := HX'
    clear HX'
    have HY' := Lib.hid ((hb.block _ (heap_lt HY.out)).trans HY.out)
    clear HY
    have HY := HY'
    clear HY'
    have HB3 := Lib.hid (HB2.out.trans (hb.mono HB2.out.size))
    clear hb
    obtain ⟨m0, m1, m2, m3, m4, m5, m6, m7, m8, m9, m10⟩ := bx11 HX.out
    obtain ⟨k0, k1, k2, k3, k4, k5, k6, k7, k8, k9, k10⟩ := bx11 HY.out
    go_wp2_with fail
    go_ret
    exact ⟨rfl, HB3.out⟩
  have HS2 := Lib.hid (HS.out rfl)
  clear HS
  obtain ⟨m0, m1, m2, m3, m4, m5, m6, m7, m8, m9, m10⟩ := bx11 HX.out
  obtain ⟨k0, k1, k2, k3, k4, k5, k6, k7, k8, k9, k10⟩ := bx11 HY.out
  go_wp2_with fail
  refine (CP.out _ (HG.out _ HB2.out) ((HR.out _ HB2.out).small HS1.out (by decide))).mono ?_
  rintro e w3 ⟨rfl, hb⟩
  clear m0 m1 m2 m3 m4 m5 m6 m7 m8 m9 m10
  clear k0 k1 k2 k3 k4 k5 k6 k7 k8 k9 k10
  have HX' := Lib.hid ((hb.block _ (heap_lt HX.out)).trans HX.out)
  clear HX
  have HX := HX'
  clear HX'
  have HY' := Lib.hid ((hb.block _ (heap_lt HY.out)).trans HY.out)
  clear HY
  have HY := HY'
  clear HY'
  have HB3 := Lib.hid (HB2.out.trans (hb.mono HB2.out.size))
  clear hb
  obtain ⟨m0, m1, m2, m3, m4, m5, m6, m7, m8, m9, m10⟩ := bx11 HX.out
  obtain ⟨k0, k1, k2, k3, k4, k5, k6, k7, k8, k9, k10⟩ := bx11 HY.out
  go_wp2_with fail
  clear CP
  refine (lnum_any _ _).mono ?_
  rintro e wz ⟨rfl, hw⟩
  have hw := hw.symm
  subst hw
  go_wp2_with fail
  refine (CA.out _ (HG.out _ HB3.out)).mono ?_
  rintro e w4 ⟨pi, pz, ei, ez, rfl, hb, hI, hZ, -, -⟩
  clear m0 m1 m2 m3 m4 m5 m6 m7 m8 m9 m10
  clear k0 k1 k2 k3 k4 k5 k6 k7 k8 k9 k10
  have HX' := Lib.hid ((hb.block _ (heap_lt HX.out)).trans HX.out)
  clear HX
  have HX := HX'
  clear HX'
  have HY' := Lib.hid ((hb.block _ (heap_lt HY.out)).trans HY.out)
  clear HY
  have HY := HY'
  clear HY'
  have HB4 := Lib.hid (HB3.out.trans (hb.mono HB3.out.size))
  have HI0 : Hid (ItS w4 pi n.l ∧ CdS w4 pz n.z) := ⟨hI, hZ⟩
  clear hb hI hZ
  clear CA
  unfold nA
  have HP := Lib.hid (box_new w4 #[.int .i64 n.k, .string n.n, .string n.x, .string n.d, .int .i64 n.c, .int .i64 n.s, .int .i64 n.e, .int .i64 n.t, .bool n.o, .slice pi n.l.length ei, .slice pz n.z.length ez] 25)
  have HX' := Lib.hid ((Below.heap_alloc w4 (.cells #[.int .i64 n.k, .string n.n, .string n.x, .string n.d, .int .i64 n.c, .int .i64 n.s, .int .i64 n.e, .int .i64 n.t, .bool n.o, .slice pi n.l.length ei, .slice pz n.z.length ez] 25) _ (heap_lt HX.out)).trans HX.out)
  clear HX
  have HX := HX'
  clear HX'
  have HY' := Lib.hid ((Below.heap_alloc w4 (.cells #[.int .i64 n.k, .string n.n, .string n.x, .string n.d, .int .i64 n.c, .int .i64 n.s, .int .i64 n.e, .int .i64 n.t, .bool n.o, .slice pi n.l.length ei, .slice pz n.z.length ez] 25) _ (heap_lt HY.out)).trans HY.out)
  clear HY
  have HY := HY'
  clear HY'
  have HB4a := Lib.hid (HB4.out.alloc HB4.out.size (.cells #[.int .i64 n.k, .string n.n, .string n.x, .string n.d, .int .i64 n.c, .int .i64 n.s, .int .i64 n.e, .int .i64 n.t, .bool n.o, .slice pi n.l.length ei, .slice pz n.z.length ez] 25))
  have HPP : Hid (ItS (w4.alloc (.cells #[.int .i64 n.k, .string n.n, .string n.x, .string n.d, .int .i64 n.c, .int .i64 n.s, .int .i64 n.e, .int .i64 n.t, .bool n.o, .slice pi n.l.length ei, .slice pz n.z.length ez] 25)) pi n.l ∧ CdS (w4.alloc (.cells #[.int .i64 n.k, .string n.n, .string n.x, .string n.d, .int .i64 n.c, .int .i64 n.s, .int .i64 n.e, .int .i64 n.t, .bool n.o, .slice pi n.l.length ei, .slice pz n.z.length ez] 25)) pz n.z) := ⟨HI0.out.1.below ((Below.refl _ _).alloc (Nat.le_refl _) _), HI0.out.2.below ((Below.refl _ _).alloc (Nat.le_refl _) _)⟩
  clear HI0
  obtain ⟨m0, m1, m2, m3, m4, m5, m6, m7, m8, m9, m10⟩ := bx11 HX.out
  obtain ⟨k0, k1, k2, k3, k4, k5, k6, k7, k8, k9, k10⟩ := bx11 HY.out
  obtain ⟨u0, u1, u2, u3, u4, u5, u6, u7, u8, u9, u10⟩ := bx11 HP.out
  go_wp2_with fail
  refine (lnum_any _ _).mono ?_
  rintro e wz ⟨rfl, hw⟩
  have hw := hw.symm
  subst hw
  go_wp2_with fail
  refine (CE.out _ pi pz ei ez (nt_load (HS1.out.mono (by decide)) HPP.out.1 HPP.out.2) ((HR.out _ HB4a.out).small HS1.out (by decide))).mono ?_
  rintro e w5 ⟨rfl, hb⟩
  clear m0 m1 m2 m3 m4 m5 m6 m7 m8 m9 m10
  clear u0 u1 u2 u3 u4 u5 u6 u7 u8 u9 u10
  clear k0 k1 k2 k3 k4 k5 k6 k7 k8 k9 k10
  have HX' := Lib.hid ((hb.block _ (heap_lt HX.out)).trans HX.out)
  clear HX
  have HX := HX'
  clear HX'
  have HY' := Lib.hid ((hb.block _ (heap_lt HY.out)).trans HY.out)
  clear HY
  have HY := HY'
  clear HY'
  have HB5 := Lib.hid (HB4a.out.trans (hb.mono HB4a.out.size))
  clear hb
  obtain ⟨m0, m1, m2, m3, m4, m5, m6, m7, m8, m9, m10⟩ := bx11 HX.out
  obtain ⟨k0, k1, k2, k3, k4, k5, k6, k7, k8, k9, k10⟩ := bx11 HY.out
  go_wp2_with fail
  clear CE HPP
  refine (CQ.out _ (HG.out _ HB5.out) ((HQ.out _ HB5.out).small HS2.out (by decide))).mono ?_
  rintro e w6 ⟨rfl, hb⟩
  clear m0 m1 m2 m3 m4 m5 m6 m7 m8 m9 m10
  clear k0 k1 k2 k3 k4 k5 k6 k7 k8 k9 k10
  have HX' := Lib.hid ((hb.block _ (heap_lt HX.out)).trans HX.out)
  clear HX
  have HX := HX'
  clear HX'
  have HY' := Lib.hid ((hb.block _ (heap_lt HY.out)).trans HY.out)
  clear HY
  have HY := HY'
  clear HY'
  have HB6 := Lib.hid (HB5.out.trans (hb.mono HB5.out.size))
  clear hb
  obtain ⟨m0, m1, m2, m3, m4, m5, m6, m7, m8, m9, m10⟩ := bx11 HX.out
  obtain ⟨k0, k1, k2, k3, k4, k5, k6, k7, k8, k9, k10⟩ := bx11 HY.out
  go_wp2_with fail
  clear CQ
  refine (lnum_any _ _).mono ?_
  rintro e wz ⟨rfl, hw⟩
  have hw := hw.symm
  subst hw
  go_wp2_with fail
  refine (CF.out _ ((HR.out _ HB6.out).small HS1.out (by decide)) ((HQ.out _ HB6.out).small HS2.out (by decide))).mono ?_
  rintro e w7 ⟨rfl, hb⟩
  clear m0 m1 m2 m3 m4 m5 m6 m7 m8 m9 m10
  clear k0 k1 k2 k3 k4 k5 k6 k7 k8 k9 k10
  have HX' := Lib.hid ((hb.block _ (heap_lt HX.out)).trans HX.out)
  clear HX
  have HX := HX'
  clear HX'
  have HY' := Lib.hid ((hb.block _ (heap_lt HY.out)).trans HY.out)
  clear HY
  have HY := HY'
  clear HY'
  have HB7 := Lib.hid (HB6.out.trans (hb.mono HB6.out.size))
  clear hb
  obtain ⟨m0, m1, m2, m3, m4, m5, m6, m7, m8, m9, m10⟩ := bx11 HX.out
  obtain ⟨k0, k1, k2, k3, k4, k5, k6, k7, k8, k9, k10⟩ := bx11 HY.out
  go_wp2_with fail
  clear CF
  refine (L.out _ (HG.out _ HB7.out)).mono ?_
  rintro e w8 ⟨rfl, hb⟩
  clear m0 m1 m2 m3 m4 m5 m6 m7 m8 m9 m10
  clear k0 k1 k2 k3 k4 k5 k6 k7 k8 k9 k10
  have HX' := Lib.hid ((hb.block _ (heap_lt HX.out)).trans HX.out)
  clear HX
  have HX := HX'
  clear HX'
  have HY' := Lib.hid ((hb.block _ (heap_lt HY.out)).trans HY.out)
  clear HY
  have HY := HY'
  clear HY'
  have HB8 := Lib.hid (HB7.out.trans (hb.mono HB7.out.size))
  clear hb
  obtain ⟨m0, m1, m2, m3, m4, m5, m6, m7, m8, m9, m10⟩ := bx11 HX.out
  obtain ⟨k0, k1, k2, k3, k4, k5, k6, k7, k8, k9, k10⟩ := bx11 HY.out
  go_wp2_with fail
  go_ret
  exact ⟨rfl, HB8.out⟩
set_option maxRecDepth 100000 in
set_option maxHeartbeats 8000000 in
theorem back_chan (n m : Nt) (ai az bi bz : Option Addr) (ci cz di dz : Nat) (req : Int) (w : World) (h : NtR w ai az n) (h' : NtR w bi bz m) (hG : Gp w) (C : Int) (A : ByteArray) (D : Int) (B : ByteArray) (p1 : lputC n req = C) (p2 : lputB n req = A) (p3 : lputX n req = 0) (s1 : lprs C A = n) (s2 : lprsE C A = 0) (s3 : A.size ≤ 1000000) (r1 : lputC m req = D) (r2 : lputB m req = B) (r3 : lputX m req = 0) (v1 : n ≠ m) (v2 : C ≠ D) : Calls Tryd.prog 3 #[nA n ai az ci cz, nA m bi bz di dz, .int .i64 req] w (OkL w) := by
  unfold nA
  have HB0 : Hid (Below w.heap.size w ((w.alloc (.cells #[.int .i64 n.k, .string n.n, .string n.x, .string n.d, .int .i64 n.c, .int .i64 n.s, .int .i64 n.e, .int .i64 n.t, .bool n.o, .slice ai n.l.length ci, .slice az n.z.length cz] 25)).alloc (.cells #[.int .i64 m.k, .string m.n, .string m.x, .string m.d, .int .i64 m.c, .int .i64 m.s, .int .i64 m.e, .int .i64 m.t, .bool m.o, .slice bi m.l.length di, .slice bz m.z.length dz] 25))) := ((Below.refl _ w).alloc (Nat.le_refl _) _).alloc (by simp) _
  have HX : Hid (((w.alloc (.cells #[.int .i64 n.k, .string n.n, .string n.x, .string n.d, .int .i64 n.c, .int .i64 n.s, .int .i64 n.e, .int .i64 n.t, .bool n.o, .slice ai n.l.length ci, .slice az n.z.length cz] 25)).alloc (.cells #[.int .i64 m.k, .string m.n, .string m.x, .string m.d, .int .i64 m.c, .int .i64 m.s, .int .i64 m.e, .int .i64 m.t, .bool m.o, .slice bi m.l.length di, .slice bz m.z.length dz] 25)).heap[w.heap.size]? = some (.cells #[.int .i64 n.k, .string n.n, .string n.x, .string n.d, .int .i64 n.c, .int .i64 n.s, .int .i64 n.e, .int .i64 n.t, .bool n.o, .slice ai n.l.length ci, .slice az n.z.length cz] 25 (0, 0))) := (Below.heap_alloc (w.alloc (.cells #[.int .i64 n.k, .string n.n, .string n.x, .string n.d, .int .i64 n.c, .int .i64 n.s, .int .i64 n.e, .int .i64 n.t, .bool n.o, .slice ai n.l.length ci, .slice az n.z.length cz] 25)) _ _ (by simp)).trans (box_new w _ _)
  have HY : Hid (((w.alloc (.cells #[.int .i64 n.k, .string n.n, .string n.x, .string n.d, .int .i64 n.c, .int .i64 n.s, .int .i64 n.e, .int .i64 n.t, .bool n.o, .slice ai n.l.length ci, .slice az n.z.length cz] 25)).alloc (.cells #[.int .i64 m.k, .string m.n, .string m.x, .string m.d, .int .i64 m.c, .int .i64 m.s, .int .i64 m.e, .int .i64 m.t, .bool m.o, .slice bi m.l.length di, .slice bz m.z.length dz] 25)).heap[w.heap.size + 1]? = some (.cells #[.int .i64 m.k, .string m.n, .string m.x, .string m.d, .int .i64 m.c, .int .i64 m.s, .int .i64 m.e, .int .i64 m.t, .bool m.o, .slice bi m.l.length di, .slice bz m.z.length dz] 25 (0, 0))) := by
    have := box_new (w.alloc (.cells #[.int .i64 n.k, .string n.n, .string n.x, .string n.d, .int .i64 n.c, .int .i64 n.s, .int .i64 n.e, .int .i64 n.t, .bool n.o, .slice ai n.l.length ci, .slice az n.z.length cz] 25)) #[.int .i64 m.k, .string m.n, .string m.x, .string m.d, .int .i64 m.c, .int .i64 m.s, .int .i64 m.e, .int .i64 m.t, .bool m.o, .slice bi m.l.length di, .slice bz m.z.length dz] 25
    show _ = _
    simpa using this
  have HG := Lib.hid (fun W (hb : Below w.heap.size w W) => hG.below hb)
  have L := Lib.hid (fun W (g : Gp W) => live_any W g)
  have HR := Lib.hid (fun W (hb : Below w.heap.size w W) => h.below hb)
  have HQ := Lib.hid (fun W (hb : Below w.heap.size w W) => h'.below hb)
  have CS : Hid (∀ W, Below w.heap.size w W → Calls Tryd.prog 6 #[.agg #[.int .i64 n.k, .string n.n, .string n.x, .string n.d, .int .i64 n.c, .int .i64 n.s, .int .i64 n.e, .int .i64 n.t, .bool n.o, .slice ai n.l.length ci, .slice az n.z.length cz]] W (SmlP n W)) := fun W hb => small_any n ai az ci cz W (h.below hb)
  have CT : Hid (∀ W, Below w.heap.size w W → Calls Tryd.prog 6 #[.agg #[.int .i64 m.k, .string m.n, .string m.x, .string m.d, .int .i64 m.c, .int .i64 m.s, .int .i64 m.e, .int .i64 m.t, .bool m.o, .slice bi m.l.length di, .slice bz m.z.length dz]] W (SmlP m W)) := fun W hb => small_any m bi bz di dz W (h'.below hb)
  have CP : Hid (∀ W, Gp W → NtL W ai az n → Calls Tryd.prog 8 #[.agg #[.int .i64 n.k, .string n.n, .string n.x, .string n.d, .int .i64 n.c, .int .i64 n.s, .int .i64 n.e, .int .i64 n.t, .bool n.o, .slice ai n.l.length ci, .slice az n.z.length cz], .int .i64 req] W (Gives (.tuple #[.int .i64 C, .string A, .int .i64 0]) W)) := fun W g hl => by
    have k := lput_any n req ai az ci cz W hl g
    rw [p1, p2, p3] at k
    exact k
  have CA : Hid (∀ W, Gp W → Calls Tryd.prog 10 #[.int .i64 C, .string A] W (LpP n 0 W)) := fun W g => by
    have k := lparse_any C A W g s3
    rw [s1, s2] at k
    exact k
  have CE : Hid (∀ W pi pz ei ez, NtL W pi pz n → NtL W ai az n → Calls Tryd.prog 11 #[.agg #[.int .i64 n.k, .string n.n, .string n.x, .string n.d, .int .i64 n.c, .int .i64 n.s, .int .i64 n.e, .int .i64 n.t, .bool n.o, .slice pi n.l.length ei, .slice pz n.z.length ez], .agg #[.int .i64 n.k, .string n.n, .string n.x, .string n.d, .int .i64 n.c, .int .i64 n.s, .int .i64 n.e, .int .i64 n.t, .bool n.o, .slice ai n.l.length ci, .slice az n.z.length cz]] W (Gives (.bool true) W)) := fun W pi pz ei ez a b => by
    have k := rsame_any n n pi pz ai az ei ez ci cz W a b
    rw [eqv_yes rfl] at k
    exact k
  have CQ : Hid (∀ W, Gp W → NtL W bi bz m → Calls Tryd.prog 8 #[.agg #[.int .i64 m.k, .string m.n, .string m.x, .string m.d, .int .i64 m.c, .int .i64 m.s, .int .i64 m.e, .int .i64 m.t, .bool m.o, .slice bi m.l.length di, .slice bz m.z.length dz], .int .i64 req] W (Gives (.tuple #[.int .i64 D, .string B, .int .i64 0]) W)) := fun W g hl => by
    have k := lput_any m req bi bz di dz W hl g
    rw [r1, r2, r3] at k
    exact k
  have CF : Hid (∀ W, NtL W ai az n → NtL W bi bz m → Calls Tryd.prog 11 #[.agg #[.int .i64 n.k, .string n.n, .string n.x, .string n.d, .int .i64 n.c, .int .i64 n.s, .int .i64 n.e, .int .i64 n.t, .bool n.o, .slice ai n.l.length ci, .slice az n.z.length cz], .agg #[.int .i64 m.k, .string m.n, .string m.x, .string m.d, .int .i64 m.c, .int .i64 m.s, .int .i64 m.e, .int .i64 m.t, .bool m.o, .slice bi m.l.length di, .slice bz m.z.length dz]] W (Gives (.bool false) W)) := fun W a b => by
    have k := rsame_any n m ai az bi bz ci cz di dz W a b
    rw [eqv_no v1] at k
    exact k
  have v3 := beq_eq_false_iff_ne.2 v2
  clear h h' hG p1 p2 p3 s1 s2 s3 r1 r2 r3 v1 v2
  obtain ⟨m0, m1, m2, m3, m4, m5, m6, m7, m8, m9, m10⟩ := bx11 HX.out
  obtain ⟨k0, k1, k2, k3, k4, k5, k6, k7, k8, k9, k10⟩ := bx11 HY.out
  go_enter Tryd.func3, Tryd.ntmps3
  go_wp2_with fail
  refine (CS.out _ HB0.out).mono ?_
  rintro e w1 ⟨b, rfl, hb, hs⟩
  clear m0 m1 m2 m3 m4 m5 m6 m7 m8 m9 m10
  clear k0 k1 k2 k3 k4 k5 k6 k7 k8 k9 k10
  have HX' := Lib.hid ((hb.block _ (heap_lt HX.out)).trans HX.out)
  clear HX
  have HX := HX'
  clear HX'
  have HY' := Lib.hid ((hb.block _ (heap_lt HY.out)).trans HY.out)
  clear HY
  have HY := HY'
  clear HY'
  have HB1 := Lib.hid (HB0.out.trans (hb.mono HB0.out.size))
  have HS := Lib.hid hs
  clear hb hs
  clear CS
  cases b
  · skip
    clear HS CT HR HQ CP CA CE CQ CF
    obtain ⟨m0, m1, m2, m3, m4, m5, m6, m7, m8, m9, m10⟩ := bx11 HX.out
    obtain ⟨k0, k1, k2, k3, k4, k5, k6, k7, k8, k9, k10⟩ := bx11 HY.out
    go_wp2_with fail
    refine (L.out _ (HG.out _ HB1.out)).mono ?_
    rintro e w2 ⟨rfl, hb⟩
    clear m0 m1 m2 m3 m4 m5 m6 m7 m8 m9 m10
    clear k0 k1 k2 k3 k4 k5 k6 k7 k8 k9 k10
    have HX' := Lib.hid ((hb.block _ (heap_lt HX.out)).trans HX.out)
    clear HX
    have HX := HX'
    clear HX'
    have HY' := Lib.hid ((hb.block _ (heap_lt HY.out)).trans HY.out)
    clear HY
    have HY := HY'
    clear HY'
    have HB2 := Lib.hid (HB1.out.trans (hb.mono HB1.out.size))
    clear hb
    obtain ⟨m0, m1, m2, m3, m4, m5, m6, m7, m8, m9, m10⟩ := bx11 HX.out
    obtain ⟨k0, k1, k2, k3, k4, k5, k6, k7, k8, k9, k10⟩ := bx11 HY.out
    go_wp2_with fail
    go_ret
    exact ⟨rfl, HB2.out⟩
  have HS1 := Lib.hid (HS.out rfl)
  clear HS
  obtain ⟨m0, m1, m2, m3, m4, m5, m6, m7, m8, m9, m10⟩ := bx11 HX.out
  obtain ⟨k0, k1, k2, k3, k4, k5, k6, k7, k8, k9, k10⟩ := bx11 HY.out
  go_wp2_with fail
  refine (CT.out _ HB1.out).mono ?_
  rintro e w2 ⟨b, rfl, hb, hs⟩
  clear m0 m1 m2 m3 m4 m5 m6 m7 m8 m9 m10
  clear k0 k1 k2 k3 k4 k5 k6 k7 k8 k9 k10
  have HX' := Lib.hid ((hb.block _ (heap_lt HX.out)).trans HX.out)
  clear HX
  have HX := HX'
  clear HX'
  have HY' := Lib.hid ((hb.block _ (heap_lt HY.out)).trans HY.out)
  clear HY
  have HY := HY'
  clear HY'
  have HB2 := Lib.hid (HB1.out.trans (hb.mono HB1.out.size))
  have HS := Lib.hid hs
  clear hb hs
  clear CT
  cases b
  · skip
    clear HS HS1 HR HQ CP CA CE CQ CF
    obtain ⟨m0, m1, m2, m3, m4, m5, m6, m7, m8, m9, m10⟩ := bx11 HX.out
    obtain ⟨k0, k1, k2, k3, k4, k5, k6, k7, k8, k9, k10⟩ := bx11 HY.out
    go_wp2_with fail
    refine (L.out _ (HG.out _ HB2.out)).mono ?_
    rintro e w3 ⟨rfl, hb⟩
    clear m0 m1 m2 m3 m4 m5 m6 m7 m8 m9 m10
    clear k0 k1 k2 k3 k4 k5 k6 k7 k8 k9 k10
    have HX' := Lib.hid ((hb.block _ (heap_lt HX.out)).trans HX.out)
    clear HX
    have HX := HX'
    clear HX'
    have HY' := Lib.hid ((hb.block _ (heap_lt HY.out)).trans HY.out)
    clear HY
    have HY := HY'
    clear HY'
    have HB3 := Lib.hid (HB2.out.trans (hb.mono HB2.out.size))
    clear hb
    obtain ⟨m0, m1, m2, m3, m4, m5, m6, m7, m8, m9, m10⟩ := bx11 HX.out
    obtain ⟨k0, k1, k2, k3, k4, k5, k6, k7, k8, k9, k10⟩ := bx11 HY.out
    go_wp2_with fail
    go_ret
    exact ⟨rfl, HB3.out⟩
  have HS2 := Lib.hid (HS.out rfl)
  clear HS
  obtain ⟨m0, m1, m2, m3, m4, m5, m6, m7, m8, m9, m10⟩ := bx11 HX.out
  obtain ⟨k0, k1, k2, k3, k4, k5, k6, k7, k8, k9, k10⟩ := bx11 HY.out
  go_wp2_with fail
  refine (CP.out _ (HG.out _ HB2.out) ((HR.out _ HB2.out).small HS1.out (by decide))).mono ?_
  rintro e w3 ⟨rfl, hb⟩
  clear m0 m1 m2 m3 m4 m5 m6 m7 m8 m9 m10
  clear k0 k1 k2 k3 k4 k5 k6 k7 k8 k9 k10
  have HX' := Lib.hid ((hb.block _ (heap_lt HX.out)).trans HX.out)
  clear HX
  have HX := HX'
  clear HX'
  have HY' := Lib.hid ((hb.block _ (heap_lt HY.out)).trans HY.out)
  clear HY
  have HY := HY'
  clear HY'
  have HB3 := Lib.hid (HB2.out.trans (hb.mono HB2.out.size))
  clear hb
  obtain ⟨m0, m1, m2, m3, m4, m5, m6, m7, m8, m9, m10⟩ := bx11 HX.out
  obtain ⟨k0, k1, k2, k3, k4, k5, k6, k7, k8, k9, k10⟩ := bx11 HY.out
  go_wp2_with fail
  clear CP
  refine (lnum_any _ _).mono ?_
  rintro e wz ⟨rfl, hw⟩
  have hw := hw.symm
  subst hw
  go_wp2_with fail
  refine (CA.out _ (HG.out _ HB3.out)).mono ?_
  rintro e w4 ⟨pi, pz, ei, ez, rfl, hb, hI, hZ, -, -⟩
  clear m0 m1 m2 m3 m4 m5 m6 m7 m8 m9 m10
  clear k0 k1 k2 k3 k4 k5 k6 k7 k8 k9 k10
  have HX' := Lib.hid ((hb.block _ (heap_lt HX.out)).trans HX.out)
  clear HX
  have HX := HX'
  clear HX'
  have HY' := Lib.hid ((hb.block _ (heap_lt HY.out)).trans HY.out)
  clear HY
  have HY := HY'
  clear HY'
  have HB4 := Lib.hid (HB3.out.trans (hb.mono HB3.out.size))
  have HI0 : Hid (ItS w4 pi n.l ∧ CdS w4 pz n.z) := ⟨hI, hZ⟩
  clear hb hI hZ
  clear CA
  unfold nA
  have HP := Lib.hid (box_new w4 #[.int .i64 n.k, .string n.n, .string n.x, .string n.d, .int .i64 n.c, .int .i64 n.s, .int .i64 n.e, .int .i64 n.t, .bool n.o, .slice pi n.l.length ei, .slice pz n.z.length ez] 25)
  have HX' := Lib.hid ((Below.heap_alloc w4 (.cells #[.int .i64 n.k, .string n.n, .string n.x, .string n.d, .int .i64 n.c, .int .i64 n.s, .int .i64 n.e, .int .i64 n.t, .bool n.o, .slice pi n.l.length ei, .slice pz n.z.length ez] 25) _ (heap_lt HX.out)).trans HX.out)
  clear HX
  have HX := HX'
  clear HX'
  have HY' := Lib.hid ((Below.heap_alloc w4 (.cells #[.int .i64 n.k, .string n.n, .string n.x, .string n.d, .int .i64 n.c, .int .i64 n.s, .int .i64 n.e, .int .i64 n.t, .bool n.o, .slice pi n.l.length ei, .slice pz n.z.length ez] 25) _ (heap_lt HY.out)).trans HY.out)
  clear HY
  have HY := HY'
  clear HY'
  have HB4a := Lib.hid (HB4.out.alloc HB4.out.size (.cells #[.int .i64 n.k, .string n.n, .string n.x, .string n.d, .int .i64 n.c, .int .i64 n.s, .int .i64 n.e, .int .i64 n.t, .bool n.o, .slice pi n.l.length ei, .slice pz n.z.length ez] 25))
  have HPP : Hid (ItS (w4.alloc (.cells #[.int .i64 n.k, .string n.n, .string n.x, .string n.d, .int .i64 n.c, .int .i64 n.s, .int .i64 n.e, .int .i64 n.t, .bool n.o, .slice pi n.l.length ei, .slice pz n.z.length ez] 25)) pi n.l ∧ CdS (w4.alloc (.cells #[.int .i64 n.k, .string n.n, .string n.x, .string n.d, .int .i64 n.c, .int .i64 n.s, .int .i64 n.e, .int .i64 n.t, .bool n.o, .slice pi n.l.length ei, .slice pz n.z.length ez] 25)) pz n.z) := ⟨HI0.out.1.below ((Below.refl _ _).alloc (Nat.le_refl _) _), HI0.out.2.below ((Below.refl _ _).alloc (Nat.le_refl _) _)⟩
  clear HI0
  obtain ⟨m0, m1, m2, m3, m4, m5, m6, m7, m8, m9, m10⟩ := bx11 HX.out
  obtain ⟨k0, k1, k2, k3, k4, k5, k6, k7, k8, k9, k10⟩ := bx11 HY.out
  obtain ⟨u0, u1, u2, u3, u4, u5, u6, u7, u8, u9, u10⟩ := bx11 HP.out
  go_wp2_with fail
  refine (lnum_any _ _).mono ?_
  rintro e wz ⟨rfl, hw⟩
  have hw := hw.symm
  subst hw
  go_wp2_with fail
  refine (CE.out _ pi pz ei ez (nt_load (HS1.out.mono (by decide)) HPP.out.1 HPP.out.2) ((HR.out _ HB4a.out).small HS1.out (by decide))).mono ?_
  rintro e w5 ⟨rfl, hb⟩
  clear m0 m1 m2 m3 m4 m5 m6 m7 m8 m9 m10
  clear u0 u1 u2 u3 u4 u5 u6 u7 u8 u9 u10
  clear k0 k1 k2 k3 k4 k5 k6 k7 k8 k9 k10
  have HX' := Lib.hid ((hb.block _ (heap_lt HX.out)).trans HX.out)
  clear HX
  have HX := HX'
  clear HX'
  have HY' := Lib.hid ((hb.block _ (heap_lt HY.out)).trans HY.out)
  clear HY
  have HY := HY'
  clear HY'
  have HB5 := Lib.hid (HB4a.out.trans (hb.mono HB4a.out.size))
  clear hb
  obtain ⟨m0, m1, m2, m3, m4, m5, m6, m7, m8, m9, m10⟩ := bx11 HX.out
  obtain ⟨k0, k1, k2, k3, k4, k5, k6, k7, k8, k9, k10⟩ := bx11 HY.out
  go_wp2_with fail
  clear CE HPP
  refine (CQ.out _ (HG.out _ HB5.out) ((HQ.out _ HB5.out).small HS2.out (by decide))).mono ?_
  rintro e w6 ⟨rfl, hb⟩
  clear m0 m1 m2 m3 m4 m5 m6 m7 m8 m9 m10
  clear k0 k1 k2 k3 k4 k5 k6 k7 k8 k9 k10
  have HX' := Lib.hid ((hb.block _ (heap_lt HX.out)).trans HX.out)
  clear HX
  have HX := HX'
  clear HX'
  have HY' := Lib.hid ((hb.block _ (heap_lt HY.out)).trans HY.out)
  clear HY
  have HY := HY'
  clear HY'
  have HB6 := Lib.hid (HB5.out.trans (hb.mono HB5.out.size))
  clear hb
  obtain ⟨m0, m1, m2, m3, m4, m5, m6, m7, m8, m9, m10⟩ := bx11 HX.out
  obtain ⟨k0, k1, k2, k3, k4, k5, k6, k7, k8, k9, k10⟩ := bx11 HY.out
  go_wp2_with fail
  clear CQ
  refine (lnum_any _ _).mono ?_
  rintro e wz ⟨rfl, hw⟩
  have hw := hw.symm
  subst hw
  go_wp2_with fail
  refine (CF.out _ ((HR.out _ HB6.out).small HS1.out (by decide)) ((HQ.out _ HB6.out).small HS2.out (by decide))).mono ?_
  rintro e w7 ⟨rfl, hb⟩
  clear m0 m1 m2 m3 m4 m5 m6 m7 m8 m9 m10
  clear k0 k1 k2 k3 k4 k5 k6 k7 k8 k9 k10
  have HX' := Lib.hid ((hb.block _ (heap_lt HX.out)).trans HX.out)
  clear HX
  have HX := HX'
  clear HX'
  have HY' := Lib.hid ((hb.block _ (heap_lt HY.out)).trans HY.out)
  clear HY
  have HY := HY'
  clear HY'
  have HB7 := Lib.hid (HB6.out.trans (hb.mono HB6.out.size))
  clear hb
  obtain ⟨m0, m1, m2, m3, m4, m5, m6, m7, m8, m9, m10⟩ := bx11 HX.out
  obtain ⟨k0, k1, k2, k3, k4, k5, k6, k7, k8, k9, k10⟩ := bx11 HY.out
  go_wp2_with fail
  clear CF
  refine (L.out _ (HG.out _ HB7.out)).mono ?_
  rintro e w8 ⟨rfl, hb⟩
  clear m0 m1 m2 m3 m4 m5 m6 m7 m8 m9 m10
  clear k0 k1 k2 k3 k4 k5 k6 k7 k8 k9 k10
  have HX' := Lib.hid ((hb.block _ (heap_lt HX.out)).trans HX.out)
  clear HX
  have HX := HX'
  clear HX'
  have HY' := Lib.hid ((hb.block _ (heap_lt HY.out)).trans HY.out)
  clear HY
  have HY := HY'
  clear HY'
  have HB8 := Lib.hid (HB7.out.trans (hb.mono HB7.out.size))
  clear hb
  obtain ⟨m0, m1, m2, m3, m4, m5, m6, m7, m8, m9, m10⟩ := bx11 HX.out
  obtain ⟨k0, k1, k2, k3, k4, k5, k6, k7, k8, k9, k10⟩ := bx11 HY.out
  go_wp2_with fail
  go_ret
  exact ⟨rfl, HB8.out⟩
set_option maxRecDepth 100000 in
set_option maxHeartbeats 8000000 in
theorem back_text (n m : Nt) (ai az bi bz : Option Addr) (ci cz di dz : Nat) (req : Int) (w : World) (h : NtR w ai az n) (h' : NtR w bi bz m) (hG : Gp w) (C : Int) (A : ByteArray) (B : ByteArray) (p1 : lputC n req = C) (p2 : lputB n req = A) (p3 : lputX n req = 0) (s1 : lprs C A = n) (s2 : lprsE C A = 0) (s3 : A.size ≤ 1000000) (r1 : lputC m req = C) (r2 : lputB m req = B) (r3 : lputX m req = 0) (v1 : n ≠ m) (v2 : A ≠ B) : Calls Tryd.prog 3 #[nA n ai az ci cz, nA m bi bz di dz, .int .i64 req] w (OkL w) := by
  unfold nA
  have HB0 : Hid (Below w.heap.size w ((w.alloc (.cells #[.int .i64 n.k, .string n.n, .string n.x, .string n.d, .int .i64 n.c, .int .i64 n.s, .int .i64 n.e, .int .i64 n.t, .bool n.o, .slice ai n.l.length ci, .slice az n.z.length cz] 25)).alloc (.cells #[.int .i64 m.k, .string m.n, .string m.x, .string m.d, .int .i64 m.c, .int .i64 m.s, .int .i64 m.e, .int .i64 m.t, .bool m.o, .slice bi m.l.length di, .slice bz m.z.length dz] 25))) := ((Below.refl _ w).alloc (Nat.le_refl _) _).alloc (by simp) _
  have HX : Hid (((w.alloc (.cells #[.int .i64 n.k, .string n.n, .string n.x, .string n.d, .int .i64 n.c, .int .i64 n.s, .int .i64 n.e, .int .i64 n.t, .bool n.o, .slice ai n.l.length ci, .slice az n.z.length cz] 25)).alloc (.cells #[.int .i64 m.k, .string m.n, .string m.x, .string m.d, .int .i64 m.c, .int .i64 m.s, .int .i64 m.e, .int .i64 m.t, .bool m.o, .slice bi m.l.length di, .slice bz m.z.length dz] 25)).heap[w.heap.size]? = some (.cells #[.int .i64 n.k, .string n.n, .string n.x, .string n.d, .int .i64 n.c, .int .i64 n.s, .int .i64 n.e, .int .i64 n.t, .bool n.o, .slice ai n.l.length ci, .slice az n.z.length cz] 25 (0, 0))) := (Below.heap_alloc (w.alloc (.cells #[.int .i64 n.k, .string n.n, .string n.x, .string n.d, .int .i64 n.c, .int .i64 n.s, .int .i64 n.e, .int .i64 n.t, .bool n.o, .slice ai n.l.length ci, .slice az n.z.length cz] 25)) _ _ (by simp)).trans (box_new w _ _)
  have HY : Hid (((w.alloc (.cells #[.int .i64 n.k, .string n.n, .string n.x, .string n.d, .int .i64 n.c, .int .i64 n.s, .int .i64 n.e, .int .i64 n.t, .bool n.o, .slice ai n.l.length ci, .slice az n.z.length cz] 25)).alloc (.cells #[.int .i64 m.k, .string m.n, .string m.x, .string m.d, .int .i64 m.c, .int .i64 m.s, .int .i64 m.e, .int .i64 m.t, .bool m.o, .slice bi m.l.length di, .slice bz m.z.length dz] 25)).heap[w.heap.size + 1]? = some (.cells #[.int .i64 m.k, .string m.n, .string m.x, .string m.d, .int .i64 m.c, .int .i64 m.s, .int .i64 m.e, .int .i64 m.t, .bool m.o, .slice bi m.l.length di, .slice bz m.z.length dz] 25 (0, 0))) := by
    have := box_new (w.alloc (.cells #[.int .i64 n.k, .string n.n, .string n.x, .string n.d, .int .i64 n.c, .int .i64 n.s, .int .i64 n.e, .int .i64 n.t, .bool n.o, .slice ai n.l.length ci, .slice az n.z.length cz] 25)) #[.int .i64 m.k, .string m.n, .string m.x, .string m.d, .int .i64 m.c, .int .i64 m.s, .int .i64 m.e, .int .i64 m.t, .bool m.o, .slice bi m.l.length di, .slice bz m.z.length dz] 25
    show _ = _
    simpa using this
  have HG := Lib.hid (fun W (hb : Below w.heap.size w W) => hG.below hb)
  have L := Lib.hid (fun W (g : Gp W) => live_any W g)
  have HR := Lib.hid (fun W (hb : Below w.heap.size w W) => h.below hb)
  have HQ := Lib.hid (fun W (hb : Below w.heap.size w W) => h'.below hb)
  have CS : Hid (∀ W, Below w.heap.size w W → Calls Tryd.prog 6 #[.agg #[.int .i64 n.k, .string n.n, .string n.x, .string n.d, .int .i64 n.c, .int .i64 n.s, .int .i64 n.e, .int .i64 n.t, .bool n.o, .slice ai n.l.length ci, .slice az n.z.length cz]] W (SmlP n W)) := fun W hb => small_any n ai az ci cz W (h.below hb)
  have CT : Hid (∀ W, Below w.heap.size w W → Calls Tryd.prog 6 #[.agg #[.int .i64 m.k, .string m.n, .string m.x, .string m.d, .int .i64 m.c, .int .i64 m.s, .int .i64 m.e, .int .i64 m.t, .bool m.o, .slice bi m.l.length di, .slice bz m.z.length dz]] W (SmlP m W)) := fun W hb => small_any m bi bz di dz W (h'.below hb)
  have CP : Hid (∀ W, Gp W → NtL W ai az n → Calls Tryd.prog 8 #[.agg #[.int .i64 n.k, .string n.n, .string n.x, .string n.d, .int .i64 n.c, .int .i64 n.s, .int .i64 n.e, .int .i64 n.t, .bool n.o, .slice ai n.l.length ci, .slice az n.z.length cz], .int .i64 req] W (Gives (.tuple #[.int .i64 C, .string A, .int .i64 0]) W)) := fun W g hl => by
    have k := lput_any n req ai az ci cz W hl g
    rw [p1, p2, p3] at k
    exact k
  have CA : Hid (∀ W, Gp W → Calls Tryd.prog 10 #[.int .i64 C, .string A] W (LpP n 0 W)) := fun W g => by
    have k := lparse_any C A W g s3
    rw [s1, s2] at k
    exact k
  have CE : Hid (∀ W pi pz ei ez, NtL W pi pz n → NtL W ai az n → Calls Tryd.prog 11 #[.agg #[.int .i64 n.k, .string n.n, .string n.x, .string n.d, .int .i64 n.c, .int .i64 n.s, .int .i64 n.e, .int .i64 n.t, .bool n.o, .slice pi n.l.length ei, .slice pz n.z.length ez], .agg #[.int .i64 n.k, .string n.n, .string n.x, .string n.d, .int .i64 n.c, .int .i64 n.s, .int .i64 n.e, .int .i64 n.t, .bool n.o, .slice ai n.l.length ci, .slice az n.z.length cz]] W (Gives (.bool true) W)) := fun W pi pz ei ez a b => by
    have k := rsame_any n n pi pz ai az ei ez ci cz W a b
    rw [eqv_yes rfl] at k
    exact k
  have CQ : Hid (∀ W, Gp W → NtL W bi bz m → Calls Tryd.prog 8 #[.agg #[.int .i64 m.k, .string m.n, .string m.x, .string m.d, .int .i64 m.c, .int .i64 m.s, .int .i64 m.e, .int .i64 m.t, .bool m.o, .slice bi m.l.length di, .slice bz m.z.length dz], .int .i64 req] W (Gives (.tuple #[.int .i64 C, .string B, .int .i64 0]) W)) := fun W g hl => by
    have k := lput_any m req bi bz di dz W hl g
    rw [r1, r2, r3] at k
    exact k
  have CF : Hid (∀ W, NtL W ai az n → NtL W bi bz m → Calls Tryd.prog 11 #[.agg #[.int .i64 n.k, .string n.n, .string n.x, .string n.d, .int .i64 n.c, .int .i64 n.s, .int .i64 n.e, .int .i64 n.t, .bool n.o, .slice ai n.l.length ci, .slice az n.z.length cz], .agg #[.int .i64 m.k, .string m.n, .string m.x, .string m.d, .int .i64 m.c, .int .i64 m.s, .int .i64 m.e, .int .i64 m.t, .bool m.o, .slice bi m.l.length di, .slice bz m.z.length dz]] W (Gives (.bool false) W)) := fun W a b => by
    have k := rsame_any n m ai az bi bz ci cz di dz W a b
    rw [eqv_no v1] at k
    exact k
  have v3 := text_neb v2
  clear h h' hG p1 p2 p3 s1 s2 s3 r1 r2 r3 v1 v2
  obtain ⟨m0, m1, m2, m3, m4, m5, m6, m7, m8, m9, m10⟩ := bx11 HX.out
  obtain ⟨k0, k1, k2, k3, k4, k5, k6, k7, k8, k9, k10⟩ := bx11 HY.out
  go_enter Tryd.func3, Tryd.ntmps3
  go_wp2_with fail
  refine (CS.out _ HB0.out).mono ?_
  rintro e w1 ⟨b, rfl, hb, hs⟩
  clear m0 m1 m2 m3 m4 m5 m6 m7 m8 m9 m10
  clear k0 k1 k2 k3 k4 k5 k6 k7 k8 k9 k10
  have HX' := Lib.hid ((hb.block _ (heap_lt HX.out)).trans HX.out)
  clear HX
  have HX := HX'
  clear HX'
  have HY' := Lib.hid ((hb.block _ (heap_lt HY.out)).trans HY.out)
  clear HY
  have HY := HY'
  clear HY'
  have HB1 := Lib.hid (HB0.out.trans (hb.mono HB0.out.size))
  have HS := Lib.hid hs
  clear hb hs
  clear CS
  cases b
  · skip
    clear HS CT HR HQ CP CA CE CQ CF
    obtain ⟨m0, m1, m2, m3, m4, m5, m6, m7, m8, m9, m10⟩ := bx11 HX.out
    obtain ⟨k0, k1, k2, k3, k4, k5, k6, k7, k8, k9, k10⟩ := bx11 HY.out
    go_wp2_with fail
    refine (L.out _ (HG.out _ HB1.out)).mono ?_
    rintro e w2 ⟨rfl, hb⟩
    clear m0 m1 m2 m3 m4 m5 m6 m7 m8 m9 m10
    clear k0 k1 k2 k3 k4 k5 k6 k7 k8 k9 k10
    have HX' := Lib.hid ((hb.block _ (heap_lt HX.out)).trans HX.out)
    clear HX
    have HX := HX'
    clear HX'
    have HY' := Lib.hid ((hb.block _ (heap_lt HY.out)).trans HY.out)
    clear HY
    have HY := HY'
    clear HY'
    have HB2 := Lib.hid (HB1.out.trans (hb.mono HB1.out.size))
    clear hb
    obtain ⟨m0, m1, m2, m3, m4, m5, m6, m7, m8, m9, m10⟩ := bx11 HX.out
    obtain ⟨k0, k1, k2, k3, k4, k5, k6, k7, k8, k9, k10⟩ := bx11 HY.out
    go_wp2_with fail
    go_ret
    exact ⟨rfl, HB2.out⟩
  have HS1 := Lib.hid (HS.out rfl)
  clear HS
  obtain ⟨m0, m1, m2, m3, m4, m5, m6, m7, m8, m9, m10⟩ := bx11 HX.out
  obtain ⟨k0, k1, k2, k3, k4, k5, k6, k7, k8, k9, k10⟩ := bx11 HY.out
  go_wp2_with fail
  refine (CT.out _ HB1.out).mono ?_
  rintro e w2 ⟨b, rfl, hb, hs⟩
  clear m0 m1 m2 m3 m4 m5 m6 m7 m8 m9 m10
  clear k0 k1 k2 k3 k4 k5 k6 k7 k8 k9 k10
  have HX' := Lib.hid ((hb.block _ (heap_lt HX.out)).trans HX.out)
  clear HX
  have HX := HX'
  clear HX'
  have HY' := Lib.hid ((hb.block _ (heap_lt HY.out)).trans HY.out)
  clear HY
  have HY := HY'
  clear HY'
  have HB2 := Lib.hid (HB1.out.trans (hb.mono HB1.out.size))
  have HS := Lib.hid hs
  clear hb hs
  clear CT
  cases b
  · skip
    clear HS HS1 HR HQ CP CA CE CQ CF
    obtain ⟨m0, m1, m2, m3, m4, m5, m6, m7, m8, m9, m10⟩ := bx11 HX.out
    obtain ⟨k0, k1, k2, k3, k4, k5, k6, k7, k8, k9, k10⟩ := bx11 HY.out
    go_wp2_with fail
    refine (L.out _ (HG.out _ HB2.out)).mono ?_
    rintro e w3 ⟨rfl, hb⟩
    clear m0 m1 m2 m3 m4 m5 m6 m7 m8 m9 m10
    clear k0 k1 k2 k3 k4 k5 k6 k7 k8 k9 k10
    have HX' := Lib.hid ((hb.block _ (heap_lt HX.out)).trans HX.out)
    clear HX
    have HX := HX'
    clear HX'
    have HY' := Lib.hid ((hb.block _ (heap_lt HY.out)).trans HY.out)
    clear HY
    have HY := HY'
    clear HY'
    have HB3 := Lib.hid (HB2.out.trans (hb.mono HB2.out.size))
    clear hb
    obtain ⟨m0, m1, m2, m3, m4, m5, m6, m7, m8, m9, m10⟩ := bx11 HX.out
    obtain ⟨k0, k1, k2, k3, k4, k5, k6, k7, k8, k9, k10⟩ := bx11 HY.out
    go_wp2_with fail
    go_ret
    exact ⟨rfl, HB3.out⟩
  have HS2 := Lib.hid (HS.out rfl)
  clear HS
  obtain ⟨m0, m1, m2, m3, m4, m5, m6, m7, m8, m9, m10⟩ := bx11 HX.out
  obtain ⟨k0, k1, k2, k3, k4, k5, k6, k7, k8, k9, k10⟩ := bx11 HY.out
  go_wp2_with fail
  refine (CP.out _ (HG.out _ HB2.out) ((HR.out _ HB2.out).small HS1.out (by decide))).mono ?_
  rintro e w3 ⟨rfl, hb⟩
  clear m0 m1 m2 m3 m4 m5 m6 m7 m8 m9 m10
  clear k0 k1 k2 k3 k4 k5 k6 k7 k8 k9 k10
  have HX' := Lib.hid ((hb.block _ (heap_lt HX.out)).trans HX.out)
  clear HX
  have HX := HX'
  clear HX'
  have HY' := Lib.hid ((hb.block _ (heap_lt HY.out)).trans HY.out)
  clear HY
  have HY := HY'
  clear HY'
  have HB3 := Lib.hid (HB2.out.trans (hb.mono HB2.out.size))
  clear hb
  obtain ⟨m0, m1, m2, m3, m4, m5, m6, m7, m8, m9, m10⟩ := bx11 HX.out
  obtain ⟨k0, k1, k2, k3, k4, k5, k6, k7, k8, k9, k10⟩ := bx11 HY.out
  go_wp2_with fail
  clear CP
  refine (lnum_any _ _).mono ?_
  rintro e wz ⟨rfl, hw⟩
  have hw := hw.symm
  subst hw
  go_wp2_with fail
  refine (CA.out _ (HG.out _ HB3.out)).mono ?_
  rintro e w4 ⟨pi, pz, ei, ez, rfl, hb, hI, hZ, -, -⟩
  clear m0 m1 m2 m3 m4 m5 m6 m7 m8 m9 m10
  clear k0 k1 k2 k3 k4 k5 k6 k7 k8 k9 k10
  have HX' := Lib.hid ((hb.block _ (heap_lt HX.out)).trans HX.out)
  clear HX
  have HX := HX'
  clear HX'
  have HY' := Lib.hid ((hb.block _ (heap_lt HY.out)).trans HY.out)
  clear HY
  have HY := HY'
  clear HY'
  have HB4 := Lib.hid (HB3.out.trans (hb.mono HB3.out.size))
  have HI0 : Hid (ItS w4 pi n.l ∧ CdS w4 pz n.z) := ⟨hI, hZ⟩
  clear hb hI hZ
  clear CA
  unfold nA
  have HP := Lib.hid (box_new w4 #[.int .i64 n.k, .string n.n, .string n.x, .string n.d, .int .i64 n.c, .int .i64 n.s, .int .i64 n.e, .int .i64 n.t, .bool n.o, .slice pi n.l.length ei, .slice pz n.z.length ez] 25)
  have HX' := Lib.hid ((Below.heap_alloc w4 (.cells #[.int .i64 n.k, .string n.n, .string n.x, .string n.d, .int .i64 n.c, .int .i64 n.s, .int .i64 n.e, .int .i64 n.t, .bool n.o, .slice pi n.l.length ei, .slice pz n.z.length ez] 25) _ (heap_lt HX.out)).trans HX.out)
  clear HX
  have HX := HX'
  clear HX'
  have HY' := Lib.hid ((Below.heap_alloc w4 (.cells #[.int .i64 n.k, .string n.n, .string n.x, .string n.d, .int .i64 n.c, .int .i64 n.s, .int .i64 n.e, .int .i64 n.t, .bool n.o, .slice pi n.l.length ei, .slice pz n.z.length ez] 25) _ (heap_lt HY.out)).trans HY.out)
  clear HY
  have HY := HY'
  clear HY'
  have HB4a := Lib.hid (HB4.out.alloc HB4.out.size (.cells #[.int .i64 n.k, .string n.n, .string n.x, .string n.d, .int .i64 n.c, .int .i64 n.s, .int .i64 n.e, .int .i64 n.t, .bool n.o, .slice pi n.l.length ei, .slice pz n.z.length ez] 25))
  have HPP : Hid (ItS (w4.alloc (.cells #[.int .i64 n.k, .string n.n, .string n.x, .string n.d, .int .i64 n.c, .int .i64 n.s, .int .i64 n.e, .int .i64 n.t, .bool n.o, .slice pi n.l.length ei, .slice pz n.z.length ez] 25)) pi n.l ∧ CdS (w4.alloc (.cells #[.int .i64 n.k, .string n.n, .string n.x, .string n.d, .int .i64 n.c, .int .i64 n.s, .int .i64 n.e, .int .i64 n.t, .bool n.o, .slice pi n.l.length ei, .slice pz n.z.length ez] 25)) pz n.z) := ⟨HI0.out.1.below ((Below.refl _ _).alloc (Nat.le_refl _) _), HI0.out.2.below ((Below.refl _ _).alloc (Nat.le_refl _) _)⟩
  clear HI0
  obtain ⟨m0, m1, m2, m3, m4, m5, m6, m7, m8, m9, m10⟩ := bx11 HX.out
  obtain ⟨k0, k1, k2, k3, k4, k5, k6, k7, k8, k9, k10⟩ := bx11 HY.out
  obtain ⟨u0, u1, u2, u3, u4, u5, u6, u7, u8, u9, u10⟩ := bx11 HP.out
  go_wp2_with fail
  refine (lnum_any _ _).mono ?_
  rintro e wz ⟨rfl, hw⟩
  have hw := hw.symm
  subst hw
  go_wp2_with fail
  refine (CE.out _ pi pz ei ez (nt_load (HS1.out.mono (by decide)) HPP.out.1 HPP.out.2) ((HR.out _ HB4a.out).small HS1.out (by decide))).mono ?_
  rintro e w5 ⟨rfl, hb⟩
  clear m0 m1 m2 m3 m4 m5 m6 m7 m8 m9 m10
  clear u0 u1 u2 u3 u4 u5 u6 u7 u8 u9 u10
  clear k0 k1 k2 k3 k4 k5 k6 k7 k8 k9 k10
  have HX' := Lib.hid ((hb.block _ (heap_lt HX.out)).trans HX.out)
  clear HX
  have HX := HX'
  clear HX'
  have HY' := Lib.hid ((hb.block _ (heap_lt HY.out)).trans HY.out)
  clear HY
  have HY := HY'
  clear HY'
  have HB5 := Lib.hid (HB4a.out.trans (hb.mono HB4a.out.size))
  clear hb
  obtain ⟨m0, m1, m2, m3, m4, m5, m6, m7, m8, m9, m10⟩ := bx11 HX.out
  obtain ⟨k0, k1, k2, k3, k4, k5, k6, k7, k8, k9, k10⟩ := bx11 HY.out
  go_wp2_with fail
  clear CE HPP
  refine (CQ.out _ (HG.out _ HB5.out) ((HQ.out _ HB5.out).small HS2.out (by decide))).mono ?_
  rintro e w6 ⟨rfl, hb⟩
  clear m0 m1 m2 m3 m4 m5 m6 m7 m8 m9 m10
  clear k0 k1 k2 k3 k4 k5 k6 k7 k8 k9 k10
  have HX' := Lib.hid ((hb.block _ (heap_lt HX.out)).trans HX.out)
  clear HX
  have HX := HX'
  clear HX'
  have HY' := Lib.hid ((hb.block _ (heap_lt HY.out)).trans HY.out)
  clear HY
  have HY := HY'
  clear HY'
  have HB6 := Lib.hid (HB5.out.trans (hb.mono HB5.out.size))
  clear hb
  obtain ⟨m0, m1, m2, m3, m4, m5, m6, m7, m8, m9, m10⟩ := bx11 HX.out
  obtain ⟨k0, k1, k2, k3, k4, k5, k6, k7, k8, k9, k10⟩ := bx11 HY.out
  go_wp2_with fail
  clear CQ
  refine (lnum_any _ _).mono ?_
  rintro e wz ⟨rfl, hw⟩
  have hw := hw.symm
  subst hw
  go_wp2_with fail
  refine (CF.out _ ((HR.out _ HB6.out).small HS1.out (by decide)) ((HQ.out _ HB6.out).small HS2.out (by decide))).mono ?_
  rintro e w7 ⟨rfl, hb⟩
  clear m0 m1 m2 m3 m4 m5 m6 m7 m8 m9 m10
  clear k0 k1 k2 k3 k4 k5 k6 k7 k8 k9 k10
  have HX' := Lib.hid ((hb.block _ (heap_lt HX.out)).trans HX.out)
  clear HX
  have HX := HX'
  clear HX'
  have HY' := Lib.hid ((hb.block _ (heap_lt HY.out)).trans HY.out)
  clear HY
  have HY := HY'
  clear HY'
  have HB7 := Lib.hid (HB6.out.trans (hb.mono HB6.out.size))
  clear hb
  obtain ⟨m0, m1, m2, m3, m4, m5, m6, m7, m8, m9, m10⟩ := bx11 HX.out
  obtain ⟨k0, k1, k2, k3, k4, k5, k6, k7, k8, k9, k10⟩ := bx11 HY.out
  go_wp2_with fail
  clear CF
  refine (L.out _ (HG.out _ HB7.out)).mono ?_
  rintro e w8 ⟨rfl, hb⟩
  clear m0 m1 m2 m3 m4 m5 m6 m7 m8 m9 m10
  clear k0 k1 k2 k3 k4 k5 k6 k7 k8 k9 k10
  have HX' := Lib.hid ((hb.block _ (heap_lt HX.out)).trans HX.out)
  clear HX
  have HX := HX'
  clear HX'
  have HY' := Lib.hid ((hb.block _ (heap_lt HY.out)).trans HY.out)
  clear HY
  have HY := HY'
  clear HY'
  have HB8 := Lib.hid (HB7.out.trans (hb.mono HB7.out.size))
  clear hb
  obtain ⟨m0, m1, m2, m3, m4, m5, m6, m7, m8, m9, m10⟩ := bx11 HX.out
  obtain ⟨k0, k1, k2, k3, k4, k5, k6, k7, k8, k9, k10⟩ := bx11 HY.out
  go_wp2_with fail
  go_ret
  exact ⟨rfl, HB8.out⟩
theorem back_walk (n m : Nt) (ai az bi bz : Option Addr) (ci cz di dz : Nat) (req : Int) (w : World) (h : NtR w ai az n) (h' : NtR w bi bz m) (hG : Gp w) : Calls Tryd.prog 3 #[nA n ai az ci cz, nA m bi bz di dz, .int .i64 req] w (OkL w) := by
  cases hok : lputOk n req
  · obtain ⟨p1, p2, p3⟩ := put_no hok
    exact back_no n m ai az bi bz ci cz di dz req w h h' hG p1 p2 p3
  · have p3 := put_yes hok
    obtain ⟨g1, g2⟩ := parse_put hok
    obtain ⟨s1, s2⟩ := parse_yes g1
    rw [g2] at s1
    have s3 : (lputB n req).size ≤ 1000000 := Nat.le_trans (put_size hok) (by decide)
    cases hom : lputOk m req
    · obtain ⟨r1, r2, r3⟩ := put_no hom
      exact back_mno n m ai az bi bz ci cz di dz req w h h' hG _ _ rfl rfl p3 s1 s2 s3 r1 r2 r3
    · have r3 := put_yes hom
      by_cases e : n = m
      · subst e
        exact back_same n ai az bi bz ci cz di dz req w h h' hG _ _ rfl rfl p3 s1 s2 s3
      · by_cases c : lputC n req = lputC m req
        · have v2 : lputB n req ≠ lputB m req := fun q => e (put_unlike hok hom c q)
          exact back_text n m ai az bi bz ci cz di dz req w h h' hG _ _ _ rfl rfl p3 s1 s2 s3 c.symm rfl r3 e v2
        · exact back_chan n m ai az bi bz ci cz di dz req w h h' hG _ _ _ _ rfl rfl p3 s1 s2 s3 rfl rfl r3 e c
end Go.Proofs.YtclkehfnakhljaaDoor.T
