/- SessionHeard's walk. Conditions: those of each theorem's head. -/
import Derived.Test.YtpipigghbdfihaaDoorL2
import Derived.Test.YtpipigghbdfihaaDoorNc
namespace Go.Proofs.YtpipigghbdfihaaDoor.T
open Go.RowKit Go.Lib

theorem NtR.small {w : World} {ai az : Option Addr} {n : Nt} (h : NtR w ai az n) {M : Nat} (s : Sm M n) (hM : M ≤ 1000000) : NtL w ai az n :=
  ⟨⟨Nat.le_trans s.hn hM, Nat.le_trans s.hx hM, Nat.le_trans s.hd hM, h.hI, h.hZ⟩, Nat.le_trans s.hin hM, fun y hy => ⟨Nat.le_trans (s.hiz y hy).1 hM, Nat.le_trans (s.hiz y hy).2 hM⟩, Nat.le_trans s.hzn hM⟩
/-- A session under way that heard something h ticks ago. -/
def Hv (n d : ByteArray) (s : Ss) (h A : Nat) : Prop := undr s.p = true ∧ s.h = (h : Int) ∧ 0 ≤ s.a ∧ s.a ≤ (A : Int) ∧ s.n = n ∧ s.d = d
theorem Hv.mono {n d : ByteArray} {s : Ss} {h A B : Nat} (H : Hv n d s h A) (hA : A ≤ B) : Hv n d s h B := ⟨H.1, H.2.1, H.2.2.1, by have := H.2.2.2.1; omega, H.2.2.2.2⟩
theorem Hv.six {n d : ByteArray} {s : Ss} {h A : Nat} (H : Hv n d s h A) : (s.p == 6) = false := by
  have h := H.1
  unfold undr at h
  simp only [Bool.and_eq_true, decide_eq_true_eq] at h
  exact beqf (by omega)
theorem tc_hv {n d : ByteArray} {s : Ss} {h A : Nat} (H : Hv n d s h A) (h1 : h + 1 < 90) : Hv n d (tc s).1 (h + 1) (A + 1) := by
  obtain ⟨hu, hh, h2, h3, h4, h5⟩ := H
  unfold tc
  rw [if_neg (by rw [hu]; decide), if_neg (by omega)]
  split
  · exact ⟨hu, by show s.h + 1 = _; omega, Int.le_refl _, by show (0 : Int) ≤ _; omega, h4, h5⟩
  · exact ⟨hu, by show s.h + 1 = _; omega, by show 0 ≤ s.a + 1; omega, by show s.a + 1 ≤ _; omega, h4, h5⟩
theorem tc_end {n d : ByteArray} {s : Ss} {h A : Nat} (H : Hv n d s h A) (h1 : h + 1 = 90) : (tc s).1.p = 6 ∧ (tc s).1.e = 200 := by
  obtain ⟨hu, hh, h2, h3, h4, h5⟩ := H
  unfold tc
  rw [if_neg (by rw [hu]; decide), if_pos (by omega)]
  exact ⟨rfl, rfl⟩
theorem tk_hv {n d : ByteArray} {s : Ss} {h A : Nat} {x : Nt} (H : Hv n d s h A) (h3 : ¬ x.k = 3) (h8 : ¬ x.k = 8) : Hv n d (tk s x).1 0 A := by
  obtain ⟨hu, hh, g2, g3, g4, g5⟩ := H
  have i0 : (0 : Int) ≤ (A : Int) := by omega
  unfold tk
  rw [if_neg (by rw [hu]; decide), if_neg h3]
  split
  · exact ⟨rfl, rfl, Int.le_refl _, i0, g4, g5⟩
  rw [if_neg (fun h => h8 h.2.1)]
  split
  · exact ⟨rfl, rfl, Int.le_refl _, i0, g4, g5⟩
  split
  · exact ⟨rfl, rfl, Int.le_refl _, i0, g4, g5⟩
  split
  · exact ⟨hu, rfl, g2, g3, g4, g5⟩
  · exact ⟨hu, rfl, g2, g3, g4, g5⟩
/-- What a step gives: a session of which P holds. -/
def StE (P : Ss → Prop) (w : World) (e : Ending) (w' : World) : Prop := ∃ (t : Ss) (o : So) (a b : Option Addr) (k m : Nat), e = .returned (.tuple #[.agg #[.int .i64 t.p, .string t.n, .string t.d, .int .i64 t.s, .int .i64 t.t, .int .i64 t.c, .int .i64 t.h, .int .i64 t.a, .int .i64 t.e], .agg #[.slice a o.m.length k, .bool o.f, .slice b o.u.length m]]) ∧ Below w.heap.size w w' ∧ P t
theorem StQ.ex {x : Ss × So} {w : World} {e : Ending} {w' : World} (h : StQ x w e w') {P : Ss → Prop} (hP : P x.1) : StE P w e w' := by
  obtain ⟨a, b, k, m, he, hb, _, _⟩ := h
  exact ⟨x.1, x.2, a, b, k, m, he, hb, hP⟩
theorem hv_take {n d : ByteArray} (x : Nt) (ai az : Option Addr) (ci cz : Nat) (s : Ss) (h A : Nat) (W : World) (hn : NtL W ai az x) (h1 : n.size ≤ 20000) (h2 : d.size ≤ 20000) (hx : x.d.size ≤ 20000) (hG : Gl W) (h3 : ¬ x.k = 3) (h8 : ¬ x.k = 8) (H : Hv n d s h A) : Calls Tryd.prog 12 #[.agg #[.int .i64 s.p, .string s.n, .string s.d, .int .i64 s.s, .int .i64 s.t, .int .i64 s.c, .int .i64 s.h, .int .i64 s.a, .int .i64 s.e], .agg #[.int .i64 x.k, .string x.n, .string x.x, .string x.d, .int .i64 x.c, .int .i64 x.s, .int .i64 x.e, .int .i64 x.t, .bool x.o, .slice ai x.l.length ci, .slice az x.z.length cz]] W (StE (fun t => Hv n d t 0 A) W) :=
  (take_any s x ai az ci cz W hn (by rw [H.2.2.2.2.1]; omega) (by rw [H.2.2.2.2.2]; exact h2) hx hG).mono fun e W' hq => hq.ex (tk_hv H h3 h8)
theorem hv_tick {n d : ByteArray} (s : Ss) (h A : Nat) (W : World) (H : Hv n d s h A) (hA : A ≤ 100000) (h1 : h + 1 < 90) : Calls Tryd.prog 11 #[.agg #[.int .i64 s.p, .string s.n, .string s.d, .int .i64 s.s, .int .i64 s.t, .int .i64 s.c, .int .i64 s.h, .int .i64 s.a, .int .i64 s.e]] W (StE (fun t => Hv n d t (h + 1) (A + 1)) W) :=
  (tick_any s W ⟨by have := H.2.1; omega, by have := H.2.1; omega⟩ ⟨H.2.2.1, by have := H.2.2.2.1; omega⟩).mono fun e W' hq => hq.ex (tc_hv H h1)
theorem hv_end {n d : ByteArray} (s : Ss) (h A : Nat) (W : World) (H : Hv n d s h A) (hA : A ≤ 100000) (h1 : h + 1 = 90) : Calls Tryd.prog 11 #[.agg #[.int .i64 s.p, .string s.n, .string s.d, .int .i64 s.s, .int .i64 s.t, .int .i64 s.c, .int .i64 s.h, .int .i64 s.a, .int .i64 s.e]] W (StE (fun t => t.p = 6 ∧ t.e = 200) W) :=
  (tick_any s W ⟨by have := H.2.1; omega, by have := H.2.1; omega⟩ ⟨H.2.2.1, by have := H.2.2.2.1; omega⟩).mono fun e W' hq => hq.ex (tc_end H h1)
theorem hv_start {n d : ByteArray} {s t c : Int} (h : stE n d s t c = 0) : Hv n d (stS n d s t c) 0 0 := by
  have ho : stOk n d s t c = true := by
    cases hc : stOk n d s t c
    · unfold stE at h
      rw [hc] at h
      exact absurd h (by decide)
    · rfl
  unfold stS
  rw [if_pos ho]
  exact ⟨rfl, rfl, Int.le_refl _, Int.le_refl _, rfl, rfl⟩
/-- What begin gives. -/
def BgE (n d : ByteArray) (w : World) (e : Ending) (w' : World) : Prop := ∃ (T : Ss) (o : So) (a b : Option Addr) (k m : Nat) (x : Int), e = .returned (.tuple #[.agg #[.int .i64 T.p, .string T.n, .string T.d, .int .i64 T.s, .int .i64 T.t, .int .i64 T.c, .int .i64 T.h, .int .i64 T.a, .int .i64 T.e], .agg #[.slice a o.m.length k, .bool o.f, .slice b o.u.length m], .int .i64 x]) ∧ Below w.heap.size w w' ∧ (x = 0 → Hv n d T 0 0)
theorem begin_e (n d : ByteArray) (s t c : Int) (w : World) (hn : n.size ≤ 1000000) (hd : d.size ≤ 1000000) : Calls Tryd.prog 8 #[.agg #[.string n, .string d, .int .i64 s, .int .i64 t, .int .i64 c]] w (BgE n d w) :=
  (begin_any n d s t c w hn hd).mono fun _ _ ⟨a, b, k, m, he, hb, _, _⟩ => ⟨_, _, a, b, k, m, _, he, hb, hv_start⟩
set_option maxRecDepth 100000 in
set_option maxHeartbeats 8000000 in
theorem heard_1 (n d : ByteArray) (s0 t0 c0 : Int) (aw : Option Addr) (l : List Int) (cw : Nat) (x : Nt) (ai az : Option Addr) (ci cz : Nat) (w : World) (hn : n.size ≤ 140737488351232) (hd : d.size ≤ 140737488351232) (hG : Gl w) (h1 : 12000 < n.size + d.size) : Calls Tryd.prog 4 #[.agg #[.string n, .string d, .int .i64 s0, .int .i64 t0, .int .i64 c0], .slice aw l.length cw, .agg #[.int .i64 x.k, .string x.n, .string x.x, .string x.d, .int .i64 x.c, .int .i64 x.s, .int .i64 x.e, .int .i64 x.t, .bool x.o, .slice ai x.l.length ci, .slice az x.z.length cz]] w (OkL w) := by
  have LV := Lib.hid (fun W (hb : Below w.heap.size w W) => live_any W (hG.below hb))
  have g1 : decide ((12000 : Int) < (n.size : Int) + (d.size : Int)) = true := by rw [decide_eq_true_iff]; omega
  have g2 : (12000 : Int) < (n.size : Int) + (d.size : Int) := by omega
  clear hG h1
  obtain ⟨HB, HX, HN⟩ := bxTwo w #[.string n, .string d, .int .i64 s0, .int .i64 t0, .int .i64 c0] 23 #[.int .i64 x.k, .string x.n, .string x.x, .string x.d, .int .i64 x.c, .int .i64 x.s, .int .i64 x.e, .int .i64 x.t, .bool x.o, .slice ai x.l.length ci, .slice az x.z.length cz] 39
  obtain ⟨m0, m1, m2, m3, m4⟩ := bx5 HX.out
  obtain ⟨a0, a1, a2, a3, a4, a5, a6, a7, a8, a9, a10⟩ := bx11 HN.out
  go_enter Tryd.func4, Tryd.ntmps4
  go_wp2_with fail
  refine (LV.out _ HB.out).mono ?_
  rintro e w9 ⟨rfl, hb9⟩
  go_wp2_with fail
  go_ret
  exact ⟨rfl, HB.out.trans (hb9.mono HB.out.size)⟩
set_option maxRecDepth 100000 in
set_option maxHeartbeats 8000000 in
theorem heard_2 (n d : ByteArray) (s0 t0 c0 : Int) (aw : Option Addr) (l : List Int) (cw : Nat) (x : Nt) (ai az : Option Addr) (ci cz : Nat) (w : World) (hn : n.size ≤ 140737488351232) (hd : d.size ≤ 140737488351232) (hl : l.length ≤ 140737488351232) (hG : Gl w) (h1 : ¬ 12000 < n.size + d.size) (h2 : 20 < l.length) : Calls Tryd.prog 4 #[.agg #[.string n, .string d, .int .i64 s0, .int .i64 t0, .int .i64 c0], .slice aw l.length cw, .agg #[.int .i64 x.k, .string x.n, .string x.x, .string x.d, .int .i64 x.c, .int .i64 x.s, .int .i64 x.e, .int .i64 x.t, .bool x.o, .slice ai x.l.length ci, .slice az x.z.length cz]] w (OkL w) := by
  have LV := Lib.hid (fun W (hb : Below w.heap.size w W) => live_any W (hG.below hb))
  have g1 : decide ((12000 : Int) < (n.size : Int) + (d.size : Int)) = false := by rw [decide_eq_false_iff_not]; omega
  have g2 : ¬ (12000 : Int) < (n.size : Int) + (d.size : Int) := by omega
  have g3 : decide ((20 : Int) < (l.length : Int)) = true := by rw [decide_eq_true_iff]; omega
  have g4 : (20 : Int) < (l.length : Int) := by omega
  clear hG h1 h2
  obtain ⟨HB, HX, HN⟩ := bxTwo w #[.string n, .string d, .int .i64 s0, .int .i64 t0, .int .i64 c0] 23 #[.int .i64 x.k, .string x.n, .string x.x, .string x.d, .int .i64 x.c, .int .i64 x.s, .int .i64 x.e, .int .i64 x.t, .bool x.o, .slice ai x.l.length ci, .slice az x.z.length cz] 39
  obtain ⟨m0, m1, m2, m3, m4⟩ := bx5 HX.out
  obtain ⟨a0, a1, a2, a3, a4, a5, a6, a7, a8, a9, a10⟩ := bx11 HN.out
  go_enter Tryd.func4, Tryd.ntmps4
  go_wp2_with fail
  refine (LV.out _ HB.out).mono ?_
  rintro e w9 ⟨rfl, hb9⟩
  go_wp2_with fail
  go_ret
  exact ⟨rfl, HB.out.trans (hb9.mono HB.out.size)⟩
set_option maxRecDepth 100000 in
set_option maxHeartbeats 8000000 in
theorem heard_3 (n d : ByteArray) (s0 t0 c0 : Int) (aw : Option Addr) (l : List Int) (cw : Nat) (x : Nt) (ai az : Option Addr) (ci cz : Nat) (w : World) (hn : n.size ≤ 140737488351232) (hd : d.size ≤ 140737488351232) (hl : l.length ≤ 140737488351232) (hG : Gl w) (hA : CdS w aw l) (hR : NtR w ai az x) (h1 : ¬ 12000 < n.size + d.size) (h2 : ¬ 20 < l.length) : Calls Tryd.prog 4 #[.agg #[.string n, .string d, .int .i64 s0, .int .i64 t0, .int .i64 c0], .slice aw l.length cw, .agg #[.int .i64 x.k, .string x.n, .string x.x, .string x.d, .int .i64 x.c, .int .i64 x.s, .int .i64 x.e, .int .i64 x.t, .bool x.o, .slice ai x.l.length ci, .slice az x.z.length cz]] w (OkL w) := by
  have LV := Lib.hid (fun W (hb : Below w.heap.size w W) => live_any W (hG.below hb))
  have HG := Lib.hid (fun W (hb : Below w.heap.size w W) => hG.below hb)
  have HNR := Lib.hid (fun W (hb : Below w.heap.size w W) => hR.below hb)
  have HA := Lib.hid hA
  have g1 : decide ((12000 : Int) < (n.size : Int) + (d.size : Int)) = false := by rw [decide_eq_false_iff_not]; omega
  have g2 : ¬ (12000 : Int) < (n.size : Int) + (d.size : Int) := by omega
  have g3 : decide ((20 : Int) < (l.length : Int)) = false := by rw [decide_eq_false_iff_not]; omega
  have g4 : ¬ (20 : Int) < (l.length : Int) := by omega
  have HS1 : Hid (n.size ≤ 12000 ∧ d.size ≤ 12000 ∧ l.length ≤ 20) := by show _ ∧ _ ∧ _; omega
  have BG := Lib.hid (fun W => begin_e n d s0 t0 c0 W (by omega) (by omega))
  have CW := Lib.hid (fun W (hb : Below w.heap.size w W) => weight_any x ai az ci cz W (hR.below hb))
  clear hG hR hA h1 h2
  obtain ⟨HB, HX, HN⟩ := bxTwo w #[.string n, .string d, .int .i64 s0, .int .i64 t0, .int .i64 c0] 23 #[.int .i64 x.k, .string x.n, .string x.x, .string x.d, .int .i64 x.c, .int .i64 x.s, .int .i64 x.e, .int .i64 x.t, .bool x.o, .slice ai x.l.length ci, .slice az x.z.length cz] 39
  obtain ⟨m0, m1, m2, m3, m4⟩ := bx5 HX.out
  obtain ⟨a0, a1, a2, a3, a4, a5, a6, a7, a8, a9, a10⟩ := bx11 HN.out
  go_enter Tryd.func4, Tryd.ntmps4
  go_wp2_with fail
  refine (CW.out _ HB.out).mono ?_
  rintro e w1 ⟨mw, rfl, hb, hs, hm⟩
  clear m0 m1 m2 m3 m4
  clear a0 a1 a2 a3 a4 a5 a6 a7 a8 a9 a10
  replace HX := kpB hb HX
  replace HN := kpB hb HN
  have HB1 := Lib.hid (HB.out.trans (hb.mono HB.out.size))
  have HSM := Lib.hid hs
  clear hb HB CW hs
  obtain ⟨m0, m1, m2, m3, m4⟩ := bx5 HX.out
  obtain ⟨a0, a1, a2, a3, a4, a5, a6, a7, a8, a9, a10⟩ := bx11 HN.out
  by_cases hw : 12000 < mw
  · have g5 : decide ((12000 : Int) < (mw : Int)) = true := by rw [decide_eq_true_iff]; omega
    have g6 : (12000 : Int) < (mw : Int) := by omega
    clear hw hm
    go_wp2_with fail
    refine (LV.out _ HB1.out).mono ?_
    rintro e w9 ⟨rfl, hb9⟩
    go_wp2_with fail
    go_ret
    exact ⟨rfl, HB1.out.trans (hb9.mono HB1.out.size)⟩
  have g5 : decide ((12000 : Int) < (mw : Int)) = false := by rw [decide_eq_false_iff_not]; omega
  have g6 : ¬ (12000 : Int) < (mw : Int) := by omega
  have HSm := Lib.hid (HSM.out (by omega))
  clear hw hm HSM
  by_cases k3 : x.k = 3
  · have q3 : (x.k == 3) = true := by rw [k3]; rfl
    clear k3 HSm
    go_wp2_with fail
    refine (LV.out _ HB1.out).mono ?_
    rintro e w9 ⟨rfl, hb9⟩
    go_wp2_with fail
    go_ret
    exact ⟨rfl, HB1.out.trans (hb9.mono HB1.out.size)⟩
  have q3 := beqf k3
  by_cases k8 : x.k = 8
  · have q8 : (x.k == 8) = true := by rw [k8]; rfl
    clear k3 k8 HSm
    go_wp2_with fail
    refine (LV.out _ HB1.out).mono ?_
    rintro e w9 ⟨rfl, hb9⟩
    go_wp2_with fail
    go_ret
    exact ⟨rfl, HB1.out.trans (hb9.mono HB1.out.size)⟩
  have q8 := beqf k8
  have CK : Hid (∀ (s : Ss) (h A : Nat) (W : World), Hv n d s h A → Below w.heap.size w W → Calls Tryd.prog 12 #[.agg #[.int .i64 s.p, .string s.n, .string s.d, .int .i64 s.s, .int .i64 s.t, .int .i64 s.c, .int .i64 s.h, .int .i64 s.a, .int .i64 s.e], .agg #[.int .i64 x.k, .string x.n, .string x.x, .string x.d, .int .i64 x.c, .int .i64 x.s, .int .i64 x.e, .int .i64 x.t, .bool x.o, .slice ai x.l.length ci, .slice az x.z.length cz]] W (StE (fun t => Hv n d t 0 A) W)) := fun s h A W H hb => hv_take x ai az ci cz s h A W ((HNR.out W hb).small HSm.out (by decide)) (by have := HS1.out; omega) (by have := HS1.out; omega) (Nat.le_trans HSm.out.hd (by decide)) (HG.out W hb) k3 k8 H
  clear k3 k8 HSm HNR HG
  go_wp2_with fail
  refine (BG.out _).mono ?_
  rintro e w2 ⟨T, so, a, b, k, m, xe, rfl, hb, hT⟩
  clear m0 m1 m2 m3 m4
  clear a0 a1 a2 a3 a4 a5 a6 a7 a8 a9 a10
  replace HN := kpB hb HN
  have HC2 := Lib.hid (HB1.out.trans (hb.mono HB1.out.size))
  have HT := Lib.hid hT
  clear hb HB1 HX BG hT q3 q8 g1 g2 g3 g4 g5 g6
  go_upto_region 4 with fail
  have HN2 := heap_lt HN.out
  obtain ⟨HE, HS, -⟩ := bxTwo w2 #[.int .i64 T.p, .string T.n, .string T.d, .int .i64 T.s, .int .i64 T.t, .int .i64 T.c, .int .i64 T.h, .int .i64 T.a, .int .i64 T.e] 28 #[.slice a so.m.length k, .bool so.f, .slice b so.u.length m] 31
  replace HN := kpB HE.out HN
  have HB3 := Lib.hid (HC2.out.trans (HE.out.mono HC2.out.size))
  have hA1 : w.heap.size ≤ w2.heap.size := HC2.out.size
  have hN1 : w.heap.size + 1 < w2.heap.size := HN2
  clear HE HC2
  generalize ((w2.alloc (.cells #[.int .i64 T.p, .string T.n, .string T.d, .int .i64 T.s, .int .i64 T.t, .int .i64 T.c, .int .i64 T.h, .int .i64 T.a, .int .i64 T.e] 28)).alloc (.cells #[.slice a so.m.length k, .bool so.f, .slice b so.u.length m] 31)) = W3 at HN HS HB3 ⊢
  generalize w2.heap.size = A1 at HS hA1 hN1 ⊢
  by_cases he : xe = 0
  rotate_left
  · have q0 : (!(xe == 0)) = true := by rw [beqf he]; rfl
    have q1 : (xe == 0) = false := beqf he
    clear he
    go_wp2_with fail
    refine (LV.out _ HB3.out).mono ?_
    rintro e w9 ⟨rfl, hb9⟩
    go_wp2_with fail
    go_ret
    exact ⟨rfl, HB3.out.trans (hb9.mono HB3.out.size)⟩
  subst he
  replace HT := Lib.hid (HT.out rfl)
  go_wp2_with fail
  go_loopw [10] (fun i wr => ∃ (j : Nat) (s : Ss), i = .int .i64 j ∧ j ≤ l.length ∧ Hid (Hv n d s 0 (j * 100)) ∧ Hid (wr.heap[A1]? = some (.cells #[.int .i64 s.p, .string s.n, .string s.d, .int .i64 s.s, .int .i64 s.t, .int .i64 s.c, .int .i64 s.h, .int .i64 s.a, .int .i64 s.e] 28 (0, 0))) ∧ Hid (wr.heap[w.heap.size + 1]? = some (.cells #[.int .i64 x.k, .string x.n, .string x.x, .string x.d, .int .i64 x.c, .int .i64 x.s, .int .i64 x.e, .int .i64 x.t, .bool x.o, .slice ai x.l.length ci, .slice az x.z.length cz] 39 (0, 0))) ∧ Hid (Below w.heap.size w wr)) (fun i _ => l.length - (RowKit.intOf i).toNat)
  case atStart => exact ⟨0, T, rfl, Nat.zero_le _, HT, HS, HN, HB3⟩
  case round =>
    clear HS HN HB3 HT
    obtain ⟨j, s, rfl, hj, HV, HS, HN, HB⟩ := hrel
    by_cases hlt : j < l.length
    · obtain ⟨bw, ow, rfl, hc0⟩ := HA.out j hlt
      have hlb := World.block_lt_of_cell? _ _ hc0
      go_wp2_with fail
      go_loopw [11] (fun i wr => ∃ (y : Nat) (s : Ss), i = .int .i64 y ∧ y ≤ 89 ∧ Hid (Hv n d s y (j * 100 + y)) ∧ Hid (wr.heap[A1]? = some (.cells #[.int .i64 s.p, .string s.n, .string s.d, .int .i64 s.s, .int .i64 s.t, .int .i64 s.c, .int .i64 s.h, .int .i64 s.a, .int .i64 s.e] 28 (0, 0))) ∧ Hid (wr.heap[w.heap.size + 1]? = some (.cells #[.int .i64 x.k, .string x.n, .string x.x, .string x.d, .int .i64 x.c, .int .i64 x.s, .int .i64 x.e, .int .i64 x.t, .bool x.o, .slice ai x.l.length ci, .slice az x.z.length cz] 39 (0, 0))) ∧ Hid (Below w.heap.size w wr)) (fun i _ => 89 - (RowKit.intOf i).toNat)
      case atStart => exact ⟨0, s, rfl, Nat.zero_le _, HV, HS, HN, HB⟩
      case round =>
        clear HS HN HB HV
        obtain ⟨y, s, rfl, hy, HV, HS, HN, HB⟩ := hrel
        have hc : wr.cell? ⟨bw, ow + j, none⟩ = some (.int .i64 l[j]) := keep_cell HB.out hc0 hlb
        generalize l[j] = z at hc hc0
        by_cases hz : (y : Int) < z
        rotate_left
        · have i1 : decide ((y : Int) < z) = false := decide_eq_false hz
          obtain ⟨a0, a1, a2, a3, a4, a5, a6, a7, a8, a9, a10⟩ := bx11 HN.out
          obtain ⟨m0, m1, m2, m3, m4, m5, m6, m7, m8⟩ := bx9 HS.out
          go_wp2_with fail
          refine (CK.out s y (j * 100 + y) _ HV.out HB.out).mono ?_
          rintro e wt ⟨t, o, a, b, k, m, rfl, hb, hP⟩
          clear m0 m1 m2 m3 m4 m5 m6 m7 m8
          replace HS := kpB hb HS
          replace HN := kpB hb HN
          have HBn := Lib.hid (HB.out.trans (hb.mono HB.out.size))
          have HP := Lib.hid hP
          clear hb HB hP HV
          obtain ⟨m0, m1, m2, m3, m4, m5, m6, m7, m8⟩ := bx9 HS.out
          obtain ⟨f0, f1, f2, f3, f4, f5, f6, f7, f8⟩ := bx9f HS.out
          have hPz : A1 < wt.heap.size := heap_lt HS.out
          go_wp2_with fail
          have HS2 := Lib.hid (st9 HS.out (.int .i64 t.p) (.string t.n) (.string t.d) (.int .i64 t.s) (.int .i64 t.t) (.int .i64 t.c) (.int .i64 t.h) (.int .i64 t.a) (.int .i64 t.e))
          have HN2 := Lib.hid ((st9k (A := A1) (by omega) (.int .i64 t.p) (.string t.n) (.string t.d) (.int .i64 t.s) (.int .i64 t.t) (.int .i64 t.c) (.int .i64 t.h) (.int .i64 t.a) (.int .i64 t.e)).trans HN.out)
          have HB2 := Lib.hid (st9b HBn.out hA1 (.int .i64 t.p) (.string t.n) (.string t.d) (.int .i64 t.s) (.int .i64 t.t) (.int .i64 t.c) (.int .i64 t.h) (.int .i64 t.a) (.int .i64 t.e))
          go_roundw
          case rel => exact ⟨j + 1, t, by go_num, by omega, Lib.hid (HP.out.mono (by omega)), HS2, HN2, HB2⟩
          case measure => simp [RowKit.intOf]; omega
        have i1 : decide ((y : Int) < z) = true := decide_eq_true hz
        by_cases h89 : y < 89
        rotate_left
        · have i3 : decide ((y : Int) < 89) = false := by rw [decide_eq_false_iff_not]; omega
          have i4 : ¬ (y : Int) < 89 := by omega
          obtain ⟨a0, a1, a2, a3, a4, a5, a6, a7, a8, a9, a10⟩ := bx11 HN.out
          obtain ⟨m0, m1, m2, m3, m4, m5, m6, m7, m8⟩ := bx9 HS.out
          go_wp2_with fail
          refine (CK.out s y (j * 100 + y) _ HV.out HB.out).mono ?_
          rintro e wt ⟨t, o, a, b, k, m, rfl, hb, hP⟩
          clear m0 m1 m2 m3 m4 m5 m6 m7 m8
          replace HS := kpB hb HS
          replace HN := kpB hb HN
          have HBn := Lib.hid (HB.out.trans (hb.mono HB.out.size))
          have HP := Lib.hid hP
          clear hb HB hP HV
          obtain ⟨m0, m1, m2, m3, m4, m5, m6, m7, m8⟩ := bx9 HS.out
          obtain ⟨f0, f1, f2, f3, f4, f5, f6, f7, f8⟩ := bx9f HS.out
          have hPz : A1 < wt.heap.size := heap_lt HS.out
          go_wp2_with fail
          have HS2 := Lib.hid (st9 HS.out (.int .i64 t.p) (.string t.n) (.string t.d) (.int .i64 t.s) (.int .i64 t.t) (.int .i64 t.c) (.int .i64 t.h) (.int .i64 t.a) (.int .i64 t.e))
          have HN2 := Lib.hid ((st9k (A := A1) (by omega) (.int .i64 t.p) (.string t.n) (.string t.d) (.int .i64 t.s) (.int .i64 t.t) (.int .i64 t.c) (.int .i64 t.h) (.int .i64 t.a) (.int .i64 t.e)).trans HN.out)
          have HB2 := Lib.hid (st9b HBn.out hA1 (.int .i64 t.p) (.string t.n) (.string t.d) (.int .i64 t.s) (.int .i64 t.t) (.int .i64 t.c) (.int .i64 t.h) (.int .i64 t.a) (.int .i64 t.e))
          go_roundw
          case rel => exact ⟨j + 1, t, by go_num, by omega, Lib.hid (HP.out.mono (by omega)), HS2, HN2, HB2⟩
          case measure => simp [RowKit.intOf]; omega
        have i3 : decide ((y : Int) < 89) = true := by rw [decide_eq_true_iff]; omega
        have i4 : (y : Int) < 89 := by omega
        obtain ⟨m0, m1, m2, m3, m4, m5, m6, m7, m8⟩ := bx9 HS.out
        go_wp2_with fail
        refine ((hv_tick s y (j * 100 + y) _ HV.out (by have := HS1.out; omega) (by omega))).mono ?_
        rintro e wt ⟨t, o, a, b, k, m, rfl, hb, hP⟩
        clear m0 m1 m2 m3 m4 m5 m6 m7 m8
        replace HS := kpB hb HS
        replace HN := kpB hb HN
        have HBn := Lib.hid (HB.out.trans (hb.mono HB.out.size))
        have HP := Lib.hid hP
        clear hb HB hP HV
        obtain ⟨m0, m1, m2, m3, m4, m5, m6, m7, m8⟩ := bx9 HS.out
        obtain ⟨f0, f1, f2, f3, f4, f5, f6, f7, f8⟩ := bx9f HS.out
        have hPz : A1 < wt.heap.size := heap_lt HS.out
        go_wp2_with fail
        have HS2 := Lib.hid (st9 HS.out (.int .i64 t.p) (.string t.n) (.string t.d) (.int .i64 t.s) (.int .i64 t.t) (.int .i64 t.c) (.int .i64 t.h) (.int .i64 t.a) (.int .i64 t.e))
        have HN2 := Lib.hid ((st9k (A := A1) (by omega) (.int .i64 t.p) (.string t.n) (.string t.d) (.int .i64 t.s) (.int .i64 t.t) (.int .i64 t.c) (.int .i64 t.h) (.int .i64 t.a) (.int .i64 t.e)).trans HN.out)
        have HB2 := Lib.hid (st9b HBn.out hA1 (.int .i64 t.p) (.string t.n) (.string t.d) (.int .i64 t.s) (.int .i64 t.t) (.int .i64 t.c) (.int .i64 t.h) (.int .i64 t.a) (.int .i64 t.e))
        go_roundw
        case rel => exact ⟨y + 1, t, by go_num, by omega, HP, HS2, HN2, HB2⟩
        case measure => simp [RowKit.intOf]; omega
    · have q6 := HV.out.six
      obtain ⟨m0, m1, m2, m3, m4, m5, m6, m7, m8⟩ := bx9 HS.out
      go_wp2_with fail
      clear m0 m1 m2 m3 m4 m5 m6 m7 m8
      clear q6
      go_loopw [12] (fun i wr => ∃ (y : Nat) (s : Ss), i = .int .i64 y ∧ y ≤ 90 ∧ Hid (y < 90 → Hv n d s y (2000 + y)) ∧ Hid (y = 90 → s.p = 6 ∧ s.e = 200) ∧ Hid (wr.heap[A1]? = some (.cells #[.int .i64 s.p, .string s.n, .string s.d, .int .i64 s.s, .int .i64 s.t, .int .i64 s.c, .int .i64 s.h, .int .i64 s.a, .int .i64 s.e] 28 (0, 0))) ∧ Hid (wr.heap[w.heap.size + 1]? = some (.cells #[.int .i64 x.k, .string x.n, .string x.x, .string x.d, .int .i64 x.c, .int .i64 x.s, .int .i64 x.e, .int .i64 x.t, .bool x.o, .slice ai x.l.length ci, .slice az x.z.length cz] 39 (0, 0))) ∧ Hid (Below w.heap.size w wr)) (fun i _ => 90 - (RowKit.intOf i).toNat)
      case atStart => exact ⟨0, s, rfl, Nat.zero_le _, Lib.hid (fun _ => HV.out.mono (by have := HS1.out; omega)), Lib.hid (fun h => absurd h (by decide)), HS, HN, HB⟩
      case round =>
        clear HS HN HB HV
        obtain ⟨y, s, rfl, hy, HV, HE, HS, HN, HB⟩ := hrel
        by_cases h90 : y < 90
        · replace HV := Lib.hid (HV.out h90)
          clear HE
          have q6 := HV.out.six
          by_cases h89 : y + 1 < 90
          · obtain ⟨m0, m1, m2, m3, m4, m5, m6, m7, m8⟩ := bx9 HS.out
            go_wp2_with fail
            refine ((hv_tick s y (2000 + y) _ HV.out (by omega) h89)).mono ?_
            rintro e wt ⟨t, o, a, b, k, m, rfl, hb, hP⟩
            clear m0 m1 m2 m3 m4 m5 m6 m7 m8
            replace HS := kpB hb HS
            replace HN := kpB hb HN
            have HBn := Lib.hid (HB.out.trans (hb.mono HB.out.size))
            have HP := Lib.hid hP
            clear hb HB hP HV
            obtain ⟨m0, m1, m2, m3, m4, m5, m6, m7, m8⟩ := bx9 HS.out
            obtain ⟨f0, f1, f2, f3, f4, f5, f6, f7, f8⟩ := bx9f HS.out
            have hPz : A1 < wt.heap.size := heap_lt HS.out
            clear q6
            go_wp2_with fail
            have HS2 := Lib.hid (st9 HS.out (.int .i64 t.p) (.string t.n) (.string t.d) (.int .i64 t.s) (.int .i64 t.t) (.int .i64 t.c) (.int .i64 t.h) (.int .i64 t.a) (.int .i64 t.e))
            have HN2 := Lib.hid ((st9k (A := A1) (by omega) (.int .i64 t.p) (.string t.n) (.string t.d) (.int .i64 t.s) (.int .i64 t.t) (.int .i64 t.c) (.int .i64 t.h) (.int .i64 t.a) (.int .i64 t.e)).trans HN.out)
            have HB2 := Lib.hid (st9b HBn.out hA1 (.int .i64 t.p) (.string t.n) (.string t.d) (.int .i64 t.s) (.int .i64 t.t) (.int .i64 t.c) (.int .i64 t.h) (.int .i64 t.a) (.int .i64 t.e))
            go_roundw
            case rel => exact ⟨y + 1, t, by go_num, by omega, Lib.hid (fun _ => HP.out), Lib.hid (fun h => absurd h (by omega)), HS2, HN2, HB2⟩
            case measure => simp [RowKit.intOf]; omega
          · obtain ⟨m0, m1, m2, m3, m4, m5, m6, m7, m8⟩ := bx9 HS.out
            go_wp2_with fail
            refine ((hv_end s y (2000 + y) _ HV.out (by omega) (by omega))).mono ?_
            rintro e wt ⟨t, o, a, b, k, m, rfl, hb, hP⟩
            clear m0 m1 m2 m3 m4 m5 m6 m7 m8
            replace HS := kpB hb HS
            replace HN := kpB hb HN
            have HBn := Lib.hid (HB.out.trans (hb.mono HB.out.size))
            have HP := Lib.hid hP
            clear hb HB hP HV
            obtain ⟨m0, m1, m2, m3, m4, m5, m6, m7, m8⟩ := bx9 HS.out
            obtain ⟨f0, f1, f2, f3, f4, f5, f6, f7, f8⟩ := bx9f HS.out
            have hPz : A1 < wt.heap.size := heap_lt HS.out
            clear q6
            go_wp2_with fail
            have HS2 := Lib.hid (st9 HS.out (.int .i64 t.p) (.string t.n) (.string t.d) (.int .i64 t.s) (.int .i64 t.t) (.int .i64 t.c) (.int .i64 t.h) (.int .i64 t.a) (.int .i64 t.e))
            have HN2 := Lib.hid ((st9k (A := A1) (by omega) (.int .i64 t.p) (.string t.n) (.string t.d) (.int .i64 t.s) (.int .i64 t.t) (.int .i64 t.c) (.int .i64 t.h) (.int .i64 t.a) (.int .i64 t.e)).trans HN.out)
            have HB2 := Lib.hid (st9b HBn.out hA1 (.int .i64 t.p) (.string t.n) (.string t.d) (.int .i64 t.s) (.int .i64 t.t) (.int .i64 t.c) (.int .i64 t.h) (.int .i64 t.a) (.int .i64 t.e))
            go_roundw
            case rel => exact ⟨y + 1, t, by go_num, by omega, Lib.hid (fun h => absurd h (by omega)), Lib.hid (fun _ => HP.out), HS2, HN2, HB2⟩
            case measure => simp [RowKit.intOf]; omega
        · have hye : y = 90 := by omega
          obtain ⟨hp6, he2⟩ := HE.out hye
          have q6 : (s.p == 6) = true := by rw [hp6]; rfl
          have q2 : (s.e == 200) = true := by rw [he2]; rfl
          clear hp6 he2 HE HV
          obtain ⟨m0, m1, m2, m3, m4, m5, m6, m7, m8⟩ := bx9 HS.out
          go_wp2_with fail
          refine (LV.out _ HB.out).mono ?_
          rintro e w9 ⟨rfl, hb9⟩
          go_wp2_with fail
          go_ret
          exact ⟨rfl, HB.out.trans (hb9.mono HB.out.size)⟩
theorem heard_walk (n d : ByteArray) (s0 t0 c0 : Int) (aw : Option Addr) (l : List Int) (cw : Nat) (x : Nt) (ai az : Option Addr) (ci cz : Nat) (w : World) (hn : n.size ≤ 140737488351232) (hd : d.size ≤ 140737488351232) (hl : l.length ≤ 140737488351232) (hG : Gl w) (hA : CdS w aw l) (hR : NtR w ai az x) : Calls Tryd.prog 4 #[.agg #[.string n, .string d, .int .i64 s0, .int .i64 t0, .int .i64 c0], .slice aw l.length cw, .agg #[.int .i64 x.k, .string x.n, .string x.x, .string x.d, .int .i64 x.c, .int .i64 x.s, .int .i64 x.e, .int .i64 x.t, .bool x.o, .slice ai x.l.length ci, .slice az x.z.length cz]] w (OkL w) := by
  by_cases h1 : 12000 < n.size + d.size
  · exact heard_1 n d s0 t0 c0 aw l cw x ai az ci cz w hn hd hG h1
  by_cases h2 : 20 < l.length
  · exact heard_2 n d s0 t0 c0 aw l cw x ai az ci cz w hn hd hl hG h1 h2
  exact heard_3 n d s0 t0 c0 aw l cw x ai az ci cz w hn hd hl hG hA hR h1 h2
end Go.Proofs.YtpipigghbdfihaaDoor.T
