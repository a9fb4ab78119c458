/- SessionStands' walk. Conditions: those of each theorem's head. -/
import Derived.Test.YtpipigghbdfihaaGreatDoorU6
import Derived.Test.YtpipigghbdfihaaGreatDoorU3
import Derived.Test.YtpipigghbdfihaaGreatDoorL2
import Derived.Test.YtpipigghbdfihaaGreatDoorL5
namespace Go.Proofs.YtpipigghbdfihaaGreatDoor.T
open Go.RowKit Go.Lib

theorem NtR.few {w : World} {ai az : Option Addr} {n : Nt} (h : NtR w ai az n) {M : Nat} (s : Sm M n) (hM : M ≤ 1000000) : NtL w ai az n :=
  ⟨⟨Nat.le_trans s.hn hM, Nat.le_trans s.hx hM, Nat.le_trans s.hd hM, h.hI, h.hZ⟩, Nat.le_trans s.hin hM, fun y hy => ⟨Nat.le_trans (s.hiz y hy).1 hM, Nat.le_trans (s.hiz y hy).2 hM⟩, Nat.le_trans s.hzn hM⟩
theorem few_m (s : Ss) (a : Ac) : (dos s a).2.m.length ≤ 2 := by
  unfold dos tk tc sp
  repeat' split
  all_goals (dsimp only [zO, List.length_cons, List.length_nil]; omega)
theorem few_u (s : Ss) (a : Ac) : (dos s a).2.u.length ≤ 2 := by
  unfold dos tk tc sp
  repeat' split
  all_goals (dsimp only [zO, List.length_cons, List.length_nil]; omega)
theorem acs_one {w : World} {b : Nat} {t : TypeId} (k : Int) (n : Nt) (c : Int) {ai az : Option Addr} {ci cz : Nat} (h : w.heap[b]? = some (.cells #[.int .i64 k, .int .i64 n.k, .string n.n, .string n.x, .string n.d, .int .i64 n.c, .int .i64 n.s, .int .i64 n.e, .int .i64 n.t, .bool n.o, .slice ai n.l.length ci, .slice az n.z.length cz, .int .i64 c] t (0, 0))) (hR : NtR w ai az n) : AcS w (some ⟨b, 0, none⟩) [⟨k, n, c⟩] := fun i hi => by
  obtain rfl : i = 0 := by simp only [List.length_cons, List.length_nil] at hi; omega
  obtain ⟨a0, a1, a2, a3, a4, a5, a6, a7, a8, a9, a10, a11, a12⟩ := bx13 h
  exact ⟨b, 0, rfl, ai, az, ci, cz, a0, a1, a2, a3, a4, a5, a6, a7, a8, a9, a10, a11, a12, hR⟩
set_option maxRecDepth 100000 in
set_option maxHeartbeats 8000000 in
theorem stands_1 (s : Ss) (k : Int) (n : Nt) (c : Int) (ai az : Option Addr) (ci cz : Nat) (w : World) (hn : s.n.size ≤ 140737488351232) (hd : s.d.size ≤ 140737488351232) (hG : Gl w) (h1 : 12000 < s.n.size + s.d.size) : Calls Tryz.prog 4 #[.agg #[.int .i64 s.p, .string s.n, .string s.d, .int .i64 s.s, .int .i64 s.t, .int .i64 s.c, .int .i64 s.h, .int .i64 s.a, .int .i64 s.e], .agg #[.int .i64 k, .int .i64 n.k, .string n.n, .string n.x, .string n.d, .int .i64 n.c, .int .i64 n.s, .int .i64 n.e, .int .i64 n.t, .bool n.o, .slice ai n.l.length ci, .slice az n.z.length cz, .int .i64 c]] w (OkL w) := by
  have LV := Lib.hid (fun W (hb : Below w.heap.size w W) => live_any W (hG.below hb))
  have g1 : decide ((12000 : Int) < (s.n.size : Int) + (s.d.size : Int)) = true := by rw [decide_eq_true_iff]; omega
  have g1' : (12000 : Int) < (s.n.size : Int) + (s.d.size : Int) := by omega
  clear hG h1
  obtain ⟨HB, HX, HA⟩ := bxTwo w #[.int .i64 s.p, .string s.n, .string s.d, .int .i64 s.s, .int .i64 s.t, .int .i64 s.c, .int .i64 s.h, .int .i64 s.a, .int .i64 s.e] 28 #[.int .i64 k, .int .i64 n.k, .string n.n, .string n.x, .string n.d, .int .i64 n.c, .int .i64 n.s, .int .i64 n.e, .int .i64 n.t, .bool n.o, .slice ai n.l.length ci, .slice az n.z.length cz, .int .i64 c] 44
  obtain ⟨m0, m1, m2, m3, m4, m5, m6, m7, m8⟩ := bx9 HX.out
  obtain ⟨a0, a1, a2, a3, a4, a5, a6, a7, a8, a9, a10, a11, a12⟩ := bx13 HA.out
  go_enter Tryz.func4, Tryz.ntmps4
  go_wp2_with fail
  refine (LV.out _ HB.out).mono ?_
  rintro e w9 ⟨rfl, hb9⟩
  go_wp2_with fail
  go_ret
  exact ⟨rfl, HB.out.trans (hb9.mono HB.out.size)⟩
set_option maxRecDepth 100000 in
set_option maxHeartbeats 8000000 in
theorem stands_2 (s : Ss) (k : Int) (n : Nt) (c : Int) (ai az : Option Addr) (ci cz : Nat) (w : World) (hn : s.n.size ≤ 140737488351232) (hd : s.d.size ≤ 140737488351232) (hG : Gl w) (hR : NtR w ai az n) (h1 : ¬ 12000 < s.n.size + s.d.size) : Calls Tryz.prog 4 #[.agg #[.int .i64 s.p, .string s.n, .string s.d, .int .i64 s.s, .int .i64 s.t, .int .i64 s.c, .int .i64 s.h, .int .i64 s.a, .int .i64 s.e], .agg #[.int .i64 k, .int .i64 n.k, .string n.n, .string n.x, .string n.d, .int .i64 n.c, .int .i64 n.s, .int .i64 n.e, .int .i64 n.t, .bool n.o, .slice ai n.l.length ci, .slice az n.z.length cz, .int .i64 c]] w (OkL w) := by
  have LV := Lib.hid (fun W (hb : Below w.heap.size w W) => live_any W (hG.below hb))
  have HG := Lib.hid (fun W (hb : Below w.heap.size w W) => hG.below hb)
  have HNR := Lib.hid (fun W (hb : Below w.heap.size w W) => hR.below hb)
  have g1 : decide ((12000 : Int) < (s.n.size : Int) + (s.d.size : Int)) = false := by rw [decide_eq_false_iff_not]; omega
  have g1' : ¬ (12000 : Int) < (s.n.size : Int) + (s.d.size : Int) := by omega
  have HS1 : Hid (s.n.size ≤ 1000000 ∧ s.d.size ≤ 20000) := by show _ ∧ _; omega
  have CS := Lib.hid (fun (b : Nat) W (hA : AcS W (some ⟨b, 0, none⟩) [⟨k, n, c⟩]) => small_any [⟨k, n, c⟩] (some ⟨b, 0, none⟩) 1 W (by show 1 ≤ 140737488351232; decide) hA)
  clear hG hR h1
  obtain ⟨HB, HX, HA, HR⟩ := bxThree w #[.int .i64 s.p, .string s.n, .string s.d, .int .i64 s.s, .int .i64 s.t, .int .i64 s.c, .int .i64 s.h, .int .i64 s.a, .int .i64 s.e] 28 #[.int .i64 k, .int .i64 n.k, .string n.n, .string n.x, .string n.d, .int .i64 n.c, .int .i64 n.s, .int .i64 n.e, .int .i64 n.t, .bool n.o, .slice ai n.l.length ci, .slice az n.z.length cz, .int .i64 c] 44 #[.int .i64 k, .int .i64 n.k, .string n.n, .string n.x, .string n.d, .int .i64 n.c, .int .i64 n.s, .int .i64 n.e, .int .i64 n.t, .bool n.o, .slice ai n.l.length ci, .slice az n.z.length cz, .int .i64 c] 44
  obtain ⟨HB', HX', HA'⟩ := bxTwo w #[.int .i64 s.p, .string s.n, .string s.d, .int .i64 s.s, .int .i64 s.t, .int .i64 s.c, .int .i64 s.h, .int .i64 s.a, .int .i64 s.e] 28 #[.int .i64 k, .int .i64 n.k, .string n.n, .string n.x, .string n.d, .int .i64 n.c, .int .i64 n.s, .int .i64 n.e, .int .i64 n.t, .bool n.o, .slice ai n.l.length ci, .slice az n.z.length cz, .int .i64 c] 44
  obtain ⟨m0, m1, m2, m3, m4, m5, m6, m7, m8⟩ := bx9 HX'.out
  obtain ⟨a0, a1, a2, a3, a4, a5, a6, a7, a8, a9, a10, a11, a12⟩ := bx13 HA'.out
  go_enter Tryz.func4, Tryz.ntmps4
  go_wp2_with fail
  refine (CS.out _ _ (acs_one k n c HR.out (HNR.out _ HB.out))).mono ?_
  rintro e w1 ⟨b, rfl, hb, hs⟩
  clear m0 m1 m2 m3 m4 m5 m6 m7 m8
  clear a0 a1 a2 a3 a4 a5 a6 a7 a8 a9 a10 a11 a12
  clear HB' HX' HA' CS HR
  replace HX := kpB hb HX
  replace HA := kpB hb HA
  have HB1 := Lib.hid (HB.out.trans (hb.mono HB.out.size))
  clear hb HB
  obtain ⟨m0, m1, m2, m3, m4, m5, m6, m7, m8⟩ := bx9 HX.out
  cases b
  · clear hs
    go_wp2_with fail
    refine (LV.out _ HB1.out).mono ?_
    rintro e w9 ⟨rfl, hb9⟩
    go_wp2_with fail
    go_ret
    exact ⟨rfl, HB1.out.trans (hb9.mono HB1.out.size)⟩
  have hsm := (hs rfl).2 0 (Nat.zero_lt_succ _)
  have HSM : Hid (Sm 12000 n) := hsm
  clear hs hsm
  by_cases hg3 : s.h < 0
  · have g3 : decide (s.h < (0 : Int)) = true := by rw [decide_eq_true_iff]; omega
    have g3' : s.h < (0 : Int) := by omega
    clear hg3
    go_wp2_with fail
    refine (LV.out _ HB1.out).mono ?_
    rintro e w9 ⟨rfl, hb9⟩
    go_wp2_with fail
    go_ret
    exact ⟨rfl, HB1.out.trans (hb9.mono HB1.out.size)⟩
  have g3 : decide (s.h < (0 : Int)) = false := by rw [decide_eq_false_iff_not]; omega
  have g3' : ¬ s.h < (0 : Int) := by omega
  clear hg3
  by_cases hg4 : 1000000 < s.h
  · have g4 : decide ((1000000 : Int) < s.h) = true := by rw [decide_eq_true_iff]; omega
    have g4' : (1000000 : Int) < s.h := by omega
    clear hg4
    go_wp2_with fail
    refine (LV.out _ HB1.out).mono ?_
    rintro e w9 ⟨rfl, hb9⟩
    go_wp2_with fail
    go_ret
    exact ⟨rfl, HB1.out.trans (hb9.mono HB1.out.size)⟩
  have g4 : decide ((1000000 : Int) < s.h) = false := by rw [decide_eq_false_iff_not]; omega
  have g4' : ¬ (1000000 : Int) < s.h := by omega
  clear hg4
  by_cases hg5 : s.a < 0
  · have g5 : decide (s.a < (0 : Int)) = true := by rw [decide_eq_true_iff]; omega
    have g5' : s.a < (0 : Int) := by omega
    clear hg5
    go_wp2_with fail
    refine (LV.out _ HB1.out).mono ?_
    rintro e w9 ⟨rfl, hb9⟩
    go_wp2_with fail
    go_ret
    exact ⟨rfl, HB1.out.trans (hb9.mono HB1.out.size)⟩
  have g5 : decide (s.a < (0 : Int)) = false := by rw [decide_eq_false_iff_not]; omega
  have g5' : ¬ s.a < (0 : Int) := by omega
  clear hg5
  by_cases hg6 : 1000000 < s.a
  · have g6 : decide ((1000000 : Int) < s.a) = true := by rw [decide_eq_true_iff]; omega
    have g6' : (1000000 : Int) < s.a := by omega
    clear hg6
    go_wp2_with fail
    refine (LV.out _ HB1.out).mono ?_
    rintro e w9 ⟨rfl, hb9⟩
    go_wp2_with fail
    go_ret
    exact ⟨rfl, HB1.out.trans (hb9.mono HB1.out.size)⟩
  have g6 : decide ((1000000 : Int) < s.a) = false := by rw [decide_eq_false_iff_not]; omega
  have g6' : ¬ (1000000 : Int) < s.a := by omega
  clear hg6
  have CD : Hid (∀ W, Below w.heap.size w W → Calls Tryz.prog 12 #[.agg #[.int .i64 s.p, .string s.n, .string s.d, .int .i64 s.s, .int .i64 s.t, .int .i64 s.c, .int .i64 s.h, .int .i64 s.a, .int .i64 s.e], .agg #[.int .i64 k, .int .i64 n.k, .string n.n, .string n.x, .string n.d, .int .i64 n.c, .int .i64 n.s, .int .i64 n.e, .int .i64 n.t, .bool n.o, .slice ai n.l.length ci, .slice az n.z.length cz, .int .i64 c]] W (StQ (dos s ⟨k, n, c⟩) W)) := fun W hb => does_any s ⟨k, n, c⟩ ai az ci cz W ((HNR.out W hb).few HSM.out (by decide)) HS1.out.1 HS1.out.2 (Nat.le_trans HSM.out.hd (by decide)) (HG.out W hb) (by omega) (by omega)
  have CM : Hid (∀ W, Below w.heap.size w W → Calls Tryz.prog 13 #[.agg #[.int .i64 s.p, .string s.n, .string s.d, .int .i64 s.s, .int .i64 s.t, .int .i64 s.c, .int .i64 s.h, .int .i64 s.a, .int .i64 s.e], .agg #[.int .i64 k, .int .i64 n.k, .string n.n, .string n.x, .string n.d, .int .i64 n.c, .int .i64 n.s, .int .i64 n.e, .int .i64 n.t, .bool n.o, .slice ai n.l.length ci, .slice az n.z.length cz, .int .i64 c]] W (StV ai az n (dos s ⟨k, n, c⟩) W)) := fun W hb => model_any s ⟨k, n, c⟩ ai az ci cz W ((HNR.out W hb).few HSM.out (by decide)) HS1.out.1 HS1.out.2 (Nat.le_trans HSM.out.hd (by decide)) (by omega) (by omega)
  have HNL : Hid (∀ W, Below w.heap.size w W → NtL W ai az n) := fun W hb => (HNR.out W hb).few HSM.out (by decide)
  have em : (dos s ⟨k, n, c⟩).2.m.length ≤ 140737488351232 := Nat.le_trans (few_m _ _) (by decide)
  have eu : (dos s ⟨k, n, c⟩).2.u.length ≤ 140737488351232 := Nat.le_trans (few_u _ _) (by decide)
  clear HG HNR HSM HS1
  generalize dos s ⟨k, n, c⟩ = x at CD CM em eu
  obtain ⟨t, q⟩ := x
  simp only at em eu
  obtain ⟨a0, a1, a2, a3, a4, a5, a6, a7, a8, a9, a10, a11, a12⟩ := bx13 HA.out
  go_wp2_with fail
  refine (CD.out _ HB1.out).mono ?_
  rintro e w2 ⟨la, lb, ca, cb, rfl, hb, f1, f2⟩
  simp only [sA, oA]
  clear m0 m1 m2 m3 m4 m5 m6 m7 m8
  clear a0 a1 a2 a3 a4 a5 a6 a7 a8 a9 a10 a11 a12
  replace HX := kpB hb HX
  replace HA := kpB hb HA
  have hz1 : w.heap.size ≤ w1.heap.size := HB1.out.size
  have HB2 := Lib.hid (HB1.out.trans (hb.mono HB1.out.size))
  replace f1 := Lib.hid f1
  replace f2 := Lib.hid f2
  clear hb HB1 CD
  obtain ⟨HE, HS, HO⟩ := bxTwo w2 #[.int .i64 t.p, .string t.n, .string t.d, .int .i64 t.s, .int .i64 t.t, .int .i64 t.c, .int .i64 t.h, .int .i64 t.a, .int .i64 t.e] 28 #[.slice la q.m.length ca, .bool q.f, .slice lb q.u.length cb] 31
  go_upto_region 4 with fail
  replace HX := kpB HE.out HX
  replace HA := kpB HE.out HA
  replace f1 := Lib.hid (f1.out.below HE.out)
  replace f2 := Lib.hid (f2.out.below HE.out)
  have HB2' := Lib.hid (HB2.out.trans (HE.out.mono HB2.out.size))
  clear HE HB2
  generalize ((w2.alloc (.cells #[.int .i64 t.p, .string t.n, .string t.d, .int .i64 t.s, .int .i64 t.t, .int .i64 t.c, .int .i64 t.h, .int .i64 t.a, .int .i64 t.e] 28)).alloc (.cells #[.slice la q.m.length ca, .bool q.f, .slice lb q.u.length cb] 31)) = V2 at HX HA f1 f2 HS HO HB2' ⊢
  generalize w2.heap.size = A5 at HS HO ⊢
  obtain ⟨m0, m1, m2, m3, m4, m5, m6, m7, m8⟩ := bx9 HX.out
  obtain ⟨a0, a1, a2, a3, a4, a5, a6, a7, a8, a9, a10, a11, a12⟩ := bx13 HA.out
  go_wp2_with fail
  refine (CM.out _ HB2'.out).mono ?_
  rintro e w3 ⟨lc, ld, cc, cd, rfl, hb, f3, f4⟩
  simp only [sA, oA]
  clear m0 m1 m2 m3 m4 m5 m6 m7 m8
  clear a0 a1 a2 a3 a4 a5 a6 a7 a8 a9 a10 a11 a12
  replace HS := kpB hb HS
  replace HO := kpB hb HO
  replace f1 := Lib.hid (f1.out.below hb)
  replace f2 := Lib.hid (f2.out.below hb)
  replace f3 := Lib.hid f3
  replace f4 := Lib.hid f4
  have HB3 := Lib.hid (HB2'.out.trans (hb.mono HB2'.out.size))
  clear hb HB2' CM HX HA
  obtain ⟨HE, HT, HP⟩ := bxTwo w3 #[.int .i64 t.p, .string t.n, .string t.d, .int .i64 t.s, .int .i64 t.t, .int .i64 t.c, .int .i64 t.h, .int .i64 t.a, .int .i64 t.e] 28 #[.slice lc q.m.length cc, .bool q.f, .slice ld q.u.length cd] 31
  go_upto_region 5 with fail
  replace HS := kpB HE.out HS
  replace HO := kpB HE.out HO
  replace f1 := Lib.hid (f1.out.below HE.out)
  replace f2 := Lib.hid (f2.out.below HE.out)
  replace f3 := Lib.hid (f3.out.below HE.out)
  replace f4 := Lib.hid (f4.out.below HE.out)
  have HB3' := Lib.hid (HB3.out.trans (HE.out.mono HB3.out.size))
  clear HE HB3
  generalize ((w3.alloc (.cells #[.int .i64 t.p, .string t.n, .string t.d, .int .i64 t.s, .int .i64 t.t, .int .i64 t.c, .int .i64 t.h, .int .i64 t.a, .int .i64 t.e] 28)).alloc (.cells #[.slice lc q.m.length cc, .bool q.f, .slice ld q.u.length cd] 31)) = V3 at HS HO f1 f2 f3 f4 HT HP HB3' ⊢
  generalize w3.heap.size = A7 at HT HP ⊢
  have CQ := rsaid_yes q la lb lc ld ca cb cc cd V3 em eu f1.out.self f2.out.self f3.out.self (f4.out V3 (fun _ _ _ => rfl) (HNL.out V3 HB3'.out))
  have CQ := Lib.hid CQ
  clear f1 f2 f3 f4 HNL em eu
  obtain ⟨m0, m1, m2, m3, m4, m5, m6, m7, m8⟩ := bx9 HS.out
  obtain ⟨z0, z1, z2, z3, z4, z5, z6, z7, z8⟩ := bx9 HT.out
  obtain ⟨y0, y1, y2⟩ := bx3 HO.out
  obtain ⟨v0, v1, v2⟩ := bx3 HP.out
  have ep : (t.p == t.p) = true := beq_self_eq_true _
  have en : (t.n.toList == t.n.toList) = true := beq_self_eq_true _
  have ed : (t.d.toList == t.d.toList) = true := beq_self_eq_true _
  have es : (t.s == t.s) = true := beq_self_eq_true _
  have et : (t.t == t.t) = true := beq_self_eq_true _
  have ec : (t.c == t.c) = true := beq_self_eq_true _
  have eh : (t.h == t.h) = true := beq_self_eq_true _
  have ea : (t.a == t.a) = true := beq_self_eq_true _
  have ee : (t.e == t.e) = true := beq_self_eq_true _
  go_wp2_with fail
  refine CQ.out.mono ?_
  rintro e w4 ⟨rfl, hb⟩
  have HB4 := Lib.hid (HB3'.out.trans (hb.mono HB3'.out.size))
  clear hb CQ HB3'
  go_wp2_with fail
  refine (LV.out _ HB4.out).mono ?_
  rintro e w9 ⟨rfl, hb9⟩
  go_wp2_with fail
  go_ret
  exact ⟨rfl, HB4.out.trans (hb9.mono HB4.out.size)⟩
theorem stands_walk (s : Ss) (k : Int) (n : Nt) (c : Int) (ai az : Option Addr) (ci cz : Nat) (w : World) (hn : s.n.size ≤ 140737488351232) (hd : s.d.size ≤ 140737488351232) (hG : Gl w) (hR : NtR w ai az n) : Calls Tryz.prog 4 #[.agg #[.int .i64 s.p, .string s.n, .string s.d, .int .i64 s.s, .int .i64 s.t, .int .i64 s.c, .int .i64 s.h, .int .i64 s.a, .int .i64 s.e], .agg #[.int .i64 k, .int .i64 n.k, .string n.n, .string n.x, .string n.d, .int .i64 n.c, .int .i64 n.s, .int .i64 n.e, .int .i64 n.t, .bool n.o, .slice ai n.l.length ci, .slice az n.z.length cz, .int .i64 c]] w (OkL w) := by
  by_cases h1 : 12000 < s.n.size + s.d.size
  · exact stands_1 s k n c ai az ci cz w hn hd hG h1
  · exact stands_2 s k n c ai az ci cz w hn hd hG hR h1
end Go.Proofs.YtpipigghbdfihaaGreatDoor.T
