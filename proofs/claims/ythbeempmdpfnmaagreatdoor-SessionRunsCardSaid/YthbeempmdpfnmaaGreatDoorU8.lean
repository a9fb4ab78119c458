/- SessionRuns' walk. Conditions: those of each theorem's head. -/
import Derived.Test.YthbeempmdpfnmaaGreatDoorU6
import Derived.Test.YthbeempmdpfnmaaGreatDoorU2
import Derived.Test.YthbeempmdpfnmaaGreatDoorU3
import Derived.Test.YthbeempmdpfnmaaGreatDoorL2
import Derived.Test.YthbeempmdpfnmaaGreatDoorL5
import Derived.Test.YthbeempmdpfnmaaGreatDoorRt
namespace Go.Proofs.YthbeempmdpfnmaaGreatDoor.T
open Go.RowKit Go.Lib

theorem NtR.few {w : World} {ai az : Option Addr} {n : Nt} (h : NtR w ai az n) {M : Nat} (s : Sm M n) (hM : M ≤ 1000000) : NtL w ai az n :=
  ⟨⟨Nat.le_trans s.hn hM, Nat.le_trans s.hx hM, Nat.le_trans s.hd hM, h.hI, h.hZ⟩, Nat.le_trans s.hin hM, fun y hy => ⟨Nat.le_trans (s.hiz y hy).1 hM, Nat.le_trans (s.hiz y hy).2 hM⟩, Nat.le_trans s.hzn hM⟩
theorem few_m (s : Ss) (a : Ac) : (dos s a).2.m.length ≤ 2 := by
  unfold dos tk tc sp
  repeat' split
  all_goals (dsimp only [zO, List.length_cons, List.length_nil]; omega)
theorem few_u (s : Ss) (a : Ac) : (dos s a).2.u.length ≤ 2 := by
  unfold dos tk tc sp
  repeat' split
  all_goals (dsimp only [zO, List.length_cons, List.length_nil]; omega)
/-- A session behind j things. -/
structure Rv (s : Ss) (j : Nat) : Prop where
  hn : s.n.size ≤ 12000
  hd : s.d.size ≤ 12000
  h0 : 0 ≤ s.h
  h1 : s.h ≤ (j : Int)
  a0 : 0 ≤ s.a
  a1 : s.a ≤ (j : Int)
theorem Rv.dos {s : Ss} {j : Nat} (h : Rv s j) (a : Ac) : Rv (dos s a).1 (j + 1) := by
  obtain ⟨h1, h2, h3, h4, h5, h6⟩ := h
  unfold T.dos tk tc sp sn
  repeat' split
  all_goals (refine ⟨?_, ?_, ?_, ?_, ?_, ?_⟩ <;> (dsimp only; omega))
theorem rv_start (n d : ByteArray) (s t c : Int) (hn : n.size ≤ 12000) (hd : d.size ≤ 12000) : Rv (stS n d s t c) 0 := by
  unfold stS
  split
  · exact ⟨hn, hd, Int.le_refl _, Int.le_refl _, Int.le_refl _, Int.le_refl _⟩
  · exact ⟨Nat.zero_le _, Nat.zero_le _, Int.le_refl _, Int.le_refl _, Int.le_refl _, Int.le_refl _⟩
theorem few_start (n d : ByteArray) (s t c : Int) : (stO n d s t c).m.length ≤ 2 ∧ (stO n d s t c).u.length ≤ 2 := by
  unfold stO
  split
  · exact ⟨Nat.le_refl 2, Nat.zero_le _⟩
  · exact ⟨Nat.zero_le _, Nat.zero_le _⟩
theorem drew_at (W : World) (k : Nat) : W.drew.heap[k]? = W.heap[k]? := rfl
theorem put9 (W : World) (A : Nat) (u0 u1 u2 u3 u4 u5 u6 u7 u8 : Value) : PutAt W (((((((((W.setCell ⟨A, 0, none⟩ u0).setCell ⟨A, 1, none⟩ u1).setCell ⟨A, 2, none⟩ u2).setCell ⟨A, 3, none⟩ u3).setCell ⟨A, 4, none⟩ u4).setCell ⟨A, 5, none⟩ u5).setCell ⟨A, 6, none⟩ u6).setCell ⟨A, 7, none⟩ u7).setCell ⟨A, 8, none⟩ u8) A :=
  ((((((((PutAt.cell W A 0 u0).trans (.cell _ A 1 u1)).trans (.cell _ A 2 u2)).trans (.cell _ A 3 u3)).trans (.cell _ A 4 u4)).trans (.cell _ A 5 u5)).trans (.cell _ A 6 u6)).trans (.cell _ A 7 u7)).trans (.cell _ A 8 u8)
theorem put3 (W : World) (A : Nat) (u0 u1 u2 : Value) : PutAt W (((W.setCell ⟨A, 0, none⟩ u0).setCell ⟨A, 1, none⟩ u1).setCell ⟨A, 2, none⟩ u2) A :=
  ((PutAt.cell W A 0 u0).trans (.cell _ A 1 u1)).trans (.cell _ A 2 u2)
theorem arr9 {fz : Array Value} (h : fz.size = 9) : ∃ u0 u1 u2 u3 u4 u5 u6 u7 u8, fz = #[u0, u1, u2, u3, u4, u5, u6, u7, u8] := by
  obtain ⟨l⟩ := fz
  match l, h with
  | [u0, u1, u2, u3, u4, u5, u6, u7, u8], _ => exact ⟨u0, u1, u2, u3, u4, u5, u6, u7, u8, rfl⟩
theorem arr3 {fz : Array Value} (h : fz.size = 3) : ∃ u0 u1 u2, fz = #[u0, u1, u2] := by
  obtain ⟨l⟩ := fz
  match l, h with
  | [u0, u1, u2], _ => exact ⟨u0, u1, u2, rfl⟩
/-- What a step answers beside what it says: where its notes lie. -/
structure Pa where
  a : Option Addr
  b : Option Addr
  k : Nat
  m : Nat
  lo : Nat
def val9 (s : Ss) (X : Ss × So) (lv pv iv av : Value) (t : Pa) (j : Nat) : Value := match j with
  | 0 => sA s | 1 => lv | 2 => iv | 3 => pv | 4 => av | 5 => .tuple #[sA X.1, oA X.2 t.a t.b t.k t.m] | 6 => .tuple #[sA X.1, oA X.2 t.a t.b t.k t.m] | 7 => sA X.1 | _ => oA X.2 t.a t.b t.k t.m
def ds10 (j : Nat) : Nat := match j with | 0 => 81 | 1 => 82 | 2 => 83 | 3 => 84 | 4 => 85 | 5 => 86 | 6 => 80 | 7 => 87 | _ => 88
def ds11 (j : Nat) : Nat := match j with | 0 => 90 | 1 => 91 | 2 => 92 | 3 => 93 | 4 => 94 | 5 => 95 | 6 => 89 | 7 => 96 | _ => 97
def two10 (s : Ss) (X : Ss × So) (lv pv iv av : Value) : Two Pa :=
  { n := 9, c := 5, ds := ds10, sA := 14, sB := 15, V := val9 s X lv pv iv av, Pay := fun t W => Fr t.lo W t.a X.2.m ∧ Fr t.lo W t.b X.2.u, lo := Pa.lo, TA := 28, TB := 31, zA := 9, zB := 3, FA := fun _ => sC X.1, FB := fun t => #[.slice t.a X.2.m.length t.k, .bool X.2.f, .slice t.b X.2.u.length t.m] }
def two11 (ai az : Option Addr) (x : Nt) (s : Ss) (X : Ss × So) (lv pv iv av : Value) : Two Pa :=
  { n := 9, c := 5, ds := ds11, sA := 16, sB := 17, V := val9 s X lv pv iv av, Pay := fun t W => Fr t.lo W t.a X.2.m ∧ Fv ai az x t.lo W t.b X.2.u, lo := Pa.lo, TA := 28, TB := 31, zA := 9, zB := 3, FA := fun _ => sC X.1, FB := fun t => #[.slice t.a X.2.m.length t.k, .bool X.2.f, .slice t.b X.2.u.length t.m] }
set_option maxRecDepth 100000 in
set_option maxHeartbeats 8000000 in
theorem runs_1 (n d : ByteArray) (s0 t0 c0 : Int) (aw : Option Addr) (l : List Ac) (cw : Nat) (code : Int) (w : World) (_hn : n.size ≤ 140737488351232) (_hd : d.size ≤ 140737488351232) (_hl : l.length ≤ 140737488351232) (hG : Gl w) (_hA : AcS w aw l) (h1 : 12000 < n.size + d.size) : Calls Tryz.prog 3 #[.agg #[.string n, .string d, .int .i64 s0, .int .i64 t0, .int .i64 c0], .slice aw l.length cw, .int .i64 code] w (OkL w) := by
  have LV := Lib.hid (fun W (hb : Below w.heap.size w W) => live_any W (hG.below hb))
  clear hG
  have g1 : decide ((12000 : Int) < (n.size : Int) + (d.size : Int)) = true := by rw [decide_eq_true_iff]; omega
  have g2 : (12000 : Int) < (n.size : Int) + (d.size : Int) := by omega
  clear h1
  have HX := Lib.hid (box_new w #[.string n, .string d, .int .i64 s0, .int .i64 t0, .int .i64 c0] 23)
  have HB : Hid (Below w.heap.size w (w.alloc (.cells #[.string n, .string d, .int .i64 s0, .int .i64 t0, .int .i64 c0] 23))) := (Below.refl _ w).alloc (Nat.le_refl _) _
  obtain ⟨m0, m1, m2, m3, m4⟩ := bx5 HX.out
  go_enter Tryz.func3, Tryz.ntmps3
  go_wp2_with fail
  refine (LV.out _ HB.out).mono ?_
  rintro e w9 ⟨rfl, hb9⟩
  go_wp2_with fail
  go_ret
  exact ⟨rfl, HB.out.trans (hb9.mono HB.out.size)⟩
set_option maxRecDepth 100000 in
set_option maxHeartbeats 8000000 in
theorem runs_3 (n d : ByteArray) (s0 t0 c0 : Int) (aw : Option Addr) (l : List Ac) (cw : Nat) (code : Int) (w : World) (hn : n.size ≤ 140737488351232) (hd : d.size ≤ 140737488351232) (hl : l.length ≤ 140737488351232) (hG : Gl w) (hA : AcS w aw l) (h1 : ¬ 12000 < n.size + d.size) : Calls Tryz.prog 3 #[.agg #[.string n, .string d, .int .i64 s0, .int .i64 t0, .int .i64 c0], .slice aw l.length cw, .int .i64 code] w (OkL w) := by
  have LV := Lib.hid (fun W (hb : Below w.heap.size w W) => live_any W (hG.below hb))
  have HG := Lib.hid (fun W (hb : Below w.heap.size w W) => hG.below hb)
  have HA := Lib.hid hA
  have g1 : decide ((12000 : Int) < (n.size : Int) + (d.size : Int)) = false := by rw [decide_eq_false_iff_not]; omega
  have g2 : ¬ (12000 : Int) < (n.size : Int) + (d.size : Int) := by omega
  have BG := Lib.hid (fun W => begin_any n d s0 t0 c0 W (by omega) (by omega))
  have RS := Lib.hid (fun W => rstart_any n d s0 t0 c0 W (by omega) (by omega))
  have CM := Lib.hid (fun W (hb : Below w.heap.size w W) => small_any l aw cw W hl (hA.below hb))
  have HV0 := Lib.hid (rv_start n d s0 t0 c0 (by omega) (by omega))
  have HF0 := Lib.hid (few_start n d s0 t0 c0)
  have L1 := Lib.hid (fun W => lasting_any code W)
  have L2 := Lib.hid (fun W => rlasting_any code W)
  clear hG hA h1
  unfold BgP at BG RS
  generalize stS n d s0 t0 c0 = T at BG RS HV0
  generalize stO n d s0 t0 c0 = O at BG RS HF0
  generalize stE n d s0 t0 c0 = E at BG RS
  generalize lastB code = LB at L1 L2
  have HX := Lib.hid (box_new w #[.string n, .string d, .int .i64 s0, .int .i64 t0, .int .i64 c0] 23)
  have HB : Hid (Below w.heap.size w (w.alloc (.cells #[.string n, .string d, .int .i64 s0, .int .i64 t0, .int .i64 c0] 23))) := (Below.refl _ w).alloc (Nat.le_refl _) _
  obtain ⟨m0, m1, m2, m3, m4⟩ := bx5 HX.out
  go_enter Tryz.func3, Tryz.ntmps3
  go_wp2_with fail
  refine (CM.out _ HB.out).mono ?_
  rintro e w1 ⟨bs, rfl, hb, hs⟩
  clear m0 m1 m2 m3 m4
  replace HX := kpB hb HX
  replace HB := Lib.hid (HB.out.trans (hb.mono HB.out.size))
  clear hb CM
  cases bs
  · clear hs
    go_wp2_with fail
    refine (LV.out _ HB.out).mono ?_
    rintro e w9 ⟨rfl, hb9⟩
    go_wp2_with fail
    go_ret
    exact ⟨rfl, HB.out.trans (hb9.mono HB.out.size)⟩
  have HSM := Lib.hid (hs rfl)
  clear hs
  obtain ⟨m0, m1, m2, m3, m4⟩ := bx5 HX.out
  go_wp2_with fail
  refine (BG.out _).mono ?_
  rintro e w2 ⟨a, b, k, m, rfl, hb, f2, f2'⟩
  simp only [sA, oA]
  clear m0 m1 m2 m3 m4
  replace HX := kpB hb HX
  have HB2 := Lib.hid (HB.out.trans (hb.mono HB.out.size))
  replace f2 := Lib.hid f2
  replace f2' := Lib.hid f2'
  have hw1 : w.heap.size ≤ w1.heap.size := HB.out.size
  clear hb HB BG g1 g2
  obtain ⟨HE, HS, HO⟩ := bxTwo w2 #[.int .i64 T.p, .string T.n, .string T.d, .int .i64 T.s, .int .i64 T.t, .int .i64 T.c, .int .i64 T.h, .int .i64 T.a, .int .i64 T.e] 28 #[.slice a O.m.length k, .bool O.f, .slice b O.u.length m] 31
  go_upto_region 4 with fail
  replace HX := kpB HE.out HX
  replace f2 := Lib.hid (f2.out.below HE.out)
  replace f2' := Lib.hid (f2'.out.below HE.out)
  have hlo2 : w.heap.size ≤ w2.heap.size := HB2.out.size
  have HB2' := Lib.hid (HB2.out.trans (HE.out.mono HB2.out.size))
  clear HE HB2
  generalize ((w2.alloc (.cells #[.int .i64 T.p, .string T.n, .string T.d, .int .i64 T.s, .int .i64 T.t, .int .i64 T.c, .int .i64 T.h, .int .i64 T.a, .int .i64 T.e] 28)).alloc (.cells #[.slice a O.m.length k, .bool O.f, .slice b O.u.length m] 31)) = V2 at HX f2 f2' HS HO HB2' ⊢
  generalize w2.heap.size = A7 at HS HO f2 f2' hlo2 ⊢
  obtain ⟨m0, m1, m2, m3, m4⟩ := bx5 HX.out
  go_wp2_with fail
  refine (RS.out _).mono ?_
  rintro e w4 ⟨a4, b4, k4, m4_, rfl, hb, f4, f4'⟩
  simp only [sA, oA]
  clear m0 m1 m2 m3 m4
  replace HS := kpB hb HS
  replace HO := kpB hb HO
  replace f2 := Lib.hid (f2.out.below hb)
  replace f2' := Lib.hid (f2'.out.below hb)
  have HB4 := Lib.hid (HB2'.out.trans (hb.mono HB2'.out.size))
  have hA7 : A7 < w4.heap.size := heap_lt HS.out
  replace f4 := Lib.hid f4
  replace f4' := Lib.hid f4'
  clear hb HB2' RS HX
  obtain ⟨HE, HT, HP⟩ := bxTwo w4 #[.int .i64 T.p, .string T.n, .string T.d, .int .i64 T.s, .int .i64 T.t, .int .i64 T.c, .int .i64 T.h, .int .i64 T.a, .int .i64 T.e] 28 #[.slice a4 O.m.length k4, .bool O.f, .slice b4 O.u.length m4_] 31
  go_upto_region 5 with fail
  replace HS := kpB HE.out HS
  replace HO := kpB HE.out HO
  replace f2 := Lib.hid (f2.out.below HE.out)
  replace f2' := Lib.hid (f2'.out.below HE.out)
  replace f4 := Lib.hid (f4.out.below HE.out)
  replace f4' := Lib.hid (f4'.out.below HE.out)
  have hlo4 : w.heap.size ≤ w4.heap.size := HB4.out.size
  have HB4' := Lib.hid (HB4.out.trans (HE.out.mono HB4.out.size))
  clear HE HB4
  generalize ((w4.alloc (.cells #[.int .i64 T.p, .string T.n, .string T.d, .int .i64 T.s, .int .i64 T.t, .int .i64 T.c, .int .i64 T.h, .int .i64 T.a, .int .i64 T.e] 28)).alloc (.cells #[.slice a4 O.m.length k4, .bool O.f, .slice b4 O.u.length m4_] 31)) = V4 at HS HO f2 f2' f4 f4' HT HP HB4' ⊢
  generalize w4.heap.size = A10 at HT HP f4 f4' hA7 hlo4 ⊢
  have CQ := Lib.hid (rsaid_yes O a b a4 b4 k m k4 m4_ V4 (Nat.le_trans HF0.out.1 (by decide)) (Nat.le_trans HF0.out.2 (by decide)) f2.out.self f2'.out.self f4.out.self f4'.out.self)
  clear f2 f2' f4 f4' HF0
  obtain ⟨m0, m1, m2, m3, m4, m5, m6, m7, m8⟩ := bx9 HS.out
  obtain ⟨z0, z1, z2, z3, z4, z5, z6, z7, z8⟩ := bx9 HT.out
  obtain ⟨y0, y1, y2⟩ := bx3 HO.out
  obtain ⟨v0, v1, v2⟩ := bx3 HP.out
  have ep : (T.p == T.p) = true := beq_self_eq_true _
  have en : (T.n.toList == T.n.toList) = true := beq_self_eq_true _
  have ed : (T.d.toList == T.d.toList) = true := beq_self_eq_true _
  have es : (T.s == T.s) = true := beq_self_eq_true _
  have et : (T.t == T.t) = true := beq_self_eq_true _
  have ec : (T.c == T.c) = true := beq_self_eq_true _
  have eh : (T.h == T.h) = true := beq_self_eq_true _
  have ea : (T.a == T.a) = true := beq_self_eq_true _
  have ee : (T.e == T.e) = true := beq_self_eq_true _
  have eE : (E == E) = true := beq_self_eq_true _
  have eE' : bne E E = false := by unfold bne; rw [eE]; rfl
  have eL : (LB == LB) = true := beq_self_eq_true _
  have eL' : bne LB LB = false := by unfold bne; rw [eL]; rfl
  go_wp2_with fail
  refine CQ.out.mono ?_
  rintro e w5 ⟨rfl, hb⟩
  replace HS := kpB hb HS
  replace HT := kpB hb HT
  have HB5 := Lib.hid (HB4'.out.trans (hb.mono HB4'.out.size))
  clear hb CQ HB4'
  go_wp2_with fail
  refine (L1.out _).mono ?_
  rintro e w6 ⟨rfl, rfl⟩
  go_wp2_with fail
  refine (L2.out _).mono ?_
  rintro e w6 ⟨rfl, rfl⟩
  clear HO HP
  clear m0 m1 m2 m3 m4 m5 m6 m7 m8 z0 z1 z2 z3 z4 z5 z6 z7 z8 y0 y1 y2 v0 v1 v2 ep en ed es et ec eh ea ee eE eE' eL eL' L1 L2
  go_wp2_with fail
  go_loopw [13] (fun i wr => ∃ (j : Nat) (s : Ss), i = .int .i64 j ∧ j ≤ l.length ∧ Hid (Rv s j) ∧ Hid (wr.heap[A7]? = some (.cells #[.int .i64 s.p, .string s.n, .string s.d, .int .i64 s.s, .int .i64 s.t, .int .i64 s.c, .int .i64 s.h, .int .i64 s.a, .int .i64 s.e] 28 (0, 0))) ∧ Hid (wr.heap[A10]? = some (.cells #[.int .i64 s.p, .string s.n, .string s.d, .int .i64 s.s, .int .i64 s.t, .int .i64 s.c, .int .i64 s.h, .int .i64 s.a, .int .i64 s.e] 28 (0, 0))) ∧ Hid (Below w.heap.size w wr)) (fun i _ => l.length - (RowKit.intOf i).toNat)
  case atStart => exact ⟨0, T, rfl, Nat.zero_le _, HV0, HS, HT, HB5⟩
  case round =>
    clear HS HT HB5 HV0
    obtain ⟨j, s, rfl, hj, HV, HS, HT, HB⟩ := hrel
    by_cases hlt : j < l.length
    rotate_left
    · have hje : j = l.length := by omega
      subst hje
      have d1 : ¬ (l.length : Int) < (l.length : Int) := by omega
      have d2 : decide ((l.length : Int) < (l.length : Int)) = false := by rw [decide_eq_false_iff_not]; omega
      go_wp2_with fail
      refine (LV.out _ HB.out).mono ?_
      rintro e w9 ⟨rfl, hb9⟩
      go_wp2_with fail
      go_ret
      exact ⟨rfl, HB.out.trans (hb9.mono HB.out.size)⟩
    obtain ⟨bw, ow, rfl, ai, az, ci, cz, k0, k1, k2, k3, k4, k5, k6, k7, k8, k9, k10, k11, k12, hR⟩ := (HA.out.below HB.out) j hlt
    have HSMj := Lib.hid ((HSM.out).2 j hlt)
    have hl150 := HSM.out.1
    have m0 : wr.cell? ⟨bw, ow + j * 13, none⟩ = some (.int .i64 l[j].k) := k0
    have m1 : wr.cell? ⟨bw, ow + j * 13 + 1, none⟩ = some (.int .i64 l[j].n.k) := k1
    have m2 : wr.cell? ⟨bw, ow + j * 13 + 2, none⟩ = some (.string l[j].n.n) := k2
    have m3 : wr.cell? ⟨bw, ow + j * 13 + 3, none⟩ = some (.string l[j].n.x) := k3
    have m4 : wr.cell? ⟨bw, ow + j * 13 + 4, none⟩ = some (.string l[j].n.d) := k4
    have m5 : wr.cell? ⟨bw, ow + j * 13 + 5, none⟩ = some (.int .i64 l[j].n.c) := k5
    have m6 : wr.cell? ⟨bw, ow + j * 13 + 6, none⟩ = some (.int .i64 l[j].n.s) := k6
    have m7 : wr.cell? ⟨bw, ow + j * 13 + 7, none⟩ = some (.int .i64 l[j].n.e) := k7
    have m8 : wr.cell? ⟨bw, ow + j * 13 + 8, none⟩ = some (.int .i64 l[j].n.t) := k8
    have m9 : wr.cell? ⟨bw, ow + j * 13 + 9, none⟩ = some (.bool l[j].n.o) := k9
    have m10 : wr.cell? ⟨bw, ow + j * 13 + 10, none⟩ = some (.slice ai l[j].n.l.length ci) := k10
    have m11 : wr.cell? ⟨bw, ow + j * 13 + 11, none⟩ = some (.slice az l[j].n.z.length cz) := k11
    have m12 : wr.cell? ⟨bw, ow + j * 13 + 12, none⟩ = some (.int .i64 l[j].c) := k12
    clear k0 k1 k2 k3 k4 k5 k6 k7 k8 k9 k10 k11 k12
    generalize l[j] = ac at hR HSMj m0 m1 m2 m3 m4 m5 m6 m7 m8 m9 m10 m11 m12
    have hRL := hR.few HSMj.out (by decide)
    have hv1 := HV.out.hn
    have hv2 := HV.out.hd
    have hv3 := HV.out.h0
    have hv4 := HV.out.h1
    have hv5 := HV.out.a0
    have hv6 := HV.out.a1
    have CD0 : Hid (∀ W, Below wr.heap.size wr W → Calls Tryz.prog 12 #[sA s, acA ac ai az ci cz] W (StQ (dos s ac) W)) := fun W hb => does_any s ac ai az ci cz W (hRL.below hb) (by omega) (by omega) (by have := HSMj.out.hd; omega) ((HG.out wr HB.out).below hb) ⟨hv3, by omega⟩ ⟨hv5, by omega⟩
    have CM0 : Hid (∀ W, Below wr.heap.size wr W → Calls Tryz.prog 13 #[sA s, acA ac ai az ci cz] W (StV ai az ac.n (dos s ac) W)) := fun W hb => model_any s ac ai az ci cz W (hRL.below hb) (by omega) (by omega) (by have := HSMj.out.hd; omega) ⟨hv3, by omega⟩ ⟨hv5, by omega⟩
    have HNL0 : Hid (∀ W, Below wr.heap.size wr W → NtL W ai az ac.n) := fun W hb => hRL.below hb
    have HV2 := Lib.hid (HV.out.dos ac)
    have em := few_m s ac
    have eu := few_u s ac
    clear hv1 hv2 hv3 hv4 hv5 hv6 HV hRL
    obtain ⟨ak, x, cd⟩ := ac
    dsimp only at hR HSMj HNL0 CM0 m0 m1 m2 m3 m4 m5 m6 m7 m8 m9 m10 m11 m12
    generalize dos s ⟨ak, x, cd⟩ = X at CD0 CM0 HV2 em eu
    have CD : Hid (∀ W, Below wr.heap.size wr W → Calls Tryz.prog 12 #[sA s, .agg #[.int .i64 ak, .int .i64 x.k, .string x.n, .string x.x, .string x.d, .int .i64 x.c, .int .i64 x.s, .int .i64 x.e, .int .i64 x.t, .bool x.o, .slice ai x.l.length ci, .slice az x.z.length cz, .int .i64 cd]] W (StQ X W)) := CD0
    have CM9 : Hid (∀ W, Below wr.heap.size wr W → Calls Tryz.prog 13 #[sA s, .agg #[.int .i64 ak, .int .i64 x.k, .string x.n, .string x.x, .string x.d, .int .i64 x.c, .int .i64 x.s, .int .i64 x.e, .int .i64 x.t, .bool x.o, .slice ai x.l.length ci, .slice az x.z.length cz, .int .i64 cd]] W (StV ai az x X W)) := CM0
    clear CD0 CM0 HSMj hR
    obtain ⟨s_0, s_1, s_2, s_3, s_4, s_5, s_6, s_7, s_8⟩ := bx9 HS.out
    have d1 : decide ((j : Int) < (l.length : Int)) = true := by rw [decide_eq_true_iff]; omega
    have d2 : (j : Int) < (l.length : Int) := by omega
    go_upto_region 10 with fail
    clear d1 d2
    have hbw : bw < wr.heap.size := World.block_lt_of_cell? _ _ m0
    refine region_two (two10 s X (.slice (some ⟨bw, ow, none⟩) l.length cw) (.pointer (some ⟨bw, ow + j * 13, none⟩)) (.int .i64 j) (.agg #[.int .i64 ak, .int .i64 x.k, .string x.n, .string x.x, .string x.d, .int .i64 x.c, .int .i64 x.s, .int .i64 x.e, .int .i64 x.t, .bool x.o, .slice ai x.l.length ci, .slice az x.z.length cz, .int .i64 cd])) [14, 15, 80, 81, 82, 83, 84, 85, 86, 87, 88] ⟨none, none, 0, 0, 0⟩ (by kernel_rfl) (by kernel_rfl) (by kernel_rfl) rfl (fun t t' j hj => ?_) ?_ ?_ ?_ ?_ ?_ ?_ ?_
    · have hj : j < 5 := hj
      have : j = 0 ∨ j = 1 ∨ j = 2 ∨ j = 3 ∨ j = 4 := by omega
      rcases this with rfl | rfl | rfl | rfl | rfl <;> rfl
    · intro i o hi hic ho t a W hout hb hdep
      have hi : i < 9 := hi
      have : i = 0 ∨ i = 1 ∨ i = 2 ∨ i = 3 ∨ i = 4 ∨ i = 5 ∨ i = 6 ∨ i = 7 ∨ i = 8 := by omega
      rcases this with rfl | rfl | rfl | rfl | rfl | rfl | rfl | rfl | rfl
      · cases ho
        have e5 : a.eval (.tmp 7) = .pointer (some ⟨A7, 0, none⟩) := (hout 7 (show (7 : Nat) ≠ 14 by decide) (show (7 : Nat) ≠ 15 by decide) (show (7 : Nat) ∉ (List.range 9).map ds10 by decide)).trans rfl
        obtain ⟨z0, z1, z2, z3, z4, z5, z6, z7, z8⟩ := bx9 ((hb.block _ (heap_lt HS.out)).trans HS.out)
        refine gives_read (v := sA s) ?_ rfl
        unfold execOp
        dsimp only
        rw [e5]
        go_simp
        rfl
      · cases ho
        have e1 : a.eval (.tmp 1) = .slice (some ⟨bw, ow, none⟩) l.length cw := (hout 1 (show (1 : Nat) ≠ 14 by decide) (show (1 : Nat) ≠ 15 by decide) (show (1 : Nat) ∉ (List.range 9).map ds10 by decide)).trans rfl
        refine gives_read (v := .slice (some ⟨bw, ow, none⟩) l.length cw) ?_ rfl
        unfold execOp
        dsimp only
        rw [e1]
        go_simp
      · cases ho
        have e8 : a.eval (.tmp 13) = .int .i64 j := (hout 13 (show (13 : Nat) ≠ 14 by decide) (show (13 : Nat) ≠ 15 by decide) (show (13 : Nat) ∉ (List.range 9).map ds10 by decide)).trans rfl
        refine gives_read (v := .int .i64 j) ?_ rfl
        unfold execOp
        dsimp only
        rw [e8]
        go_simp
      · cases ho
        have e59 : a.eval (.tmp 82) = .slice (some ⟨bw, ow, none⟩) l.length cw := hdep ⟨1, .data⟩ (by simp) rfl (show (1 : Nat) < 9 by decide)
        have e60 : a.eval (.tmp 83) = .int .i64 j := hdep ⟨2, .data⟩ (by simp) rfl (show (2 : Nat) < 9 by decide)
        refine gives_read (v := .pointer (some ⟨bw, ow + j * 13, none⟩)) ?_ rfl
        unfold execOp
        dsimp only
        rw [e59, e60]
        go_simp
      · cases ho
        have e61 : a.eval (.tmp 84) = .pointer (some ⟨bw, ow + j * 13, none⟩) := hdep ⟨3, .data⟩ (by simp) rfl (show (3 : Nat) < 9 by decide)
        have z0 := keep_cell hb m0 hbw
        have z1 := keep_cell hb m1 hbw
        have z2 := keep_cell hb m2 hbw
        have z3 := keep_cell hb m3 hbw
        have z4 := keep_cell hb m4 hbw
        have z5 := keep_cell hb m5 hbw
        have z6 := keep_cell hb m6 hbw
        have z7 := keep_cell hb m7 hbw
        have z8 := keep_cell hb m8 hbw
        have z9 := keep_cell hb m9 hbw
        have z10 := keep_cell hb m10 hbw
        have z11 := keep_cell hb m11 hbw
        have z12 := keep_cell hb m12 hbw
        refine gives_read (v := .agg #[.int .i64 ak, .int .i64 x.k, .string x.n, .string x.x, .string x.d, .int .i64 x.c, .int .i64 x.s, .int .i64 x.e, .int .i64 x.t, .bool x.o, .slice ai x.l.length ci, .slice az x.z.length cz, .int .i64 cd]) ?_ rfl
        unfold execOp
        dsimp only
        rw [e61]
        go_simp
      · exact absurd rfl hic
      · cases ho
        have e63 : a.eval (.tmp 86) = .tuple #[sA X.1, oA X.2 t.a t.b t.k t.m] := hdep ⟨5, .data⟩ (by simp) rfl (show (5 : Nat) < 9 by decide)
        refine gives_read (v := .tuple #[sA X.1, oA X.2 t.a t.b t.k t.m]) ?_ rfl
        unfold execOp
        dsimp only
        rw [e63]
        go_simp
      · cases ho
        have e57 : a.eval (.tmp 80) = .tuple #[sA X.1, oA X.2 t.a t.b t.k t.m] := hdep ⟨6, .data⟩ (by simp) rfl (show (6 : Nat) < 9 by decide)
        refine gives_read (v := sA X.1) ?_ rfl
        unfold execOp
        dsimp only
        rw [e57]
        go_simp
      · cases ho
        have e57 : a.eval (.tmp 80) = .tuple #[sA X.1, oA X.2 t.a t.b t.k t.m] := hdep ⟨6, .data⟩ (by simp) rfl (show (6 : Nat) < 9 by decide)
        refine gives_read (v := oA X.2 t.a t.b t.k t.m) ?_ rfl
        unfold execOp
        dsimp only
        rw [e57]
        go_simp
    · intro o ho t a W hout hb hdep
      have ho : _ = some o := ho
      cases ho
      have e58 : a.eval (.tmp 81) = sA s := hdep ⟨0, .data⟩ (by simp) rfl (show (0 : Nat) < 9 by decide)
      have e62 : a.eval (.tmp 85) = .agg #[.int .i64 ak, .int .i64 x.k, .string x.n, .string x.x, .string x.d, .int .i64 x.c, .int .i64 x.s, .int .i64 x.e, .int .i64 x.t, .bool x.o, .slice ai x.l.length ci, .slice az x.z.length cz, .int .i64 cd] := hdep ⟨4, .data⟩ (by simp) rfl (show (4 : Nat) < 9 by decide)
      refine gives_call (f := 12) (args := #[sA s, .agg #[.int .i64 ak, .int .i64 x.k, .string x.n, .string x.x, .string x.d, .int .i64 x.c, .int .i64 x.s, .int .i64 x.e, .int .i64 x.t, .bool x.o, .slice ai x.l.length ci, .slice az x.z.length cz, .int .i64 cd]]) ?_ ((CD.out W hb).mono ?_)
      · unfold execOp
        dsimp only
        simp only [resolve, List.map_toArray, List.map_cons, List.map_nil, e58, e62]
        go_simp
      · rintro e W' ⟨a, b, k, m, rfl, hb, f1, f2⟩
        exact ⟨_, rfl, hb, ⟨a, b, k, m, W.heap.size⟩, rfl, ⟨f1, f2⟩, rfl⟩
    · intro o ho a W
      have ho : _ = some o := ho
      cases ho
      refine ⟨#[.int .i64 0, .string ⟨#[]⟩, .string ⟨#[]⟩, .int .i64 0, .int .i64 0, .int .i64 0, .int .i64 0, .int .i64 0, .int .i64 0], rfl, ?_⟩
      unfold execOp
      dsimp only
      go_simp
      rfl
    · intro o ho a W
      have ho : _ = some o := ho
      cases ho
      refine ⟨#[.slice none 0 0, .bool false, .slice none 0 0], rfl, ?_⟩
      unfold execOp
      dsimp only
      go_simp
      rfl
    · intro o ho t a W A fz eA hz hw hdep
      have ho : _ = some o := ho
      cases ho
      have e9 : a.eval (.tmp 14) = .pointer (some ⟨A, 0, none⟩) := eA
      have e64 : a.eval (.tmp 87) = sA X.1 := hdep ⟨7, .data⟩ (by simp) rfl (show (7 : Nat) < 9 by decide)
      obtain ⟨u0, u1, u2, u3, u4, u5, u6, u7, u8, rfl⟩ := arr9 hz
      have hw : W.heap[A]? = some (.cells #[u0, u1, u2, u3, u4, u5, u6, u7, u8] 28 (0, 0)) := hw
      obtain ⟨c0, c1, c2, c3, c4, c5, c6, c7, c8⟩ := bx9 hw
      obtain ⟨g0, g1, g2, g3, g4, g5, g6, g7, g8⟩ := bx9f hw
      refine ⟨_, ?_, put9 W A (.int .i64 X.1.p) (.string X.1.n) (.string X.1.d) (.int .i64 X.1.s) (.int .i64 X.1.t) (.int .i64 X.1.c) (.int .i64 X.1.h) (.int .i64 X.1.a) (.int .i64 X.1.e), rfl, st9 hw (.int .i64 X.1.p) (.string X.1.n) (.string X.1.d) (.int .i64 X.1.s) (.int .i64 X.1.t) (.int .i64 X.1.c) (.int .i64 X.1.h) (.int .i64 X.1.a) (.int .i64 X.1.e)⟩
      unfold execOp
      dsimp only
      rw [e9, e64]
      unfold sA
      go_simp
    · intro o ho t a W A fz eA hz hw hdep
      have ho : _ = some o := ho
      cases ho
      have e9 : a.eval (.tmp 15) = .pointer (some ⟨A, 0, none⟩) := eA
      have e64 : a.eval (.tmp 88) = oA X.2 t.a t.b t.k t.m := hdep ⟨8, .data⟩ (by simp) rfl (show (8 : Nat) < 9 by decide)
      obtain ⟨u0, u1, u2, rfl⟩ := arr3 hz
      have hw : W.heap[A]? = some (.cells #[u0, u1, u2] 31 (0, 0)) := hw
      obtain ⟨c0, c1, c2⟩ := bx3 hw
      obtain ⟨g0, g1, g2⟩ := bx3f hw
      refine ⟨_, ?_, put3 W A (.slice t.a X.2.m.length t.k) (.bool X.2.f) (.slice t.b X.2.u.length t.m), rfl, st3 hw (.slice t.a X.2.m.length t.k) (.bool X.2.f) (.slice t.b X.2.u.length t.m)⟩
      unfold execOp
      dsimp only
      rw [e9, e64]
      unfold oA
      go_simp
    · intro a W A B t w5 ha hb e9 e10 hA hB hAB hwA hwB hP h5 hag
      have HBW := Lib.hid hb
      have H5 := Lib.hid hwA
      have H6 := Lib.hid hwB
      have HN := Lib.hid (Fr.agree hP.1 h5 hag)
      have HM := Lib.hid (Fr.agree hP.2 h5 hag)
      have HL := Lib.hid (⟨hA, hB, hAB⟩ : wr.heap.size ≤ A ∧ wr.heap.size ≤ B ∧ A ≠ B)
      have e9 : a.eval (.tmp 14) = .pointer (some ⟨A, 0, none⟩) := e9
      have e10 : a.eval (.tmp 15) = .pointer (some ⟨B, 0, none⟩) := e10
      clear hb hwA hwB hP h5 hag hA hB hAB
      simp only [canonL] at ha
      rw [e9, e10] at ha
      clear e9 e10
      generalize a.eval (.tmp 80) = g80 at ha
      generalize a.eval (.tmp 81) = g81 at ha
      generalize a.eval (.tmp 82) = g82 at ha
      generalize a.eval (.tmp 83) = g83 at ha
      generalize a.eval (.tmp 84) = g84 at ha
      generalize a.eval (.tmp 85) = g85 at ha
      generalize a.eval (.tmp 86) = g86 at ha
      generalize a.eval (.tmp 87) = g87 at ha
      generalize a.eval (.tmp 88) = g88 at ha
      simp only [Act.put, List.setIfInBounds_toArray, List.set_cons_succ, List.set_cons_zero] at ha
      subst ha
      obtain ⟨ta, tb, tk, tm, tlo⟩ := t
      dsimp only at HN HM H6 ⊢
      replace HS := kpB HBW.out HS
      replace HT := kpB HBW.out HT
      have HBz := Lib.hid (HB.out.trans (HBW.out.mono HB.out.size))
      have CMz : Hid (∀ V, Below W.heap.size W V → Calls Tryz.prog 13 #[sA s, .agg #[.int .i64 ak, .int .i64 x.k, .string x.n, .string x.x, .string x.d, .int .i64 x.c, .int .i64 x.s, .int .i64 x.e, .int .i64 x.t, .bool x.o, .slice ai x.l.length ci, .slice az x.z.length cz, .int .i64 cd]] V (StV ai az x X V)) := Lib.hid fun V hb => CM9.out V (HBW.out.trans (hb.mono HBW.out.size))
      have HNz : Hid (∀ V, Below W.heap.size W V → NtL V ai az x) := Lib.hid fun V hb => HNL0.out V (HBW.out.trans (hb.mono HBW.out.size))
      replace m0 := keep_cell HBW.out m0 hbw
      replace m1 := keep_cell HBW.out m1 hbw
      replace m2 := keep_cell HBW.out m2 hbw
      replace m3 := keep_cell HBW.out m3 hbw
      replace m4 := keep_cell HBW.out m4 hbw
      replace m5 := keep_cell HBW.out m5 hbw
      replace m6 := keep_cell HBW.out m6 hbw
      replace m7 := keep_cell HBW.out m7 hbw
      replace m8 := keep_cell HBW.out m8 hbw
      replace m9 := keep_cell HBW.out m9 hbw
      replace m10 := keep_cell HBW.out m10 hbw
      replace m11 := keep_cell HBW.out m11 hbw
      replace m12 := keep_cell HBW.out m12 hbw
      replace hbw := Nat.lt_of_lt_of_le hbw HBW.out.size
      have H14 := H5
      have H15 := H6
      have HN1 := HN
      have HM1 := HM
      clear H5 H6 HN HM HB HBW CD CM9 HNL0 HL
      generalize A = P14 at H14 ⊢
      generalize B = P15 at H15 ⊢
      generalize W = wz at HS HT H14 H15 HN1 HM1 HBz CMz HNz hbw m0 m1 m2 m3 m4 m5 m6 m7 m8 m9 m10 m11 m12 ⊢
      go_upto_region 11 with fail
      refine region_two (two11 ai az x s X (.slice (some ⟨bw, ow, none⟩) l.length cw) (.pointer (some ⟨bw, ow + j * 13, none⟩)) (.int .i64 j) (.agg #[.int .i64 ak, .int .i64 x.k, .string x.n, .string x.x, .string x.d, .int .i64 x.c, .int .i64 x.s, .int .i64 x.e, .int .i64 x.t, .bool x.o, .slice ai x.l.length ci, .slice az x.z.length cz, .int .i64 cd])) [16, 17, 89, 90, 91, 92, 93, 94, 95, 96, 97] ⟨none, none, 0, 0, 0⟩ (by kernel_rfl) (by kernel_rfl) (by kernel_rfl) rfl (fun t t' j hj => ?_) ?_ ?_ ?_ ?_ ?_ ?_ ?_
      · have hj : j < 5 := hj
        have : j = 0 ∨ j = 1 ∨ j = 2 ∨ j = 3 ∨ j = 4 := by omega
        rcases this with rfl | rfl | rfl | rfl | rfl <;> rfl
      · intro i o hi hic ho t a W hout hb hdep
        have hi : i < 9 := hi
        have : i = 0 ∨ i = 1 ∨ i = 2 ∨ i = 3 ∨ i = 4 ∨ i = 5 ∨ i = 6 ∨ i = 7 ∨ i = 8 := by omega
        rcases this with rfl | rfl | rfl | rfl | rfl | rfl | rfl | rfl | rfl
        · cases ho
          have e5 : a.eval (.tmp 10) = .pointer (some ⟨A10, 0, none⟩) := (hout 10 (show (10 : Nat) ≠ 16 by decide) (show (10 : Nat) ≠ 17 by decide) (show (10 : Nat) ∉ (List.range 9).map ds11 by decide)).trans rfl
          obtain ⟨z0, z1, z2, z3, z4, z5, z6, z7, z8⟩ := bx9 ((hb.block _ (heap_lt HT.out)).trans HT.out)
          refine gives_read (v := sA s) ?_ rfl
          unfold execOp
          dsimp only
          rw [e5]
          go_simp
          rfl
        · cases ho
          have e1 : a.eval (.tmp 1) = .slice (some ⟨bw, ow, none⟩) l.length cw := (hout 1 (show (1 : Nat) ≠ 16 by decide) (show (1 : Nat) ≠ 17 by decide) (show (1 : Nat) ∉ (List.range 9).map ds11 by decide)).trans rfl
          refine gives_read (v := .slice (some ⟨bw, ow, none⟩) l.length cw) ?_ rfl
          unfold execOp
          dsimp only
          rw [e1]
          go_simp
        · cases ho
          have e8 : a.eval (.tmp 13) = .int .i64 j := (hout 13 (show (13 : Nat) ≠ 16 by decide) (show (13 : Nat) ≠ 17 by decide) (show (13 : Nat) ∉ (List.range 9).map ds11 by decide)).trans rfl
          refine gives_read (v := .int .i64 j) ?_ rfl
          unfold execOp
          dsimp only
          rw [e8]
          go_simp
        · cases ho
          have e59 : a.eval (.tmp 91) = .slice (some ⟨bw, ow, none⟩) l.length cw := hdep ⟨1, .data⟩ (by simp) rfl (show (1 : Nat) < 9 by decide)
          have e60 : a.eval (.tmp 92) = .int .i64 j := hdep ⟨2, .data⟩ (by simp) rfl (show (2 : Nat) < 9 by decide)
          refine gives_read (v := .pointer (some ⟨bw, ow + j * 13, none⟩)) ?_ rfl
          unfold execOp
          dsimp only
          rw [e59, e60]
          go_simp
        · cases ho
          have e61 : a.eval (.tmp 93) = .pointer (some ⟨bw, ow + j * 13, none⟩) := hdep ⟨3, .data⟩ (by simp) rfl (show (3 : Nat) < 9 by decide)
          have z0 := keep_cell hb m0 hbw
          have z1 := keep_cell hb m1 hbw
          have z2 := keep_cell hb m2 hbw
          have z3 := keep_cell hb m3 hbw
          have z4 := keep_cell hb m4 hbw
          have z5 := keep_cell hb m5 hbw
          have z6 := keep_cell hb m6 hbw
          have z7 := keep_cell hb m7 hbw
          have z8 := keep_cell hb m8 hbw
          have z9 := keep_cell hb m9 hbw
          have z10 := keep_cell hb m10 hbw
          have z11 := keep_cell hb m11 hbw
          have z12 := keep_cell hb m12 hbw
          refine gives_read (v := .agg #[.int .i64 ak, .int .i64 x.k, .string x.n, .string x.x, .string x.d, .int .i64 x.c, .int .i64 x.s, .int .i64 x.e, .int .i64 x.t, .bool x.o, .slice ai x.l.length ci, .slice az x.z.length cz, .int .i64 cd]) ?_ rfl
          unfold execOp
          dsimp only
          rw [e61]
          go_simp
        · exact absurd rfl hic
        · cases ho
          have e63 : a.eval (.tmp 95) = .tuple #[sA X.1, oA X.2 t.a t.b t.k t.m] := hdep ⟨5, .data⟩ (by simp) rfl (show (5 : Nat) < 9 by decide)
          refine gives_read (v := .tuple #[sA X.1, oA X.2 t.a t.b t.k t.m]) ?_ rfl
          unfold execOp
          dsimp only
          rw [e63]
          go_simp
        · cases ho
          have e57 : a.eval (.tmp 89) = .tuple #[sA X.1, oA X.2 t.a t.b t.k t.m] := hdep ⟨6, .data⟩ (by simp) rfl (show (6 : Nat) < 9 by decide)
          refine gives_read (v := sA X.1) ?_ rfl
          unfold execOp
          dsimp only
          rw [e57]
          go_simp
        · cases ho
          have e57 : a.eval (.tmp 89) = .tuple #[sA X.1, oA X.2 t.a t.b t.k t.m] := hdep ⟨6, .data⟩ (by simp) rfl (show (6 : Nat) < 9 by decide)
          refine gives_read (v := oA X.2 t.a t.b t.k t.m) ?_ rfl
          unfold execOp
          dsimp only
          rw [e57]
          go_simp
      · intro o ho t a W hout hb hdep
        have ho : _ = some o := ho
        cases ho
        have e58 : a.eval (.tmp 90) = sA s := hdep ⟨0, .data⟩ (by simp) rfl (show (0 : Nat) < 9 by decide)
        have e62 : a.eval (.tmp 94) = .agg #[.int .i64 ak, .int .i64 x.k, .string x.n, .string x.x, .string x.d, .int .i64 x.c, .int .i64 x.s, .int .i64 x.e, .int .i64 x.t, .bool x.o, .slice ai x.l.length ci, .slice az x.z.length cz, .int .i64 cd] := hdep ⟨4, .data⟩ (by simp) rfl (show (4 : Nat) < 9 by decide)
        refine gives_call (f := 13) (args := #[sA s, .agg #[.int .i64 ak, .int .i64 x.k, .string x.n, .string x.x, .string x.d, .int .i64 x.c, .int .i64 x.s, .int .i64 x.e, .int .i64 x.t, .bool x.o, .slice ai x.l.length ci, .slice az x.z.length cz, .int .i64 cd]]) ?_ ((CMz.out W hb).mono ?_)
        · unfold execOp
          dsimp only
          simp only [resolve, List.map_toArray, List.map_cons, List.map_nil, e58, e62]
          go_simp
        · rintro e W' ⟨a, b, k, m, rfl, hb, f1, f2⟩
          exact ⟨_, rfl, hb, ⟨a, b, k, m, W.heap.size⟩, rfl, ⟨f1, f2⟩, rfl⟩
      · intro o ho a W
        have ho : _ = some o := ho
        cases ho
        refine ⟨#[.int .i64 0, .string ⟨#[]⟩, .string ⟨#[]⟩, .int .i64 0, .int .i64 0, .int .i64 0, .int .i64 0, .int .i64 0, .int .i64 0], rfl, ?_⟩
        unfold execOp
        dsimp only
        go_simp
        rfl
      · intro o ho a W
        have ho : _ = some o := ho
        cases ho
        refine ⟨#[.slice none 0 0, .bool false, .slice none 0 0], rfl, ?_⟩
        unfold execOp
        dsimp only
        go_simp
        rfl
      · intro o ho t a W A fz eA hz hw hdep
        have ho : _ = some o := ho
        cases ho
        have e9 : a.eval (.tmp 16) = .pointer (some ⟨A, 0, none⟩) := eA
        have e64 : a.eval (.tmp 96) = sA X.1 := hdep ⟨7, .data⟩ (by simp) rfl (show (7 : Nat) < 9 by decide)
        obtain ⟨u0, u1, u2, u3, u4, u5, u6, u7, u8, rfl⟩ := arr9 hz
        have hw : W.heap[A]? = some (.cells #[u0, u1, u2, u3, u4, u5, u6, u7, u8] 28 (0, 0)) := hw
        obtain ⟨c0, c1, c2, c3, c4, c5, c6, c7, c8⟩ := bx9 hw
        obtain ⟨g0, g1, g2, g3, g4, g5, g6, g7, g8⟩ := bx9f hw
        refine ⟨_, ?_, put9 W A (.int .i64 X.1.p) (.string X.1.n) (.string X.1.d) (.int .i64 X.1.s) (.int .i64 X.1.t) (.int .i64 X.1.c) (.int .i64 X.1.h) (.int .i64 X.1.a) (.int .i64 X.1.e), rfl, st9 hw (.int .i64 X.1.p) (.string X.1.n) (.string X.1.d) (.int .i64 X.1.s) (.int .i64 X.1.t) (.int .i64 X.1.c) (.int .i64 X.1.h) (.int .i64 X.1.a) (.int .i64 X.1.e)⟩
        unfold execOp
        dsimp only
        rw [e9, e64]
        unfold sA
        go_simp
      · intro o ho t a W A fz eA hz hw hdep
        have ho : _ = some o := ho
        cases ho
        have e9 : a.eval (.tmp 17) = .pointer (some ⟨A, 0, none⟩) := eA
        have e64 : a.eval (.tmp 97) = oA X.2 t.a t.b t.k t.m := hdep ⟨8, .data⟩ (by simp) rfl (show (8 : Nat) < 9 by decide)
        obtain ⟨u0, u1, u2, rfl⟩ := arr3 hz
        have hw : W.heap[A]? = some (.cells #[u0, u1, u2] 31 (0, 0)) := hw
        obtain ⟨c0, c1, c2⟩ := bx3 hw
        obtain ⟨g0, g1, g2⟩ := bx3f hw
        refine ⟨_, ?_, put3 W A (.slice t.a X.2.m.length t.k) (.bool X.2.f) (.slice t.b X.2.u.length t.m), rfl, st3 hw (.slice t.a X.2.m.length t.k) (.bool X.2.f) (.slice t.b X.2.u.length t.m)⟩
        unfold execOp
        dsimp only
        rw [e9, e64]
        unfold oA
        go_simp
      · intro a W A B t w5 ha hb e9 e10 hA hB hAB hwA hwB hP h5 hag
        have HBW := Lib.hid hb
        have H5 := Lib.hid hwA
        have H6 := Lib.hid hwB
        have HN := Lib.hid (Fr.agree hP.1 h5 hag)
        have HM := Lib.hid (Fv.agree hP.2 h5 hag)
        have HL := Lib.hid (⟨hA, hB, hAB⟩ : wz.heap.size ≤ A ∧ wz.heap.size ≤ B ∧ A ≠ B)
        have e9 : a.eval (.tmp 16) = .pointer (some ⟨A, 0, none⟩) := e9
        have e10 : a.eval (.tmp 17) = .pointer (some ⟨B, 0, none⟩) := e10
        clear hb hwA hwB hP h5 hag hA hB hAB
        simp only [canonL] at ha
        rw [e9, e10] at ha
        clear e9 e10
        generalize a.eval (.tmp 89) = g89 at ha
        generalize a.eval (.tmp 90) = g90 at ha
        generalize a.eval (.tmp 91) = g91 at ha
        generalize a.eval (.tmp 92) = g92 at ha
        generalize a.eval (.tmp 93) = g93 at ha
        generalize a.eval (.tmp 94) = g94 at ha
        generalize a.eval (.tmp 95) = g95 at ha
        generalize a.eval (.tmp 96) = g96 at ha
        generalize a.eval (.tmp 97) = g97 at ha
        simp only [Act.put, List.setIfInBounds_toArray, List.set_cons_succ, List.set_cons_zero] at ha
        subst ha
        obtain ⟨ua, ub, uk, um, ulo⟩ := t
        dsimp only at HN HM H6 ⊢
        have hq16 : A7 ≠ A := Nat.ne_of_lt (Nat.lt_of_lt_of_le (heap_lt HS.out) HL.out.1)
        have hq16' : A ≠ A7 := Ne.symm hq16
        replace HS := kpB HBW.out HS
        replace HT := kpB HBW.out HT
        replace H14 := kpB HBW.out H14
        replace H15 := kpB HBW.out H15
        have HBq := Lib.hid (HBz.out.trans (HBW.out.mono HBz.out.size))
        have CQ := Lib.hid (rsaid_yes X.2 ta tb ua ub tk tm uk um W (Nat.le_trans em (by decide)) (Nat.le_trans eu (by decide)) (HN1.out.below HBW.out).self (HM1.out.below HBW.out).self HN.out.self (HM.out W (fun _ _ _ => rfl) (HNz.out W HBW.out)))
        clear HBz CMz HNz HN1 HM1 HN HM HL m0 m1 m2 m3 m4 m5 m6 m7 m8 m9 m10 m11 m12 em eu
        generalize A = P16 at H5 hq16 hq16' ⊢
        generalize B = P17 at H6 ⊢
        generalize W = w20 at HS HT H14 H15 H5 H6 HBq CQ ⊢
        obtain ⟨m0, m1, m2, m3, m4, m5, m6, m7, m8⟩ := bx9 H14.out
        obtain ⟨z0, z1, z2, z3, z4, z5, z6, z7, z8⟩ := bx9 H5.out
        obtain ⟨y0, y1, y2⟩ := bx3 H15.out
        obtain ⟨v0, v1, v2⟩ := bx3 H6.out
        have ep : (X.1.p == X.1.p) = true := beq_self_eq_true _
        have en : (X.1.n.toList == X.1.n.toList) = true := beq_self_eq_true _
        have ed : (X.1.d.toList == X.1.d.toList) = true := beq_self_eq_true _
        have es : (X.1.s == X.1.s) = true := beq_self_eq_true _
        have et : (X.1.t == X.1.t) = true := beq_self_eq_true _
        have ec : (X.1.c == X.1.c) = true := beq_self_eq_true _
        have eh : (X.1.h == X.1.h) = true := beq_self_eq_true _
        have ea : (X.1.a == X.1.a) = true := beq_self_eq_true _
        have ee : (X.1.e == X.1.e) = true := beq_self_eq_true _
        go_wp2_with fail
        refine CQ.out.mono ?_
        rintro e w21 ⟨rfl, hb⟩
        replace HS := kpB hb HS
        replace HT := kpB hb HT
        replace H14 := kpB hb H14
        replace H5 := kpB hb H5
        have HBr := Lib.hid (HBq.out.trans (hb.mono HBq.out.size))
        clear hb CQ HBq H15 H6 m0 z0 m1 z1 m2 z2 m3 z3 m4 z4 m5 z5 m6 z6 m7 z7 m8 z8 y0 y1 y2 v0 v1 v2 ep en ed es et ec eh ea ee
        go_upto_region 14 with fail
        obtain ⟨m0, m1, m2, m3, m4, m5, m6, m7, m8⟩ := bx9 H14.out
        obtain ⟨z0, z1, z2, z3, z4, z5, z6, z7, z8⟩ := bx9 H5.out
        obtain ⟨p0, p1, p2, p3, p4, p5, p6, p7, p8⟩ := bx9 HS.out
        obtain ⟨q0, q1, q2, q3, q4, q5, q6, q7, q8⟩ := bx9 HT.out
        obtain ⟨f0, f1, f2, f3, f4, f5, f6, f7, f8⟩ := bx9f HS.out
        obtain ⟨g0, g1, g2, g3, g4, g5, g6, g7, g8⟩ := bx9f HT.out
        have hne1 : A7 ≠ A10 := Nat.ne_of_lt hA7
        have hne2 : A10 ≠ A7 := Ne.symm hne1
        go_region
        have HS1 := st9 HS.out (.int .i64 X.1.p) (.string X.1.n) (.string X.1.d) (.int .i64 X.1.s) (.int .i64 X.1.t) (.int .i64 X.1.c) (.int .i64 X.1.h) (.int .i64 X.1.a) (.int .i64 X.1.e)
        have HT1 := ((put9 w21 A7 (.int .i64 X.1.p) (.string X.1.n) (.string X.1.d) (.int .i64 X.1.s) (.int .i64 X.1.t) (.int .i64 X.1.c) (.int .i64 X.1.h) (.int .i64 X.1.a) (.int .i64 X.1.e)).other A10 hne2).trans HT.out
        have HB1 : Below w.heap.size w (((((((((w21.setCell ⟨A7, 0, none⟩ (.int .i64 X.1.p)).setCell ⟨A7, 1, none⟩ (.string X.1.n)).setCell ⟨A7, 2, none⟩ (.string X.1.d)).setCell ⟨A7, 3, none⟩ (.int .i64 X.1.s)).setCell ⟨A7, 4, none⟩ (.int .i64 X.1.t)).setCell ⟨A7, 5, none⟩ (.int .i64 X.1.c)).setCell ⟨A7, 6, none⟩ (.int .i64 X.1.h)).setCell ⟨A7, 7, none⟩ (.int .i64 X.1.a)).setCell ⟨A7, 8, none⟩ (.int .i64 X.1.e)) := (((((((((HBr.out.setCell (p := ⟨A7, 0, none⟩) hlo2 (.int .i64 X.1.p)).setCell (p := ⟨A7, 1, none⟩) hlo2 (.string X.1.n)).setCell (p := ⟨A7, 2, none⟩) hlo2 (.string X.1.d)).setCell (p := ⟨A7, 3, none⟩) hlo2 (.int .i64 X.1.s)).setCell (p := ⟨A7, 4, none⟩) hlo2 (.int .i64 X.1.t)).setCell (p := ⟨A7, 5, none⟩) hlo2 (.int .i64 X.1.c)).setCell (p := ⟨A7, 6, none⟩) hlo2 (.int .i64 X.1.h)).setCell (p := ⟨A7, 7, none⟩) hlo2 (.int .i64 X.1.a)).setCell (p := ⟨A7, 8, none⟩) hlo2 (.int .i64 X.1.e))
        clear HS HT HBr H14 H5 m0 z0 p0 q0 f0 g0 m1 z1 p1 q1 f1 g1 m2 z2 p2 q2 f2 g2 m3 z3 p3 q3 f3 g3 m4 z4 p4 q4 f4 g4 m5 z5 p5 q5 f5 g5 m6 z6 p6 q6 f6 g6 m7 z7 p7 q7 f7 g7 m8 z8 p8 q8 f8 g8
        generalize (((((((((w21.setCell ⟨A7, 0, none⟩ (.int .i64 X.1.p)).setCell ⟨A7, 1, none⟩ (.string X.1.n)).setCell ⟨A7, 2, none⟩ (.string X.1.d)).setCell ⟨A7, 3, none⟩ (.int .i64 X.1.s)).setCell ⟨A7, 4, none⟩ (.int .i64 X.1.t)).setCell ⟨A7, 5, none⟩ (.int .i64 X.1.c)).setCell ⟨A7, 6, none⟩ (.int .i64 X.1.h)).setCell ⟨A7, 7, none⟩ (.int .i64 X.1.a)).setCell ⟨A7, 8, none⟩ (.int .i64 X.1.e)) = W1 at HS1 HT1 HB1 ⊢
        have HS2 := Lib.hid ((drew_at _ _).trans (((put9 W1 A10 (.int .i64 X.1.p) (.string X.1.n) (.string X.1.d) (.int .i64 X.1.s) (.int .i64 X.1.t) (.int .i64 X.1.c) (.int .i64 X.1.h) (.int .i64 X.1.a) (.int .i64 X.1.e)).other A7 hne1).trans HS1))
        have HT2 := Lib.hid ((drew_at _ _).trans (st9 HT1 (.int .i64 X.1.p) (.string X.1.n) (.string X.1.d) (.int .i64 X.1.s) (.int .i64 X.1.t) (.int .i64 X.1.c) (.int .i64 X.1.h) (.int .i64 X.1.a) (.int .i64 X.1.e)))
        have HB2 : Hid (Below w.heap.size w (((((((((W1.setCell ⟨A10, 0, none⟩ (.int .i64 X.1.p)).setCell ⟨A10, 1, none⟩ (.string X.1.n)).setCell ⟨A10, 2, none⟩ (.string X.1.d)).setCell ⟨A10, 3, none⟩ (.int .i64 X.1.s)).setCell ⟨A10, 4, none⟩ (.int .i64 X.1.t)).setCell ⟨A10, 5, none⟩ (.int .i64 X.1.c)).setCell ⟨A10, 6, none⟩ (.int .i64 X.1.h)).setCell ⟨A10, 7, none⟩ (.int .i64 X.1.a)).setCell ⟨A10, 8, none⟩ (.int .i64 X.1.e)).drew) := Lib.hid (Below.drew (((((((((HB1.setCell (p := ⟨A10, 0, none⟩) hlo4 (.int .i64 X.1.p)).setCell (p := ⟨A10, 1, none⟩) hlo4 (.string X.1.n)).setCell (p := ⟨A10, 2, none⟩) hlo4 (.string X.1.d)).setCell (p := ⟨A10, 3, none⟩) hlo4 (.int .i64 X.1.s)).setCell (p := ⟨A10, 4, none⟩) hlo4 (.int .i64 X.1.t)).setCell (p := ⟨A10, 5, none⟩) hlo4 (.int .i64 X.1.c)).setCell (p := ⟨A10, 6, none⟩) hlo4 (.int .i64 X.1.h)).setCell (p := ⟨A10, 7, none⟩) hlo4 (.int .i64 X.1.a)).setCell (p := ⟨A10, 8, none⟩) hlo4 (.int .i64 X.1.e)))
        clear HS1 HT1 HB1
        generalize (((((((((W1.setCell ⟨A10, 0, none⟩ (.int .i64 X.1.p)).setCell ⟨A10, 1, none⟩ (.string X.1.n)).setCell ⟨A10, 2, none⟩ (.string X.1.d)).setCell ⟨A10, 3, none⟩ (.int .i64 X.1.s)).setCell ⟨A10, 4, none⟩ (.int .i64 X.1.t)).setCell ⟨A10, 5, none⟩ (.int .i64 X.1.c)).setCell ⟨A10, 6, none⟩ (.int .i64 X.1.h)).setCell ⟨A10, 7, none⟩ (.int .i64 X.1.a)).setCell ⟨A10, 8, none⟩ (.int .i64 X.1.e)).drew = W9 at HS2 HT2 HB2 ⊢
        go_wp2_with fail
        exact ⟨⟨j + 1, X.1, by go_num, by omega, HV2, HS2, HT2, HB2⟩, by simp [RowKit.intOf]; omega⟩
theorem runs_walk (n d : ByteArray) (s0 t0 c0 : Int) (aw : Option Addr) (l : List Ac) (cw : Nat) (code : Int) (w : World) (hn : n.size ≤ 140737488351232) (hd : d.size ≤ 140737488351232) (hl : l.length ≤ 140737488351232) (hG : Gl w) (hA : AcS w aw l) : Calls Tryz.prog 3 #[.agg #[.string n, .string d, .int .i64 s0, .int .i64 t0, .int .i64 c0], .slice aw l.length cw, .int .i64 code] w (OkL w) := by
  by_cases h1 : 12000 < n.size + d.size
  · exact runs_1 n d s0 t0 c0 aw l cw code w hn hd hl hG hA h1
  · exact runs_3 n d s0 t0 c0 aw l cw code w hn hd hl hG hA h1
end Go.Proofs.YthbeempmdpfnmaaGreatDoor.T
