/- SessionOrder's walk. Conditions: those of each theorem's head. -/
import Derived.Test.YtpipigghbdfihaaDoorL3
import Derived.Test.YtpipigghbdfihaaDoorL6
import Derived.Test.YtpipigghbdfihaaDoorRt
import Derived.Deep.QuietTactic
import Derived.BigQuiet
namespace Go.Proofs.YtpipigghbdfihaaDoor.T
open Go.RowKit Go.Lib

/-- A session that began so, behind j things. -/
structure Sv (n d : ByteArray) (s : Ss) (j : Nat) : Prop where
  p1 : 1 ≤ s.p
  p6 : s.p ≤ 6
  hn : s.n = n
  hd : s.d = d
  h0 : 0 ≤ s.h
  h1 : s.h ≤ (j : Int)
  a0 : 0 ≤ s.a
  a1 : s.a ≤ (j : Int)
theorem cnt_dos (s : Ss) (a : Ac) (K : Int) (hK : 0 ≤ K) (h0 : 0 ≤ s.h) (h1 : s.h ≤ K) (a0 : 0 ≤ s.a) (a1 : s.a ≤ K) : 0 ≤ (dos s a).1.h ∧ (dos s a).1.h ≤ K + 1 ∧ 0 ≤ (dos s a).1.a ∧ (dos s a).1.a ≤ K + 1 := by
  unfold dos tk tc sp sn
  repeat' split
  all_goals (refine ⟨?_, ?_, ?_, ?_⟩ <;> (dsimp only; omega))
theorem few_dos (s : Ss) (a : Ac) : (dos s a).2.m.length ≤ 2 := by
  unfold dos tk tc sp
  repeat' split
  all_goals (dsimp only [zO, List.length_cons, List.length_nil]; omega)
theorem Sv.dos {n d : ByteArray} {s : Ss} {j : Nat} (h : Sv n d s j) (hd : ¬ d.size = 0) (a : Ac) : Sv n d (dos s a).1 (j + 1) ∧ Ordr s a.n.d (dos s a) ∧ (dos s a).2.m.length ≤ 2 := by
  have ho := ordr_dos s a h.p1 h.p6 (by rw [h.hd]; exact hd)
  obtain ⟨c1, c2, c3, c4⟩ := cnt_dos s a j (by omega) h.h0 h.h1 h.a0 h.a1
  refine ⟨⟨Int.le_trans h.p1 ho.up, ho.six, ho.hn.trans h.hn, ho.hd.trans h.hd, c1, by omega, c3, by omega⟩, ho, few_dos s a⟩
theorem begin_o (n d : ByteArray) (s t c : Int) : (stE n d s t c = 0 ∧ Sv n d (stS n d s t c) 0 ∧ ¬ d.size = 0) ∨ (stE n d s t c = 2 ∧ stS n d s t c = zS ∧ stO n d s t c = zO) := by
  cases ho : stOk n d s t c
  · right
    unfold stE stS stO
    rw [ho]
    exact ⟨rfl, rfl, rfl⟩
  · left
    unfold stE stS
    rw [ho]
    refine ⟨rfl, ⟨Int.le_refl _, by show (1 : Int) ≤ 6; omega, rfl, rfl, Int.le_refl _, Int.le_refl _, Int.le_refl _, Int.le_refl _⟩, ?_⟩
    unfold stOk pwB at ho
    simp only [Bool.and_eq_true, decide_eq_true_eq] at ho
    exact ho.2.1.1
theorem toList_inj {a b : ByteArray} (h : a.toList = b.toList) : a = b := By.bytes_ext (by rw [ByteArray.toList_eq, ByteArray.toList_eq] at h; exact h)
theorem put9 (W : World) (A : Nat) (u0 u1 u2 u3 u4 u5 u6 u7 u8 : Value) : PutAt W (((((((((W.setCell ⟨A, 0, none⟩ u0).setCell ⟨A, 1, none⟩ u1).setCell ⟨A, 2, none⟩ u2).setCell ⟨A, 3, none⟩ u3).setCell ⟨A, 4, none⟩ u4).setCell ⟨A, 5, none⟩ u5).setCell ⟨A, 6, none⟩ u6).setCell ⟨A, 7, none⟩ u7).setCell ⟨A, 8, none⟩ u8) A :=
  ((((((((PutAt.cell W A 0 u0).trans (.cell _ A 1 u1)).trans (.cell _ A 2 u2)).trans (.cell _ A 3 u3)).trans (.cell _ A 4 u4)).trans (.cell _ A 5 u5)).trans (.cell _ A 6 u6)).trans (.cell _ A 7 u7)).trans (.cell _ A 8 u8)
theorem put3 (W : World) (A : Nat) (u0 u1 u2 : Value) : PutAt W (((W.setCell ⟨A, 0, none⟩ u0).setCell ⟨A, 1, none⟩ u1).setCell ⟨A, 2, none⟩ u2) A :=
  ((PutAt.cell W A 0 u0).trans (.cell _ A 1 u1)).trans (.cell _ A 2 u2)
theorem arr9 {fz : Array Value} (h : fz.size = 9) : ∃ u0 u1 u2 u3 u4 u5 u6 u7 u8, fz = #[u0, u1, u2, u3, u4, u5, u6, u7, u8] := by
  obtain ⟨l⟩ := fz
  match l, h with
  | [u0, u1, u2, u3, u4, u5, u6, u7, u8], _ => exact ⟨u0, u1, u2, u3, u4, u5, u6, u7, u8, rfl⟩
theorem arr3 {fz : Array Value} (h : fz.size = 3) : ∃ u0 u1 u2, fz = #[u0, u1, u2] := by
  obtain ⟨l⟩ := fz
  match l, h with
  | [u0, u1, u2], _ => exact ⟨u0, u1, u2, rfl⟩
/-- What a step answers beside what it says: where its notes lie. -/
structure Pa where
  a : Option Addr
  b : Option Addr
  k : Nat
  m : Nat
  lo : Nat
def ds9 (j : Nat) : Nat := match j with | 0 => 58 | 1 => 59 | 2 => 60 | 3 => 61 | 4 => 62 | 5 => 63 | 6 => 57 | 7 => 64 | _ => 65
def val9 (s : Ss) (X : Ss × So) (lv pv iv av : Value) (t : Pa) (j : Nat) : Value := match j with
  | 0 => sA s | 1 => lv | 2 => iv | 3 => pv | 4 => av | 5 => .tuple #[sA X.1, oA X.2 t.a t.b t.k t.m] | 6 => .tuple #[sA X.1, oA X.2 t.a t.b t.k t.m] | 7 => sA X.1 | _ => oA X.2 t.a t.b t.k t.m
/-- The region that does a step, and keeps both results in boxes of their own. -/
def two9 (s : Ss) (X : Ss × So) (lv pv iv av : Value) : Two Pa :=
  { n := 9, c := 5, ds := ds9, sA := 9, sB := 10, V := val9 s X lv pv iv av, Pay := fun t W => Fr t.lo W t.a X.2.m ∧ Fr t.lo W t.b X.2.u, lo := Pa.lo, TA := 28, TB := 31, zA := 9, zB := 3, FA := fun _ => sC X.1, FB := fun t => #[.slice t.a X.2.m.length t.k, .bool X.2.f, .slice t.b X.2.u.length t.m] }

set_option maxRecDepth 100000 in
set_option maxHeartbeats 8000000 in
theorem order_1 (n d : ByteArray) (s0 t0 c0 : Int) (aw : Option Addr) (l : List Ac) (cw : Nat) (w : World) (_hn : n.size ≤ 140737488351232) (_hd : d.size ≤ 140737488351232) (_hl : l.length ≤ 140737488351232) (hG : Gl w) (_hA : AcS w aw l) (h1 : 12000 < n.size + d.size) : Calls Tryd.prog 3 #[.agg #[.string n, .string d, .int .i64 s0, .int .i64 t0, .int .i64 c0], .slice aw l.length cw] w (OkL w) := by
  have LV := Lib.hid (fun W (hb : Below w.heap.size w W) => live_any W (hG.below hb))
  clear hG
  have g1 : decide ((12000 : Int) < (n.size : Int) + (d.size : Int)) = true := by rw [decide_eq_true_iff]; omega
  have g2 : (12000 : Int) < (n.size : Int) + (d.size : Int) := by omega
  clear h1
  have HX := Lib.hid (box_new w #[.string n, .string d, .int .i64 s0, .int .i64 t0, .int .i64 c0] 23)
  have HB : Hid (Below w.heap.size w (w.alloc (.cells #[.string n, .string d, .int .i64 s0, .int .i64 t0, .int .i64 c0] 23))) := (Below.refl _ w).alloc (Nat.le_refl _) _
  obtain ⟨m0, m1, m2, m3, m4⟩ := bx5 HX.out
  go_enter Tryd.func3, Tryd.ntmps3
  go_wp2_with fail
  refine (LV.out _ HB.out).mono ?_
  rintro e w1 ⟨rfl, hb⟩
  have HB1 := Lib.hid (HB.out.trans (hb.mono HB.out.size))
  clear hb m0 m1 m2 m3 m4
  go_wp2_with fail
  go_ret
  exact ⟨rfl, HB1.out⟩
set_option maxRecDepth 100000 in
set_option maxHeartbeats 8000000 in
theorem order_3 (n d : ByteArray) (s0 t0 c0 : Int) (aw : Option Addr) (l : List Ac) (cw : Nat) (w : World) (hn : n.size ≤ 140737488351232) (hd : d.size ≤ 140737488351232) (hl : l.length ≤ 140737488351232) (hG : Gl w) (hA : AcS w aw l) (h1 : ¬ 12000 < n.size + d.size) : Calls Tryd.prog 3 #[.agg #[.string n, .string d, .int .i64 s0, .int .i64 t0, .int .i64 c0], .slice aw l.length cw] w (OkL w) := by
  have LV := Lib.hid (fun W (hb : Below w.heap.size w W) => live_any W (hG.below hb))
  have HG := Lib.hid (fun W (hb : Below w.heap.size w W) => hG.below hb)
  have HA := Lib.hid hA
  have g1 : decide ((12000 : Int) < (n.size : Int) + (d.size : Int)) = false := by rw [decide_eq_false_iff_not]; omega
  have g2 : ¬ (12000 : Int) < (n.size : Int) + (d.size : Int) := by omega
  have hns : n.size ≤ 12000 := by omega
  have hds : d.size ≤ 12000 := by omega
  have BG := Lib.hid (fun W => begin_any n d s0 t0 c0 W (by omega) (by omega))
  have CM := Lib.hid (fun W (hb : Below w.heap.size w W) => small_any l aw cw W hl (hA.below hb))
  have HBO := Lib.hid (begin_o n d s0 t0 c0)
  clear hG hA h1
  have HX := Lib.hid (box_new w #[.string n, .string d, .int .i64 s0, .int .i64 t0, .int .i64 c0] 23)
  have HB : Hid (Below w.heap.size w (w.alloc (.cells #[.string n, .string d, .int .i64 s0, .int .i64 t0, .int .i64 c0] 23))) := (Below.refl _ w).alloc (Nat.le_refl _) _
  obtain ⟨m0, m1, m2, m3, m4⟩ := bx5 HX.out
  go_enter Tryd.func3, Tryd.ntmps3
  go_wp2_with fail
  refine (CM.out _ HB.out).mono ?_
  rintro e w1 ⟨bs, rfl, hb, hs⟩
  clear m0 m1 m2 m3 m4
  replace HX := kpB hb HX
  replace HB := Lib.hid (HB.out.trans (hb.mono HB.out.size))
  clear hb CM
  cases bs
  · go_wp2_with fail
    refine (LV.out _ HB.out).mono ?_
    rintro e w9 ⟨rfl, hb⟩
    have HB9 := Lib.hid (HB.out.trans (hb.mono HB.out.size))
    clear hb
    go_wp2_with fail
    go_ret
    exact ⟨rfl, HB9.out⟩
  have HSM := Lib.hid (hs rfl)
  clear hs
  obtain ⟨m0, m1, m2, m3, m4⟩ := bx5 HX.out
  go_wp2_with fail
  refine (BG.out _).mono ?_
  rintro e w2 ⟨a, b, k, m, rfl, hb, -, -⟩
  unfold sA oA
  clear m0 m1 m2 m3 m4
  have HC2 := Lib.hid (HB.out.trans (hb.mono HB.out.size))
  clear hb HB HX BG g1 g2
  go_upto_region 4 with fail
  obtain ⟨HE, HS, HO⟩ := bxTwo w2 #[.int .i64 (stS n d s0 t0 c0).p, .string (stS n d s0 t0 c0).n, .string (stS n d s0 t0 c0).d, .int .i64 (stS n d s0 t0 c0).s, .int .i64 (stS n d s0 t0 c0).t, .int .i64 (stS n d s0 t0 c0).c, .int .i64 (stS n d s0 t0 c0).h, .int .i64 (stS n d s0 t0 c0).a, .int .i64 (stS n d s0 t0 c0).e] 28 #[.slice a (stO n d s0 t0 c0).m.length k, .bool (stO n d s0 t0 c0).f, .slice b (stO n d s0 t0 c0).u.length m] 31
  have HB3 := Lib.hid (HC2.out.trans (HE.out.mono HC2.out.size))
  have hA1 : w.heap.size ≤ w2.heap.size := HC2.out.size
  clear HE HC2
  generalize ((w2.alloc (.cells #[.int .i64 (stS n d s0 t0 c0).p, .string (stS n d s0 t0 c0).n, .string (stS n d s0 t0 c0).d, .int .i64 (stS n d s0 t0 c0).s, .int .i64 (stS n d s0 t0 c0).t, .int .i64 (stS n d s0 t0 c0).c, .int .i64 (stS n d s0 t0 c0).h, .int .i64 (stS n d s0 t0 c0).a, .int .i64 (stS n d s0 t0 c0).e] 28)).alloc (.cells #[.slice a (stO n d s0 t0 c0).m.length k, .bool (stO n d s0 t0 c0).f, .slice b (stO n d s0 t0 c0).u.length m] 31)) = W3 at HS HO HB3 ⊢
  rcases HBO.out with ⟨hx, hv, hdne⟩ | ⟨hx, hT, hO⟩
  rotate_left
  · rw [hx, hT, hO]
    rw [hT] at HS
    rw [hO] at HO
    simp only [zS, zO, List.length_nil] at HS HO ⊢
    have hAA : w2.heap.size < W3.heap.size := heap_lt HS.out
    generalize w2.heap.size = A1 at HS HO hA1 hAA ⊢
    obtain ⟨m0, m1, m2, m3, m4, m5, m6, m7, m8⟩ := bx9 HS.out
    obtain ⟨y0, y1, y2⟩ := bx3 HO.out
    clear HBO hx hT hO
    go_wp2_with fail
    refine (LV.out _ HB3.out).mono ?_
    rintro e w9 ⟨rfl, hb⟩
    have HB9 := Lib.hid (HB3.out.trans (hb.mono HB3.out.size))
    clear hb
    go_wp2_with fail
    go_ret
    exact ⟨rfl, HB9.out⟩
  generalize w2.heap.size = A1 at HS hA1 ⊢
  clear HO HBO
  rw [hx]
  clear hx
  have HV0 := Lib.hid hv
  clear hv
  generalize stS n d s0 t0 c0 = T at HS HV0
  go_wp2_with fail
  go_loopw [8] (fun i wr => ∃ (j : Nat) (s : Ss), i = .int .i64 j ∧ j ≤ l.length ∧ Hid (Sv n d s j) ∧ Hid (wr.heap[A1]? = some (.cells #[.int .i64 s.p, .string s.n, .string s.d, .int .i64 s.s, .int .i64 s.t, .int .i64 s.c, .int .i64 s.h, .int .i64 s.a, .int .i64 s.e] 28 (0, 0))) ∧ Hid (Below w.heap.size w wr)) (fun i _ => l.length - (RowKit.intOf i).toNat)
  case atStart => exact ⟨0, T, rfl, Nat.zero_le _, HV0, HS, HB3⟩
  case round =>
    clear HS HB3 HV0
    obtain ⟨j, s, rfl, hj, HV, HS, HB⟩ := hrel
    by_cases hlt : j < l.length
    rotate_left
    · have hje : j = l.length := by omega
      subst hje
      have d1 : ¬ (l.length : Int) < (l.length : Int) := by omega
      have d2 : decide ((l.length : Int) < (l.length : Int)) = false := by rw [decide_eq_false_iff_not]; omega
      go_wp2_with fail
      refine (LV.out _ HB.out).mono ?_
      rintro e w9 ⟨rfl, hb⟩
      have HB9 := Lib.hid (HB.out.trans (hb.mono HB.out.size))
      clear hb
      go_wp2_with fail
      go_ret
      exact ⟨rfl, HB9.out⟩
    obtain ⟨bw, ow, rfl, ai, az, ci, cz, k0, k1, k2, k3, k4, k5, k6, k7, k8, k9, k10, k11, k12, hR⟩ := (HA.out.below HB.out) j hlt
    have HSMj := Lib.hid ((HSM.out).2 j hlt)
    have hl150 := HSM.out.1
    have m0 : wr.cell? ⟨bw, ow + j * 13, none⟩ = some (.int .i64 l[j].k) := k0
    have m1 : wr.cell? ⟨bw, ow + j * 13 + 1, none⟩ = some (.int .i64 l[j].n.k) := k1
    have m2 : wr.cell? ⟨bw, ow + j * 13 + 2, none⟩ = some (.string l[j].n.n) := k2
    have m3 : wr.cell? ⟨bw, ow + j * 13 + 3, none⟩ = some (.string l[j].n.x) := k3
    have m4 : wr.cell? ⟨bw, ow + j * 13 + 4, none⟩ = some (.string l[j].n.d) := k4
    have m5 : wr.cell? ⟨bw, ow + j * 13 + 5, none⟩ = some (.int .i64 l[j].n.c) := k5
    have m6 : wr.cell? ⟨bw, ow + j * 13 + 6, none⟩ = some (.int .i64 l[j].n.s) := k6
    have m7 : wr.cell? ⟨bw, ow + j * 13 + 7, none⟩ = some (.int .i64 l[j].n.e) := k7
    have m8 : wr.cell? ⟨bw, ow + j * 13 + 8, none⟩ = some (.int .i64 l[j].n.t) := k8
    have m9 : wr.cell? ⟨bw, ow + j * 13 + 9, none⟩ = some (.bool l[j].n.o) := k9
    have m10 : wr.cell? ⟨bw, ow + j * 13 + 10, none⟩ = some (.slice ai l[j].n.l.length ci) := k10
    have m11 : wr.cell? ⟨bw, ow + j * 13 + 11, none⟩ = some (.slice az l[j].n.z.length cz) := k11
    have m12 : wr.cell? ⟨bw, ow + j * 13 + 12, none⟩ = some (.int .i64 l[j].c) := k12
    clear k0 k1 k2 k3 k4 k5 k6 k7 k8 k9 k10 k11 k12
    generalize l[j] = ac at hR HSMj m0 m1 m2 m3 m4 m5 m6 m7 m8 m9 m10 m11 m12
    have hRL := hR.small HSMj.out (by decide)
    have CD0 : Hid (∀ W, Below wr.heap.size wr W → Calls Tryd.prog 9 #[sA s, acA ac ai az ci cz] W (StQ (dos s ac) W)) := fun W hb => does_any s ac ai az ci cz W (hRL.below hb) (by rw [HV.out.hn]; omega) (by rw [HV.out.hd]; omega) (by have := HSMj.out.hd; omega) ((HG.out wr HB.out).below hb) ⟨HV.out.h0, by have := HV.out.h1; omega⟩ ⟨HV.out.a0, by have := HV.out.a1; omega⟩
    have HOD := Lib.hid (HV.out.dos hdne ac)
    obtain ⟨ak, x, cd⟩ := ac
    dsimp only at hR HSMj m0 m1 m2 m3 m4 m5 m6 m7 m8 m9 m10 m11 m12
    generalize dos s ⟨ak, x, cd⟩ = X at CD0 HOD
    have CD : Hid (∀ W, Below wr.heap.size wr W → Calls Tryd.prog 9 #[sA s, .agg #[.int .i64 ak, .int .i64 x.k, .string x.n, .string x.x, .string x.d, .int .i64 x.c, .int .i64 x.s, .int .i64 x.e, .int .i64 x.t, .bool x.o, .slice ai x.l.length ci, .slice az x.z.length cz, .int .i64 cd]] W (StQ X W)) := CD0
    have HOD : Hid (Sv n d X.1 (j + 1) ∧ Ordr s x.d X ∧ X.2.m.length ≤ 2) := HOD
    clear CD0 hRL
    obtain ⟨s_0, s_1, s_2, s_3, s_4, s_5, s_6, s_7, s_8⟩ := bx9 HS.out
    have d1 : decide ((j : Int) < (l.length : Int)) = true := by rw [decide_eq_true_iff]; omega
    have d2 : (j : Int) < (l.length : Int) := by omega
    have hRR := Lib.hid hR
    clear hR
    go_upto_region 9 with fail
    clear d1 d2
    have hbw : bw < wr.heap.size := World.block_lt_of_cell? _ _ m0
    go_cut [9, 10] (fun p q wy => ∃ (wx : World) (P Q : Nat) (a b : Option Addr) (k m : Nat), wx = wy ∧ p = .pointer (some ⟨P, 0, none⟩) ∧ q = .pointer (some ⟨Q, 0, none⟩) ∧ Hid (wr.heap.size ≤ P ∧ wr.heap.size ≤ Q ∧ P ≠ Q) ∧ Hid (wx.heap[P]? = some (.cells #[.int .i64 X.1.p, .string X.1.n, .string X.1.d, .int .i64 X.1.s, .int .i64 X.1.t, .int .i64 X.1.c, .int .i64 X.1.h, .int .i64 X.1.a, .int .i64 X.1.e] 28 (0, 0))) ∧ Hid (wx.heap[Q]? = some (.cells #[.slice a X.2.m.length k, .bool X.2.f, .slice b X.2.u.length m] 31 (0, 0))) ∧ Hid (NtsS wx a X.2.m) ∧ Hid (Below wr.heap.size wr wx))
    case first =>
      refine region_two (two9 s X (.slice (some ⟨bw, ow, none⟩) l.length cw) (.pointer (some ⟨bw, ow + j * 13, none⟩)) (.int .i64 j) (.agg #[.int .i64 ak, .int .i64 x.k, .string x.n, .string x.x, .string x.d, .int .i64 x.c, .int .i64 x.s, .int .i64 x.e, .int .i64 x.t, .bool x.o, .slice ai x.l.length ci, .slice az x.z.length cz, .int .i64 cd])) [9, 10, 57, 58, 59, 60, 61, 62, 63, 64, 65] ⟨none, none, 0, 0, 0⟩ (by kernel_rfl) (by kernel_rfl) (by kernel_rfl) rfl (fun t t' j hj => ?_) ?_ ?_ ?_ ?_ ?_ ?_ ?_
      · have hj : j < 5 := hj
        have : j = 0 ∨ j = 1 ∨ j = 2 ∨ j = 3 ∨ j = 4 := by omega
        rcases this with rfl | rfl | rfl | rfl | rfl <;> rfl
      · intro i o hi hic ho t a W hout hb hdep
        have hi : i < 9 := hi
        have : i = 0 ∨ i = 1 ∨ i = 2 ∨ i = 3 ∨ i = 4 ∨ i = 5 ∨ i = 6 ∨ i = 7 ∨ i = 8 := by omega
        rcases this with rfl | rfl | rfl | rfl | rfl | rfl | rfl | rfl | rfl
        · cases ho
          have e5 : a.eval (.tmp 5) = .pointer (some ⟨A1, 0, none⟩) := (hout 5 (show (5 : Nat) ≠ 9 by decide) (show (5 : Nat) ≠ 10 by decide) (show (5 : Nat) ∉ (List.range 9).map ds9 by decide)).trans rfl
          obtain ⟨z0, z1, z2, z3, z4, z5, z6, z7, z8⟩ := bx9 ((hb.block _ (heap_lt HS.out)).trans HS.out)
          refine gives_read (v := sA s) ?_ rfl
          unfold execOp
          dsimp only
          rw [e5]
          go_simp
          rfl
        · cases ho
          have e1 : a.eval (.tmp 1) = .slice (some ⟨bw, ow, none⟩) l.length cw := (hout 1 (show (1 : Nat) ≠ 9 by decide) (show (1 : Nat) ≠ 10 by decide) (show (1 : Nat) ∉ (List.range 9).map ds9 by decide)).trans rfl
          refine gives_read (v := .slice (some ⟨bw, ow, none⟩) l.length cw) ?_ rfl
          unfold execOp
          dsimp only
          rw [e1]
          go_simp
        · cases ho
          have e8 : a.eval (.tmp 8) = .int .i64 j := (hout 8 (show (8 : Nat) ≠ 9 by decide) (show (8 : Nat) ≠ 10 by decide) (show (8 : Nat) ∉ (List.range 9).map ds9 by decide)).trans rfl
          refine gives_read (v := .int .i64 j) ?_ rfl
          unfold execOp
          dsimp only
          rw [e8]
          go_simp
        · cases ho
          have e59 : a.eval (.tmp 59) = .slice (some ⟨bw, ow, none⟩) l.length cw := hdep ⟨1, .data⟩ (by simp) rfl (show (1 : Nat) < 9 by decide)
          have e60 : a.eval (.tmp 60) = .int .i64 j := hdep ⟨2, .data⟩ (by simp) rfl (show (2 : Nat) < 9 by decide)
          refine gives_read (v := .pointer (some ⟨bw, ow + j * 13, none⟩)) ?_ rfl
          unfold execOp
          dsimp only
          rw [e59, e60]
          go_simp
        · cases ho
          have e61 : a.eval (.tmp 61) = .pointer (some ⟨bw, ow + j * 13, none⟩) := hdep ⟨3, .data⟩ (by simp) rfl (show (3 : Nat) < 9 by decide)
          have z0 := keep_cell hb m0 hbw
          have z1 := keep_cell hb m1 hbw
          have z2 := keep_cell hb m2 hbw
          have z3 := keep_cell hb m3 hbw
          have z4 := keep_cell hb m4 hbw
          have z5 := keep_cell hb m5 hbw
          have z6 := keep_cell hb m6 hbw
          have z7 := keep_cell hb m7 hbw
          have z8 := keep_cell hb m8 hbw
          have z9 := keep_cell hb m9 hbw
          have z10 := keep_cell hb m10 hbw
          have z11 := keep_cell hb m11 hbw
          have z12 := keep_cell hb m12 hbw
          refine gives_read (v := .agg #[.int .i64 ak, .int .i64 x.k, .string x.n, .string x.x, .string x.d, .int .i64 x.c, .int .i64 x.s, .int .i64 x.e, .int .i64 x.t, .bool x.o, .slice ai x.l.length ci, .slice az x.z.length cz, .int .i64 cd]) ?_ rfl
          unfold execOp
          dsimp only
          rw [e61]
          go_simp
        · exact absurd rfl hic
        · cases ho
          have e63 : a.eval (.tmp 63) = .tuple #[sA X.1, oA X.2 t.a t.b t.k t.m] := hdep ⟨5, .data⟩ (by simp) rfl (show (5 : Nat) < 9 by decide)
          refine gives_read (v := .tuple #[sA X.1, oA X.2 t.a t.b t.k t.m]) ?_ rfl
          unfold execOp
          dsimp only
          rw [e63]
          go_simp
        · cases ho
          have e57 : a.eval (.tmp 57) = .tuple #[sA X.1, oA X.2 t.a t.b t.k t.m] := hdep ⟨6, .data⟩ (by simp) rfl (show (6 : Nat) < 9 by decide)
          refine gives_read (v := sA X.1) ?_ rfl
          unfold execOp
          dsimp only
          rw [e57]
          go_simp
        · cases ho
          have e57 : a.eval (.tmp 57) = .tuple #[sA X.1, oA X.2 t.a t.b t.k t.m] := hdep ⟨6, .data⟩ (by simp) rfl (show (6 : Nat) < 9 by decide)
          refine gives_read (v := oA X.2 t.a t.b t.k t.m) ?_ rfl
          unfold execOp
          dsimp only
          rw [e57]
          go_simp
      · intro o ho t a W hout hb hdep
        have ho : _ = some o := ho
        cases ho
        have e58 : a.eval (.tmp 58) = sA s := hdep ⟨0, .data⟩ (by simp) rfl (show (0 : Nat) < 9 by decide)
        have e62 : a.eval (.tmp 62) = .agg #[.int .i64 ak, .int .i64 x.k, .string x.n, .string x.x, .string x.d, .int .i64 x.c, .int .i64 x.s, .int .i64 x.e, .int .i64 x.t, .bool x.o, .slice ai x.l.length ci, .slice az x.z.length cz, .int .i64 cd] := hdep ⟨4, .data⟩ (by simp) rfl (show (4 : Nat) < 9 by decide)
        refine gives_call (f := 9) (args := #[sA s, .agg #[.int .i64 ak, .int .i64 x.k, .string x.n, .string x.x, .string x.d, .int .i64 x.c, .int .i64 x.s, .int .i64 x.e, .int .i64 x.t, .bool x.o, .slice ai x.l.length ci, .slice az x.z.length cz, .int .i64 cd]]) ?_ ((CD.out W hb).mono ?_)
        · unfold execOp
          dsimp only
          simp only [resolve, List.map_toArray, List.map_cons, List.map_nil, e58, e62]
          go_simp
        · rintro e W' ⟨a, b, k, m, rfl, hb, f1, f2⟩
          exact ⟨_, rfl, hb, ⟨a, b, k, m, W.heap.size⟩, rfl, ⟨f1, f2⟩, rfl⟩
      · intro o ho a W
        have ho : _ = some o := ho
        cases ho
        refine ⟨#[.int .i64 0, .string ⟨#[]⟩, .string ⟨#[]⟩, .int .i64 0, .int .i64 0, .int .i64 0, .int .i64 0, .int .i64 0, .int .i64 0], rfl, ?_⟩
        unfold execOp
        dsimp only
        go_simp
        rfl
      · intro o ho a W
        have ho : _ = some o := ho
        cases ho
        refine ⟨#[.slice none 0 0, .bool false, .slice none 0 0], rfl, ?_⟩
        unfold execOp
        dsimp only
        go_simp
        rfl
      · intro o ho t a W A fz eA hz hw hdep
        have ho : _ = some o := ho
        cases ho
        have e9 : a.eval (.tmp 9) = .pointer (some ⟨A, 0, none⟩) := eA
        have e64 : a.eval (.tmp 64) = sA X.1 := hdep ⟨7, .data⟩ (by simp) rfl (show (7 : Nat) < 9 by decide)
        obtain ⟨u0, u1, u2, u3, u4, u5, u6, u7, u8, rfl⟩ := arr9 hz
        have hw : W.heap[A]? = some (.cells #[u0, u1, u2, u3, u4, u5, u6, u7, u8] 28 (0, 0)) := hw
        obtain ⟨c0, c1, c2, c3, c4, c5, c6, c7, c8⟩ := bx9 hw
        obtain ⟨g0, g1, g2, g3, g4, g5, g6, g7, g8⟩ := bx9f hw
        refine ⟨_, ?_, put9 W A (.int .i64 X.1.p) (.string X.1.n) (.string X.1.d) (.int .i64 X.1.s) (.int .i64 X.1.t) (.int .i64 X.1.c) (.int .i64 X.1.h) (.int .i64 X.1.a) (.int .i64 X.1.e), rfl, st9 hw (.int .i64 X.1.p) (.string X.1.n) (.string X.1.d) (.int .i64 X.1.s) (.int .i64 X.1.t) (.int .i64 X.1.c) (.int .i64 X.1.h) (.int .i64 X.1.a) (.int .i64 X.1.e)⟩
        unfold execOp
        dsimp only
        rw [e9, e64]
        unfold sA
        go_simp
      · intro o ho t a W A fz eA hz hw hdep
        have ho : _ = some o := ho
        cases ho
        have e9 : a.eval (.tmp 10) = .pointer (some ⟨A, 0, none⟩) := eA
        have e64 : a.eval (.tmp 65) = oA X.2 t.a t.b t.k t.m := hdep ⟨8, .data⟩ (by simp) rfl (show (8 : Nat) < 9 by decide)
        obtain ⟨u0, u1, u2, rfl⟩ := arr3 hz
        have hw : W.heap[A]? = some (.cells #[u0, u1, u2] 31 (0, 0)) := hw
        obtain ⟨c0, c1, c2⟩ := bx3 hw
        obtain ⟨g0, g1, g2⟩ := bx3f hw
        refine ⟨_, ?_, put3 W A (.slice t.a X.2.m.length t.k) (.bool X.2.f) (.slice t.b X.2.u.length t.m), rfl, st3 hw (.slice t.a X.2.m.length t.k) (.bool X.2.f) (.slice t.b X.2.u.length t.m)⟩
        unfold execOp
        dsimp only
        rw [e9, e64]
        unfold oA
        go_simp
      · intro a W A B t w5 ha hb e9 e10 hA hB hAB hwA hwB hP h5 hag
        have HBW := Lib.hid hb
        have H5 := Lib.hid hwA
        have H6 := Lib.hid hwB
        have HN : Hid (NtsS W t.a X.2.m) := hP.1 W hag
        have HL := Lib.hid (⟨hA, hB, hAB⟩ : wr.heap.size ≤ A ∧ wr.heap.size ≤ B ∧ A ≠ B)
        have e9 : a.eval (.tmp 9) = .pointer (some ⟨A, 0, none⟩) := e9
        have e10 : a.eval (.tmp 10) = .pointer (some ⟨B, 0, none⟩) := e10
        clear hb hwA hwB hP h5 hag hA hB hAB
        simp only [canonL] at ha
        rw [e9, e10] at ha
        clear e9 e10
        generalize a.eval (.tmp 57) = g57 at ha
        generalize a.eval (.tmp 58) = g58 at ha
        generalize a.eval (.tmp 59) = g59 at ha
        generalize a.eval (.tmp 60) = g60 at ha
        generalize a.eval (.tmp 61) = g61 at ha
        generalize a.eval (.tmp 62) = g62 at ha
        generalize a.eval (.tmp 63) = g63 at ha
        generalize a.eval (.tmp 64) = g64 at ha
        generalize a.eval (.tmp 65) = g65 at ha
        subst ha
        go_wp2_with fail
        go_meet
        exact ⟨_, A, B, t.a, t.b, t.k, t.m, rfl, rfl, rfl, HL.out, H5.out, H6.out, HN.out, HBW.out⟩
    case rest =>
      obtain ⟨wx, P, Q, a, b, k, m, hwx, rfl, rfl, HPQ, HP, HQ, HN, HBx⟩ := hcut
      subst hwx
      have HSx := kpB HBx.out HS
      have HBw := Lib.hid (HB.out.trans (HBx.out.mono HB.out.size))
      have hxs := HBx.out.size
      have m4' : wr.cell? ⟨bw, ow + j * 13 + 1 + 3, none⟩ = some (.string x.d) := m4
      have md := keep_cell HBx.out m4' hbw
      have hbwx := World.block_lt_of_cell? _ _ md
      clear m4'
      clear m0 m1 m2 m3 m4 m5 m6 m7 m8 m9 m10 m11 m12 s_0 s_1 s_2 s_3 s_4 s_5 s_6 s_7 s_8 HS HB HBx
      try clear CD
      try clear HRR
      obtain ⟨X1, X2⟩ := X
      dsimp only at HP HQ HN HOD ⊢
      have ho := HOD.out.2.1
      have hm2 : X2.m.length ≤ 2 := HOD.out.2.2
      have HV2 := Lib.hid HOD.out.1
      have hup : ¬ X1.p < s.p := by have := ho.up; dsimp only at this; omega
      have hn2 : X1.n = s.n := ho.hn
      have hd2 : X1.d = s.d := ho.hd
      have hpast : s.p = 6 → X1 = s ∧ X2 = zO := fun e => by have := ho.past e; injection this with e1 e2; exact ⟨e1, e2⟩
      have hknow : ¬ X2.u = [] → s.p = 5 ∨ X1.p = 5 ∨ X1.p = 6 := ho.know
      have hsays : Hid (∀ m ∈ X2.m, (m.k ≠ 7 → m.d = s.d → x.d = s.d) ∧ m.x = ⟨#[]⟩ ∧ (m.k = 7 → m.d.size = 16)) := ho.says
      clear ho HOD
      have en : (X1.n.toList == s.n.toList) = true := by rw [hn2]; exact beq_self_eq_true _
      have ed : (X1.d.toList == s.d.toList) = true := by rw [hd2]; exact beq_self_eq_true _
      have eup : decide (X1.p < s.p) = false := by rw [decide_eq_false_iff_not]; exact hup
      obtain ⟨p0, p1, p2, p3, p4, p5, p6, p7, p8⟩ := bx9 HP.out
      obtain ⟨q0, q1, q2⟩ := bx3 HQ.out
      obtain ⟨t0_, t1_, t2_, t3_, t4_, t5_, t6_, t7_, t8_⟩ := bx9 HSx.out
      go_upto_region 10 with fail
      go_cut [108] (fun v wy => v = .bool false ∧ wx = wy)
      case first =>
        by_cases h6 : s.p = 6
        · obtain ⟨e1, e2⟩ := hpast h6
          subst e1
          rw [e2] at q0 q1 q2
          simp only [zO, List.length_nil] at q0 q1 q2
          have b6 : (X1.p == 6) = true := by rw [h6]; rfl
          clear h6 hpast hknow hup
          go_wp2_with fail
          go_meet
          exact ⟨rfl, rfl⟩
        · have b6 : (s.p == 6) = false := beqf h6
          clear h6 hpast hknow
          go_wp2_with fail
          go_meet
          exact ⟨rfl, rfl⟩
      case rest =>
        obtain ⟨rfl, hw⟩ := hcut
        subst hw
        go_upto_region 12 with fail
        go_cut [127] (fun v wy => v = .bool false ∧ wx = wy)
        case first =>
          by_cases hu : X2.u = []
          · rw [hu] at q2
            simp only [List.length_nil] at q2
            clear hpast hknow
            go_wp2_with fail
            go_meet
            exact ⟨rfl, rfl⟩
          · have hul : 0 < X2.u.length := List.length_pos_iff.2 hu
            have u1_ : (0 : Int) < (X2.u.length : Int) := by omega
            have u2_ : decide ((0 : Int) < (X2.u.length : Int)) = true := by rw [decide_eq_true_iff]; omega
            by_cases h5 : s.p = 5
            · have b5 : (s.p == 5) = true := by rw [h5]; rfl
              have b5' : bne s.p 5 = false := by unfold bne; rw [b5]; rfl
              clear hpast hknow h5
              go_wp2_with fail
              go_meet
              exact ⟨rfl, rfl⟩
            have b5 : (s.p == 5) = false := beqf h5
            have b5' : bne s.p 5 = true := by unfold bne; rw [b5]; rfl
            by_cases h5t : X1.p = 5
            · have c5 : (X1.p == 5) = true := by rw [h5t]; rfl
              have c5' : bne X1.p 5 = false := by unfold bne; rw [c5]; rfl
              clear hpast hknow h5 h5t
              go_wp2_with fail
              go_meet
              exact ⟨rfl, rfl⟩
            have c5 : (X1.p == 5) = false := beqf h5t
            have c5' : bne X1.p 5 = true := by unfold bne; rw [c5]; rfl
            have h6t : X1.p = 6 := ((hknow hu).resolve_left h5).resolve_left h5t
            have c6 : (X1.p == 6) = true := by rw [h6t]; rfl
            have c6' : bne X1.p 6 = false := by unfold bne; rw [c6]; rfl
            clear hpast hknow h5 h5t h6t
            go_wp2_with fail
            go_meet
            exact ⟨rfl, rfl⟩
        case rest =>
          obtain ⟨rfl, hw⟩ := hcut
          subst hw
          clear hpast hknow hup en ed eup hn2 hd2
          clear p0 p1 p2 p3 p4 p5 p6 p7 p8 q0 q1 q2 t0_ t1_ t2_ t3_ t4_ t5_ t6_ t7_ t8_
          go_wp2_with fail
          go_loopw [11] (fun i wy => ∃ g : Nat, i = .int .i64 g ∧ g ≤ X2.m.length ∧ Hid (Below wx.heap.size wx wy)) (fun i _ => X2.m.length - (RowKit.intOf i).toNat)
          case atStart => exact ⟨0, rfl, Nat.zero_le _, Below.refl _ _⟩
          case round =>
            obtain ⟨g, rfl, hg, HBy⟩ := hrel
            have HPy := kpB HBy.out HP
            have HQy := kpB HBy.out HQ
            have HSy := kpB HBy.out HSx
            have mdy := keep_cell HBy.out md hbwx
            obtain ⟨q0, q1, q2⟩ := bx3 HQy.out
            by_cases hlt2 : g < X2.m.length
            rotate_left
            · have hge : g = X2.m.length := by omega
              subst hge
              have d1 : ¬ (X2.m.length : Int) < (X2.m.length : Int) := by omega
              have d2 : decide ((X2.m.length : Int) < (X2.m.length : Int)) = false := by rw [decide_eq_false_iff_not]; omega
              obtain ⟨p0, p1, p2, p3, p4, p5, p6, p7, p8⟩ := bx9 HPy.out
              obtain ⟨t0_, t1_, t2_, t3_, t4_, t5_, t6_, t7_, t8_⟩ := bx9 HSy.out
              obtain ⟨f0_, f1_, f2_, f3_, f4_, f5_, f6_, f7_, f8_⟩ := bx9f HSy.out
              obtain ⟨W9, hW9⟩ : ∃ W, W = (((((((((wr.setCell ⟨A1, 0, none⟩ (.int .i64 X1.p)).setCell ⟨A1, 1, none⟩ (.string X1.n)).setCell ⟨A1, 2, none⟩ (.string X1.d)).setCell ⟨A1, 3, none⟩ (.int .i64 X1.s)).setCell ⟨A1, 4, none⟩ (.int .i64 X1.t)).setCell ⟨A1, 5, none⟩ (.int .i64 X1.c)).setCell ⟨A1, 6, none⟩ (.int .i64 X1.h)).setCell ⟨A1, 7, none⟩ (.int .i64 X1.a)).setCell ⟨A1, 8, none⟩ (.int .i64 X1.e)) := ⟨_, rfl⟩
              have HS9 := Lib.hid (st9 HSy.out (.int .i64 X1.p) (.string X1.n) (.string X1.d) (.int .i64 X1.s) (.int .i64 X1.t) (.int .i64 X1.c) (.int .i64 X1.h) (.int .i64 X1.a) (.int .i64 X1.e))
              have HB9 := Lib.hid (PutAt.below (put9 _ A1 (.int .i64 X1.p) (.string X1.n) (.string X1.d) (.int .i64 X1.s) (.int .i64 X1.t) (.int .i64 X1.c) (.int .i64 X1.h) (.int .i64 X1.a) (.int .i64 X1.e)) (HBw.out.trans (HBy.out.mono HBw.out.size)) hA1)
              rw [← hW9] at HS9 HB9
              go_wp2_with fail
              rw [← hW9]
              clear hW9
              go_roundw
              case rel => exact ⟨j + 1, X1, by go_num, by omega, HV2, HS9, HB9⟩
              case measure => simp [RowKit.intOf]; omega
            · obtain ⟨bn, pn, rfl, ai2, az2, ci2, cz2, c0, c1, c2, c3, c4, c5, c6, c7, c8, c9, c10, hN2⟩ := (HN.out.below HBy.out) g hlt2
              clear hN2
              obtain ⟨y1, y2, y3⟩ := hsays.out X2.m[g] (List.getElem_mem hlt2)
              have n0 : wr.cell? ⟨bn, pn + g * 11, none⟩ = some (.int .i64 X2.m[g].k) := c0
              have n1 : wr.cell? ⟨bn, pn + g * 11 + 1, none⟩ = some (.string X2.m[g].n) := c1
              have n2 : wr.cell? ⟨bn, pn + g * 11 + 2, none⟩ = some (.string X2.m[g].x) := c2
              have n3 : wr.cell? ⟨bn, pn + g * 11 + 3, none⟩ = some (.string X2.m[g].d) := c3
              have n4 : wr.cell? ⟨bn, pn + g * 11 + 4, none⟩ = some (.int .i64 X2.m[g].c) := c4
              have n5 : wr.cell? ⟨bn, pn + g * 11 + 5, none⟩ = some (.int .i64 X2.m[g].s) := c5
              have n6 : wr.cell? ⟨bn, pn + g * 11 + 6, none⟩ = some (.int .i64 X2.m[g].e) := c6
              have n7 : wr.cell? ⟨bn, pn + g * 11 + 7, none⟩ = some (.int .i64 X2.m[g].t) := c7
              have n8 : wr.cell? ⟨bn, pn + g * 11 + 8, none⟩ = some (.bool X2.m[g].o) := c8
              have n9 : wr.cell? ⟨bn, pn + g * 11 + 9, none⟩ = some (.slice ai2 X2.m[g].l.length ci2) := c9
              have n10 : wr.cell? ⟨bn, pn + g * 11 + 10, none⟩ = some (.slice az2 X2.m[g].z.length cz2) := c10
              clear c0 c1 c2 c3 c4 c5 c6 c7 c8 c9 c10
              generalize X2.m[g] = y at y1 y2 y3 n0 n1 n2 n3 n4 n5 n6 n7 n8 n9 n10
              rw [y2] at n2
              clear y2
              have HG1 : Hid (g + 1 ≤ X2.m.length) := hlt2
              have d1 : (g : Int) < (X2.m.length : Int) := by omega
              have d2 : decide ((g : Int) < (X2.m.length : Int)) = true := by rw [decide_eq_true_iff]; omega
              have hPl := heap_lt HPy.out
              have hQl := heap_lt HQy.out
              have hSl := heap_lt HSy.out
              have hbn : bn < wr.heap.size := World.block_lt_of_cell? _ _ n0
              by_cases k7 : y.k = 7
              · have a1 : bne y.k 7 = false := by rw [k7]; rfl
                have a2 : (y.k == 7) = true := by rw [k7]; rfl
                have a3 : (y.d.size : Int) = 16 := by have := y3 k7; omega
                have a4 : bne (y.d.size : Int) 16 = false := by rw [a3]; rfl
                clear y1 y3 k7
                have HK8 := Lib.hid (box_new wr #[.int .i64 y.k, .string y.n, .string ⟨#[]⟩, .string y.d, .int .i64 y.c, .int .i64 y.s, .int .i64 y.e, .int .i64 y.t, .bool y.o, .slice ai2 y.l.length ci2, .slice az2 y.z.length cz2] 39)
                have HB8 := Lib.hid (HBy.out.alloc HBy.out.size (.cells #[.int .i64 y.k, .string y.n, .string ⟨#[]⟩, .string y.d, .int .i64 y.c, .int .i64 y.s, .int .i64 y.e, .int .i64 y.t, .bool y.o, .slice ai2 y.l.length ci2, .slice az2 y.z.length cz2] 39))
                have hbe : Below wr.heap.size wr (wr.alloc (.cells #[.int .i64 y.k, .string y.n, .string ⟨#[]⟩, .string y.d, .int .i64 y.c, .int .i64 y.s, .int .i64 y.e, .int .i64 y.t, .bool y.o, .slice ai2 y.l.length ci2, .slice az2 y.z.length cz2] 39)) := (Below.refl _ wr).alloc (Nat.le_refl _) _
                have HS8 := kpB hbe HSy
                have HP8 := kpB hbe HPy
                have HQ8 := kpB hbe HQy
                have HM8 := Lib.hid (keep_cell hbe mdy (World.block_lt_of_cell? _ _ mdy))
                clear hbe
                go_upto_region 18 with fail
                generalize wr.alloc (.cells #[.int .i64 y.k, .string y.n, .string ⟨#[]⟩, .string y.d, .int .i64 y.c, .int .i64 y.s, .int .i64 y.e, .int .i64 y.t, .bool y.o, .slice ai2 y.l.length ci2, .slice az2 y.z.length cz2] 39) = W8 at HB8 HK8 HS8 HM8 HP8 HQ8 ⊢
                generalize wr.heap.size = N8 at HK8 ⊢
                obtain ⟨v0, v1, v2, v3, v4, v5, v6, v7, v8, v9, v10⟩ := bx11 HK8.out
                obtain ⟨t0_, t1_, t2_, t3_, t4_, t5_, t6_, t7_, t8_⟩ := bx9 HS8.out
                have md8 := HM8.out
                go_quiet (fail)
                go_wp2_with fail
                exact ⟨⟨g + 1, by go_num, HG1.out, below_drewN HB8.out _⟩, by have := HG1.out; simp [RowKit.intOf]; omega⟩
              · have a2 : (y.k == 7) = false := beqf k7
                have a1 : bne y.k 7 = true := by unfold bne; rw [a2]; rfl
                by_cases hyd : y.d = s.d
                · have a5 : (y.d.toList == s.d.toList) = true := by rw [hyd]; exact beq_self_eq_true _
                  have a6 : (x.d.toList == s.d.toList) = true := by rw [y1 k7 hyd]; exact beq_self_eq_true _
                  clear y1 y3 k7 hyd
                  have HK8 := Lib.hid (box_new wr #[.int .i64 y.k, .string y.n, .string ⟨#[]⟩, .string y.d, .int .i64 y.c, .int .i64 y.s, .int .i64 y.e, .int .i64 y.t, .bool y.o, .slice ai2 y.l.length ci2, .slice az2 y.z.length cz2] 39)
                  have HB8 := Lib.hid (HBy.out.alloc HBy.out.size (.cells #[.int .i64 y.k, .string y.n, .string ⟨#[]⟩, .string y.d, .int .i64 y.c, .int .i64 y.s, .int .i64 y.e, .int .i64 y.t, .bool y.o, .slice ai2 y.l.length ci2, .slice az2 y.z.length cz2] 39))
                  have hbe : Below wr.heap.size wr (wr.alloc (.cells #[.int .i64 y.k, .string y.n, .string ⟨#[]⟩, .string y.d, .int .i64 y.c, .int .i64 y.s, .int .i64 y.e, .int .i64 y.t, .bool y.o, .slice ai2 y.l.length ci2, .slice az2 y.z.length cz2] 39)) := (Below.refl _ wr).alloc (Nat.le_refl _) _
                  have HS8 := kpB hbe HSy
                  have HP8 := kpB hbe HPy
                  have HQ8 := kpB hbe HQy
                  have HM8 := Lib.hid (keep_cell hbe mdy (World.block_lt_of_cell? _ _ mdy))
                  clear hbe
                  go_upto_region 18 with fail
                  generalize wr.alloc (.cells #[.int .i64 y.k, .string y.n, .string ⟨#[]⟩, .string y.d, .int .i64 y.c, .int .i64 y.s, .int .i64 y.e, .int .i64 y.t, .bool y.o, .slice ai2 y.l.length ci2, .slice az2 y.z.length cz2] 39) = W8 at HB8 HK8 HS8 HM8 HP8 HQ8 ⊢
                  generalize wr.heap.size = N8 at HK8 ⊢
                  obtain ⟨v0, v1, v2, v3, v4, v5, v6, v7, v8, v9, v10⟩ := bx11 HK8.out
                  obtain ⟨t0_, t1_, t2_, t3_, t4_, t5_, t6_, t7_, t8_⟩ := bx9 HS8.out
                  have md8 := HM8.out
                  go_quiet (fail)
                  go_wp2_with fail
                  exact ⟨⟨g + 1, by go_num, HG1.out, below_drewN HB8.out _⟩, by have := HG1.out; simp [RowKit.intOf]; omega⟩
                · have a7 : ¬ y.d.toList = s.d.toList := fun e => hyd (toList_inj e)
                  have a5 : (y.d.toList == s.d.toList) = false := beq_eq_false_iff_ne.2 a7
                  clear y1 y3 k7 hyd
                  have HK8 := Lib.hid (box_new wr #[.int .i64 y.k, .string y.n, .string ⟨#[]⟩, .string y.d, .int .i64 y.c, .int .i64 y.s, .int .i64 y.e, .int .i64 y.t, .bool y.o, .slice ai2 y.l.length ci2, .slice az2 y.z.length cz2] 39)
                  have HB8 := Lib.hid (HBy.out.alloc HBy.out.size (.cells #[.int .i64 y.k, .string y.n, .string ⟨#[]⟩, .string y.d, .int .i64 y.c, .int .i64 y.s, .int .i64 y.e, .int .i64 y.t, .bool y.o, .slice ai2 y.l.length ci2, .slice az2 y.z.length cz2] 39))
                  have hbe : Below wr.heap.size wr (wr.alloc (.cells #[.int .i64 y.k, .string y.n, .string ⟨#[]⟩, .string y.d, .int .i64 y.c, .int .i64 y.s, .int .i64 y.e, .int .i64 y.t, .bool y.o, .slice ai2 y.l.length ci2, .slice az2 y.z.length cz2] 39)) := (Below.refl _ wr).alloc (Nat.le_refl _) _
                  have HS8 := kpB hbe HSy
                  have HP8 := kpB hbe HPy
                  have HQ8 := kpB hbe HQy
                  have HM8 := Lib.hid (keep_cell hbe mdy (World.block_lt_of_cell? _ _ mdy))
                  clear hbe
                  go_upto_region 18 with fail
                  generalize wr.alloc (.cells #[.int .i64 y.k, .string y.n, .string ⟨#[]⟩, .string y.d, .int .i64 y.c, .int .i64 y.s, .int .i64 y.e, .int .i64 y.t, .bool y.o, .slice ai2 y.l.length ci2, .slice az2 y.z.length cz2] 39) = W8 at HB8 HK8 HS8 HM8 HP8 HQ8 ⊢
                  generalize wr.heap.size = N8 at HK8 ⊢
                  obtain ⟨v0, v1, v2, v3, v4, v5, v6, v7, v8, v9, v10⟩ := bx11 HK8.out
                  obtain ⟨t0_, t1_, t2_, t3_, t4_, t5_, t6_, t7_, t8_⟩ := bx9 HS8.out
                  have md8 := HM8.out
                  go_quiet (fail)
                  go_wp2_with fail
                  exact ⟨⟨g + 1, by go_num, HG1.out, below_drewN HB8.out _⟩, by have := HG1.out; simp [RowKit.intOf]; omega⟩
theorem order_walk (n d : ByteArray) (s0 t0 c0 : Int) (aw : Option Addr) (l : List Ac) (cw : Nat) (w : World) (hn : n.size ≤ 140737488351232) (hd : d.size ≤ 140737488351232) (hl : l.length ≤ 140737488351232) (hG : Gl w) (hA : AcS w aw l) : Calls Tryd.prog 3 #[.agg #[.string n, .string d, .int .i64 s0, .int .i64 t0, .int .i64 c0], .slice aw l.length cw] w (OkL w) := by
  by_cases h1 : 12000 < n.size + d.size
  · exact order_1 n d s0 t0 c0 aw l cw w hn hd hl hG hA h1
  · exact order_3 n d s0 t0 c0 aw l cw w hn hd hl hG hA h1
end Go.Proofs.YtpipigghbdfihaaDoor.T
