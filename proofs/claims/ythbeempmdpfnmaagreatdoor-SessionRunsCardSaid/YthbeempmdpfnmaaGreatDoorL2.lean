/- Contracts of the laws' functions: take, live. Conditions: those of each theorem's head. -/
import Derived.Test.YthbeempmdpfnmaaGreatDoorL1
namespace Go.Proofs.YthbeempmdpfnmaaGreatDoor.T
open Go.RowKit Go.Lib

set_option maxRecDepth 100000 in
set_option maxHeartbeats 8000000 in
theorem ltake_any (s : Ss) (n : Nt) (ai az : Option Addr) (ci cz : Nat) (w : World) (hn : NtL w ai az n) (h1 : s.n.size ≤ 1000000) (h2 : s.d.size ≤ 20000) (h3 : n.d.size ≤ 20000) (hG : Gl w) : Calls Tryz.prog 16 #[.agg #[.int .i64 s.p, .string s.n, .string s.d, .int .i64 s.s, .int .i64 s.t, .int .i64 s.c, .int .i64 s.h, .int .i64 s.a, .int .i64 s.e], .agg #[.int .i64 n.k, .string n.n, .string n.x, .string n.d, .int .i64 n.c, .int .i64 n.s, .int .i64 n.e, .int .i64 n.t, .bool n.o, .slice ai n.l.length ci, .slice az n.z.length cz]] w (Gives (sA (tk s n).1) w) := by
  have CT : Hid (∀ W, Below w.heap.size w W → Calls Tryz.prog 17 #[.agg #[.int .i64 s.p, .string s.n, .string s.d, .int .i64 s.s, .int .i64 s.t, .int .i64 s.c, .int .i64 s.h, .int .i64 s.a, .int .i64 s.e], .agg #[.int .i64 n.k, .string n.n, .string n.x, .string n.d, .int .i64 n.c, .int .i64 n.s, .int .i64 n.e, .int .i64 n.t, .bool n.o, .slice ai n.l.length ci, .slice az n.z.length cz]] W (StQ (tk s n) W)) := fun W hb => take_any s n ai az ci cz W (hn.below hb) h1 h2 h3 (hG.below hb)
  clear hn h1 h2 h3 hG
  generalize tk s n = x at CT ⊢
  obtain ⟨HB, HX, HA, HZ⟩ := bxThree w #[.int .i64 s.p, .string s.n, .string s.d, .int .i64 s.s, .int .i64 s.t, .int .i64 s.c, .int .i64 s.h, .int .i64 s.a, .int .i64 s.e] 28 #[.int .i64 n.k, .string n.n, .string n.x, .string n.d, .int .i64 n.c, .int .i64 n.s, .int .i64 n.e, .int .i64 n.t, .bool n.o, .slice ai n.l.length ci, .slice az n.z.length cz] 42 #[.int .i64 0, .string ⟨#[]⟩, .string ⟨#[]⟩, .int .i64 0, .int .i64 0, .int .i64 0, .int .i64 0, .int .i64 0, .int .i64 0] 28
  obtain ⟨m0, m1, m2, m3, m4, m5, m6, m7, m8⟩ := bx9 HX.out
  obtain ⟨a0, a1, a2, a3, a4, a5, a6, a7, a8, a9, a10⟩ := bx11 HA.out
  go_enter Tryz.func16, Tryz.ntmps16
  go_wp2_with fail
  refine (CT.out _ HB.out).mono ?_
  obtain ⟨t, q⟩ := x
  rintro e w1 ⟨a, b, k, m, rfl, hb, -, -⟩
  simp only [sA, oA]
  clear m0 m1 m2 m3 m4 m5 m6 m7 m8
  clear a0 a1 a2 a3 a4 a5 a6 a7 a8 a9 a10
  have HZ1 := kpB hb HZ
  have HB1 := Lib.hid (HB.out.trans (hb.mono HB.out.size))
  clear hb HB HX HA HZ CT
  have hP : w.heap.size + 2 < w1.heap.size := heap_lt HZ1.out
  go_upto_region 2 with fail
  obtain ⟨HB2, HS, HQ⟩ := bxTwo w1 #[.int .i64 t.p, .string t.n, .string t.d, .int .i64 t.s, .int .i64 t.t, .int .i64 t.c, .int .i64 t.h, .int .i64 t.a, .int .i64 t.e] 28 #[.slice a q.m.length k, .bool q.f, .slice b q.u.length m] 31
  have HZ := kpB HB2.out HZ1
  have HB := Lib.hid (HB1.out.trans (HB2.out.mono HB1.out.size))
  clear HB2 HZ1 HB1 HQ
  generalize ((w1.alloc (.cells #[.int .i64 t.p, .string t.n, .string t.d, .int .i64 t.s, .int .i64 t.t, .int .i64 t.c, .int .i64 t.h, .int .i64 t.a, .int .i64 t.e] 28)).alloc (.cells #[.slice a q.m.length k, .bool q.f, .slice b q.u.length m] 31)) = W0 at HS HZ HB ⊢
  generalize w1.heap.size = A5 at HS hP ⊢
  obtain ⟨m0, m1, m2, m3, m4, m5, m6, m7, m8⟩ := bx9 HS.out
  obtain ⟨z0, z1, z2, z3, z4, z5, z6, z7, z8⟩ := bx9 HZ.out
  obtain ⟨zf0, zf1, zf2, zf3, zf4, zf5, zf6, zf7, zf8⟩ := bx9f HZ.out
  go_wp2_with fail
  exact bodyPost_ret (results_cell_row Tryz.results16 _ _ (w.heap.size + 2) 28 _ (0, 0) _ rfl (st9 HZ.out (.int .i64 t.p) (.string t.n) (.string t.d) (.int .i64 t.s) (.int .i64 t.t) (.int .i64 t.c) (.int .i64 t.h) (.int .i64 t.a) (.int .i64 t.e)) Tryz.underlying28 rfl (by kernel_rfl)) rfl ⟨rfl, st9b HB.out (by omega) (.int .i64 t.p) (.string t.n) (.string t.d) (.int .i64 t.s) (.int .i64 t.t) (.int .i64 t.c) (.int .i64 t.h) (.int .i64 t.a) (.int .i64 t.e)⟩
theorem isN_joe : isN ⟨#[106, 111, 101]⟩ = true := by decide
theorem pw_p : pwB ⟨#[112]⟩ = true := by
  have h : isT ⟨#[112]⟩ = true := isT_iff.2 ⟨[112], by decide, rfl⟩
  unfold pwB
  rw [h]
  rfl
theorem live_ok : stOk ⟨#[106, 111, 101]⟩ ⟨#[112]⟩ 0 0 0 = true := by
  unfold stOk
  rw [isN_joe, pw_p]
  rfl
theorem sm_joe : smN ⟨#[74, 111, 101]⟩ ⟨#[106, 111, 101]⟩ = true := by decide
theorem live_no : stOk ⟨#[]⟩ ⟨#[112]⟩ 0 0 0 = false := by
  unfold stOk
  rw [show isN ⟨#[]⟩ = false by decide]
  rfl
theorem lv_key : tk ⟨1, ⟨#[106, 111, 101]⟩, ⟨#[112]⟩, 0, 0, 0, 0, 0, 0⟩ { nK 6 with d := ⟨#[107]⟩ } = (⟨2, ⟨#[106, 111, 101]⟩, ⟨#[112]⟩, 0, 0, 0, 0, 0, 0⟩, ⟨[{ nK 7 with n := ⟨#[106, 111, 101]⟩, d := salt ⟨#[107]⟩ ⟨#[112]⟩ }], false, []⟩) := rfl
theorem lv_let : tk ⟨2, ⟨#[106, 111, 101]⟩, ⟨#[112]⟩, 0, 0, 0, 0, 0, 0⟩ { nK 8 with n := ⟨#[74, 111, 101]⟩, d := ⟨#[99]⟩ } = (⟨3, ⟨#[106, 111, 101]⟩, ⟨#[112]⟩, 0, 0, 0, 0, 0, 0⟩, ⟨[{ nK 2 with d := ⟨#[99]⟩ }], true, []⟩) :=
  (if_neg (show ¬ undr 2 = false by decide)).trans ((if_neg (show ¬ (8 : Int) = 3 by decide)).trans ((if_neg (fun h => absurd h.1 (show ¬ (2 : Int) = 1 by decide))).trans ((if_pos ⟨rfl, rfl, sm_joe⟩).trans (if_pos rfl))))
theorem lv_host : tk ⟨3, ⟨#[106, 111, 101]⟩, ⟨#[112]⟩, 0, 0, 0, 0, 0, 0⟩ (nK 9) = (⟨4, ⟨#[106, 111, 101]⟩, ⟨#[112]⟩, 0, 0, 0, 0, 0, 0⟩, ⟨[{ nK 17 with t := 0, c := 0 }], false, []⟩) := rfl
theorem lv_same : tk ⟨4, ⟨#[106, 111, 101]⟩, ⟨#[112]⟩, 0, 0, 0, 0, 0, 0⟩ (nK 19) = (⟨5, ⟨#[106, 111, 101]⟩, ⟨#[112]⟩, 0, 0, 0, 0, 0, 0⟩, ⟨[nK 10, { nK 11 with s := 0 }], false, [nK 19]⟩) := rfl
set_option maxRecDepth 100000 in
set_option maxHeartbeats 8000000 in
theorem live_any (w : World) (hG : Gl w) : Calls Tryz.prog 6 #[] w (OkL w) := by
  have HG := Lib.hid (fun W (hb : Below w.heap.size w W) => hG.below hb)
  clear hG
  have C0 : Hid (∀ W, Below w.heap.size w W → Calls Tryz.prog 15 #[.string ⟨#[106, 111, 101]⟩, .string ⟨#[112]⟩, .int .i64 0, .int .i64 0, .int .i64 0] W (fun e w' => ∃ (a b : Option Addr) (k m : Nat), e = .returned (.tuple #[.agg #[.int .i64 1, .string ⟨#[106, 111, 101]⟩, .string ⟨#[112]⟩, .int .i64 0, .int .i64 0, .int .i64 0, .int .i64 0, .int .i64 0, .int .i64 0], .agg #[.slice a 2 k, .bool true, .slice b 0 m], .int .i64 0]) ∧ Below W.heap.size W w')) := fun W hb => by
    have h := start_any ⟨#[106, 111, 101]⟩ ⟨#[112]⟩ 0 0 0 W (by decide) (by decide)
    unfold BgP stS stO stE at h
    rw [if_pos live_ok, if_pos live_ok, if_pos live_ok] at h
    exact h.mono fun e W' ⟨a, b, k, m, he, hb, _, _⟩ => ⟨a, b, k, m, he, hb⟩
  have C1 : Hid (∀ W, Below w.heap.size w W → Calls Tryz.prog 16 #[.agg #[.int .i64 1, .string ⟨#[106, 111, 101]⟩, .string ⟨#[112]⟩, .int .i64 0, .int .i64 0, .int .i64 0, .int .i64 0, .int .i64 0, .int .i64 0], .agg #[.int .i64 6, .string ⟨#[]⟩, .string ⟨#[]⟩, .string ⟨#[107]⟩, .int .i64 0, .int .i64 0, .int .i64 0, .int .i64 0, .bool false, .slice none 0 0, .slice none 0 0]] W (Gives (.agg #[.int .i64 2, .string ⟨#[106, 111, 101]⟩, .string ⟨#[112]⟩, .int .i64 0, .int .i64 0, .int .i64 0, .int .i64 0, .int .i64 0, .int .i64 0]) W)) := fun W hb => by
    have h := ltake_any ⟨1, ⟨#[106, 111, 101]⟩, ⟨#[112]⟩, 0, 0, 0, 0, 0, 0⟩ { nK 6 with d := ⟨#[107]⟩ } none none 0 0 W (ntl_plain _ rfl rfl (by decide) (by decide) (by decide)) (by decide) (by decide) (by decide) (HG.out W hb)
    rw [lv_key] at h
    exact h
  have C2 : Hid (∀ W, Below w.heap.size w W → Calls Tryz.prog 17 #[.agg #[.int .i64 2, .string ⟨#[106, 111, 101]⟩, .string ⟨#[112]⟩, .int .i64 0, .int .i64 0, .int .i64 0, .int .i64 0, .int .i64 0, .int .i64 0], .agg #[.int .i64 8, .string ⟨#[74, 111, 101]⟩, .string ⟨#[]⟩, .string ⟨#[99]⟩, .int .i64 0, .int .i64 0, .int .i64 0, .int .i64 0, .bool false, .slice none 0 0, .slice none 0 0]] W (fun e w' => ∃ (a b : Option Addr) (k m : Nat), e = .returned (.tuple #[.agg #[.int .i64 3, .string ⟨#[106, 111, 101]⟩, .string ⟨#[112]⟩, .int .i64 0, .int .i64 0, .int .i64 0, .int .i64 0, .int .i64 0, .int .i64 0], .agg #[.slice a 1 k, .bool true, .slice b 0 m]]) ∧ Below W.heap.size W w')) := fun W hb => by
    have h := take_any ⟨2, ⟨#[106, 111, 101]⟩, ⟨#[112]⟩, 0, 0, 0, 0, 0, 0⟩ { nK 8 with n := ⟨#[74, 111, 101]⟩, d := ⟨#[99]⟩ } none none 0 0 W (ntl_plain _ rfl rfl (by decide) (by decide) (by decide)) (by decide) (by decide) (by decide) (HG.out W hb)
    rw [lv_let] at h
    exact h.mono fun e W' ⟨a, b, k, m, he, hb, _, _⟩ => ⟨a, b, k, m, he, hb⟩
  have C3 : Hid (∀ W, Below w.heap.size w W → Calls Tryz.prog 17 #[.agg #[.int .i64 3, .string ⟨#[106, 111, 101]⟩, .string ⟨#[112]⟩, .int .i64 0, .int .i64 0, .int .i64 0, .int .i64 0, .int .i64 0, .int .i64 0], .agg #[.int .i64 9, .string ⟨#[]⟩, .string ⟨#[]⟩, .string ⟨#[]⟩, .int .i64 0, .int .i64 0, .int .i64 0, .int .i64 0, .bool false, .slice none 0 0, .slice none 0 0]] W (fun e w' => ∃ (a b : Option Addr) (k m : Nat), e = .returned (.tuple #[.agg #[.int .i64 4, .string ⟨#[106, 111, 101]⟩, .string ⟨#[112]⟩, .int .i64 0, .int .i64 0, .int .i64 0, .int .i64 0, .int .i64 0, .int .i64 0], .agg #[.slice a 1 k, .bool false, .slice b 0 m]]) ∧ Below W.heap.size W w')) := fun W hb => by
    have h := take_any ⟨3, ⟨#[106, 111, 101]⟩, ⟨#[112]⟩, 0, 0, 0, 0, 0, 0⟩ (nK 9) none none 0 0 W (ntl_plain _ rfl rfl (by decide) (by decide) (by decide)) (by decide) (by decide) (by decide) (HG.out W hb)
    rw [lv_host] at h
    exact h.mono fun e W' ⟨a, b, k, m, he, hb, _, _⟩ => ⟨a, b, k, m, he, hb⟩
  have C4 : Hid (∀ W, Below w.heap.size w W → Calls Tryz.prog 17 #[.agg #[.int .i64 4, .string ⟨#[106, 111, 101]⟩, .string ⟨#[112]⟩, .int .i64 0, .int .i64 0, .int .i64 0, .int .i64 0, .int .i64 0, .int .i64 0], .agg #[.int .i64 19, .string ⟨#[]⟩, .string ⟨#[]⟩, .string ⟨#[]⟩, .int .i64 0, .int .i64 0, .int .i64 0, .int .i64 0, .bool false, .slice none 0 0, .slice none 0 0]] W (fun e w' => ∃ (a b : Option Addr) (k m : Nat), e = .returned (.tuple #[.agg #[.int .i64 5, .string ⟨#[106, 111, 101]⟩, .string ⟨#[112]⟩, .int .i64 0, .int .i64 0, .int .i64 0, .int .i64 0, .int .i64 0, .int .i64 0], .agg #[.slice a 2 k, .bool false, .slice b 1 m]]) ∧ Below W.heap.size W w')) := fun W hb => by
    have h := take_any ⟨4, ⟨#[106, 111, 101]⟩, ⟨#[112]⟩, 0, 0, 0, 0, 0, 0⟩ (nK 19) none none 0 0 W (ntl_plain _ rfl rfl (by decide) (by decide) (by decide)) (by decide) (by decide) (by decide) (HG.out W hb)
    rw [lv_same] at h
    exact h.mono fun e W' ⟨a, b, k, m, he, hb, _, _⟩ => ⟨a, b, k, m, he, hb⟩
  have C5 : Hid (∀ W, Below w.heap.size w W → Calls Tryz.prog 15 #[.string ⟨#[]⟩, .string ⟨#[112]⟩, .int .i64 0, .int .i64 0, .int .i64 0] W (fun e w' => ∃ (a b : Option Addr) (k m : Nat), e = .returned (.tuple #[.agg #[.int .i64 0, .string ⟨#[]⟩, .string ⟨#[]⟩, .int .i64 0, .int .i64 0, .int .i64 0, .int .i64 0, .int .i64 0, .int .i64 0], .agg #[.slice a 0 k, .bool false, .slice b 0 m], .int .i64 2]) ∧ Below W.heap.size W w')) := fun W hb => by
    have h := start_any ⟨#[]⟩ ⟨#[112]⟩ 0 0 0 W (by decide) (by decide)
    unfold BgP stS stO stE at h
    rw [if_neg (by rw [live_no]; decide), if_neg (by rw [live_no]; decide), if_neg (by rw [live_no]; decide)] at h
    exact h.mono fun e W' ⟨a, b, k, m, he, hb, _, _⟩ => ⟨a, b, k, m, he, hb⟩
  have CN : Hid (∀ x W, Calls Tryz.prog 18 #[.int .i64 x] W (Pure (.int .i64 x) W)) := fun x W => lnum_any x W
  have CLa : Hid (∀ W, Calls Tryz.prog 10 #[.int .i64 5] W (Pure (.bool true) W)) := fun W => lasting_any 5 W
  have CLb : Hid (∀ W, Calls Tryz.prog 10 #[.int .i64 24] W (Pure (.bool false) W)) := fun W => lasting_any 24 W
  clear HG
  have HB0 : Hid (Below w.heap.size w w) := Below.refl _ _
  go_enter Tryz.func6, Tryz.ntmps6
  go_wp2_with fail
  refine (C0.out _ HB0.out).mono ?_
  rintro e w1 ⟨a0, b0, k0, m0, rfl, hb⟩
  have HC1 := Lib.hid (HB0.out.trans (hb.mono HB0.out.size))
  clear hb HB0 C0
  go_upto_region 2 with fail
  obtain ⟨HE, HS, HO⟩ := bxTwo w1 #[.int .i64 1, .string ⟨#[106, 111, 101]⟩, .string ⟨#[112]⟩, .int .i64 0, .int .i64 0, .int .i64 0, .int .i64 0, .int .i64 0, .int .i64 0] 28 #[.slice a0 2 k0, .bool true, .slice b0 0 m0] 31
  have HB1 := Lib.hid (HC1.out.trans (HE.out.mono HC1.out.size))
  have hw1 : w.heap.size ≤ w1.heap.size := HC1.out.size
  clear HE HC1
  generalize ((w1.alloc (.cells #[.int .i64 1, .string ⟨#[106, 111, 101]⟩, .string ⟨#[112]⟩, .int .i64 0, .int .i64 0, .int .i64 0, .int .i64 0, .int .i64 0, .int .i64 0] 28)).alloc (.cells #[.slice a0 2 k0, .bool true, .slice b0 0 m0] 31)) = V1 at HS HO HB1 ⊢
  have hA2 : w1.heap.size < w1.heap.size + 1 := by omega
  generalize w1.heap.size + 1 = A2 at HO hA2 ⊢
  generalize w1.heap.size = A1 at HS hw1 hA2 ⊢
  obtain ⟨m0, m1, m2, m3, m4, m5, m6, m7, m8⟩ := bx9 HS.out
  go_wp2_with fail
  clear m0 m1 m2 m3 m4 m5 m6 m7 m8
  refine (C1.out _ HB1.out).mono ?_
  rintro e w2 ⟨rfl, hb⟩
  replace HS := kpB hb HS
  replace HO := kpB hb HO
  have HC2 := Lib.hid (HB1.out.trans (hb.mono HB1.out.size))
  clear hb HB1 C1
  obtain ⟨m0, m1, m2, m3, m4, m5, m6, m7, m8⟩ := bx9 HS.out
  obtain ⟨f0, f1, f2, f3, f4, f5, f6, f7, f8⟩ := bx9f HS.out
  have hP2 : A1 < w2.heap.size := heap_lt HS.out
  go_upto_region 3 with fail
  clear m0 m1 m2 m3 m4 m5 m6 m7 m8 f0 f1 f2 f3 f4 f5 f6 f7 f8
  have HS' := Lib.hid (st9 HS.out (.int .i64 2) (.string ⟨#[106, 111, 101]⟩) (.string ⟨#[112]⟩) (.int .i64 0) (.int .i64 0) (.int .i64 0) (.int .i64 0) (.int .i64 0) (.int .i64 0))
  have HO' := Lib.hid ((st9k (A := A1) (by omega) (.int .i64 2) (.string ⟨#[106, 111, 101]⟩) (.string ⟨#[112]⟩) (.int .i64 0) (.int .i64 0) (.int .i64 0) (.int .i64 0) (.int .i64 0) (.int .i64 0)).trans HO.out)
  have HB2 := Lib.hid (st9b HC2.out hw1 (.int .i64 2) (.string ⟨#[106, 111, 101]⟩) (.string ⟨#[112]⟩) (.int .i64 0) (.int .i64 0) (.int .i64 0) (.int .i64 0) (.int .i64 0) (.int .i64 0))
  clear HS HC2 HO
  generalize (((((((((w2.setCell ⟨A1, 0, none⟩ (.int .i64 2)).setCell ⟨A1, 1, none⟩ (.string ⟨#[106, 111, 101]⟩)).setCell ⟨A1, 2, none⟩ (.string ⟨#[112]⟩)).setCell ⟨A1, 3, none⟩ (.int .i64 0)).setCell ⟨A1, 4, none⟩ (.int .i64 0)).setCell ⟨A1, 5, none⟩ (.int .i64 0)).setCell ⟨A1, 6, none⟩ (.int .i64 0)).setCell ⟨A1, 7, none⟩ (.int .i64 0)).setCell ⟨A1, 8, none⟩ (.int .i64 0)) = V2 at HS' HO' HB2 ⊢
  have HS := HS'
  have HO := HO'
  clear HS' HO' hP2
  obtain ⟨m0, m1, m2, m3, m4, m5, m6, m7, m8⟩ := bx9 HS.out
  go_wp2_with fail
  clear m0 m1 m2 m3 m4 m5 m6 m7 m8
  refine (C2.out _ HB2.out).mono ?_
  rintro e w3 ⟨a2, b2, k2, m2, rfl, hb⟩
  replace HS := kpB hb HS
  replace HO := kpB hb HO
  have HC3 := Lib.hid (HB2.out.trans (hb.mono HB2.out.size))
  clear hb HB2 C2
  obtain ⟨m0, m1, m2, m3, m4, m5, m6, m7, m8⟩ := bx9 HS.out
  obtain ⟨f0, f1, f2, f3, f4, f5, f6, f7, f8⟩ := bx9f HS.out
  have hP3 : A1 < w3.heap.size := heap_lt HS.out
  go_upto_region 4 with fail
  clear m0 m1 m2 m3 m4 m5 m6 m7 m8 f0 f1 f2 f3 f4 f5 f6 f7 f8
  have HS' := Lib.hid (st9 HS.out (.int .i64 3) (.string ⟨#[106, 111, 101]⟩) (.string ⟨#[112]⟩) (.int .i64 0) (.int .i64 0) (.int .i64 0) (.int .i64 0) (.int .i64 0) (.int .i64 0))
  have HO' := Lib.hid ((st9k (A := A1) (by omega) (.int .i64 3) (.string ⟨#[106, 111, 101]⟩) (.string ⟨#[112]⟩) (.int .i64 0) (.int .i64 0) (.int .i64 0) (.int .i64 0) (.int .i64 0) (.int .i64 0)).trans HO.out)
  have HB3 := Lib.hid (st9b HC3.out hw1 (.int .i64 3) (.string ⟨#[106, 111, 101]⟩) (.string ⟨#[112]⟩) (.int .i64 0) (.int .i64 0) (.int .i64 0) (.int .i64 0) (.int .i64 0) (.int .i64 0))
  clear HS HC3 HO
  have hsz : (((((((((w3.setCell ⟨A1, 0, none⟩ (.int .i64 3)).setCell ⟨A1, 1, none⟩ (.string ⟨#[106, 111, 101]⟩)).setCell ⟨A1, 2, none⟩ (.string ⟨#[112]⟩)).setCell ⟨A1, 3, none⟩ (.int .i64 0)).setCell ⟨A1, 4, none⟩ (.int .i64 0)).setCell ⟨A1, 5, none⟩ (.int .i64 0)).setCell ⟨A1, 6, none⟩ (.int .i64 0)).setCell ⟨A1, 7, none⟩ (.int .i64 0)).setCell ⟨A1, 8, none⟩ (.int .i64 0)).heap.size = w3.heap.size := by simp only [st_size]
  obtain ⟨HQ, HE⟩ := bxOne (((((((((w3.setCell ⟨A1, 0, none⟩ (.int .i64 3)).setCell ⟨A1, 1, none⟩ (.string ⟨#[106, 111, 101]⟩)).setCell ⟨A1, 2, none⟩ (.string ⟨#[112]⟩)).setCell ⟨A1, 3, none⟩ (.int .i64 0)).setCell ⟨A1, 4, none⟩ (.int .i64 0)).setCell ⟨A1, 5, none⟩ (.int .i64 0)).setCell ⟨A1, 6, none⟩ (.int .i64 0)).setCell ⟨A1, 7, none⟩ (.int .i64 0)).setCell ⟨A1, 8, none⟩ (.int .i64 0)) #[.slice a2 1 k2, .bool true, .slice b2 0 m2] 31
  have HS := kpB HE.out HS'
  have HO := kpB HE.out HO'
  have HD := Lib.hid (HB3.out.trans (HE.out.mono HB3.out.size))
  rw [hsz] at HQ
  clear HB3 HE hsz HS' HO'
  generalize ((((((((((w3.setCell ⟨A1, 0, none⟩ (.int .i64 3)).setCell ⟨A1, 1, none⟩ (.string ⟨#[106, 111, 101]⟩)).setCell ⟨A1, 2, none⟩ (.string ⟨#[112]⟩)).setCell ⟨A1, 3, none⟩ (.int .i64 0)).setCell ⟨A1, 4, none⟩ (.int .i64 0)).setCell ⟨A1, 5, none⟩ (.int .i64 0)).setCell ⟨A1, 6, none⟩ (.int .i64 0)).setCell ⟨A1, 7, none⟩ (.int .i64 0)).setCell ⟨A1, 8, none⟩ (.int .i64 0)).alloc (.cells #[.slice a2 1 k2, .bool true, .slice b2 0 m2] 31)) = V3 at HD HS HO HQ ⊢
  have HB3 := HD
  clear HD
  generalize w3.heap.size = A4 at HQ hP3 ⊢
  obtain ⟨m0, m1, m2, m3, m4, m5, m6, m7, m8⟩ := bx9 HS.out
  go_wp2_with fail
  clear m0 m1 m2 m3 m4 m5 m6 m7 m8
  refine (C3.out _ HB3.out).mono ?_
  rintro e w4 ⟨a3, b3, k3, m3, rfl, hb⟩
  replace HS := kpB hb HS
  replace HO := kpB hb HO
  replace HQ := kpB hb HQ
  have HC4 := Lib.hid (HB3.out.trans (hb.mono HB3.out.size))
  clear hb HB3 C3
  obtain ⟨m0, m1, m2, m3, m4, m5, m6, m7, m8⟩ := bx9 HS.out
  obtain ⟨f0, f1, f2, f3, f4, f5, f6, f7, f8⟩ := bx9f HS.out
  have hP4 : A1 < w4.heap.size := heap_lt HS.out
  go_upto_region 5 with fail
  clear m0 m1 m2 m3 m4 m5 m6 m7 m8 f0 f1 f2 f3 f4 f5 f6 f7 f8
  have HS' := Lib.hid (st9 HS.out (.int .i64 4) (.string ⟨#[106, 111, 101]⟩) (.string ⟨#[112]⟩) (.int .i64 0) (.int .i64 0) (.int .i64 0) (.int .i64 0) (.int .i64 0) (.int .i64 0))
  have HO' := Lib.hid ((st9k (A := A1) (by omega) (.int .i64 4) (.string ⟨#[106, 111, 101]⟩) (.string ⟨#[112]⟩) (.int .i64 0) (.int .i64 0) (.int .i64 0) (.int .i64 0) (.int .i64 0) (.int .i64 0)).trans HO.out)
  have HQ' := Lib.hid ((st9k (A := A1) (by omega) (.int .i64 4) (.string ⟨#[106, 111, 101]⟩) (.string ⟨#[112]⟩) (.int .i64 0) (.int .i64 0) (.int .i64 0) (.int .i64 0) (.int .i64 0) (.int .i64 0)).trans HQ.out)
  have HB4 := Lib.hid (st9b HC4.out hw1 (.int .i64 4) (.string ⟨#[106, 111, 101]⟩) (.string ⟨#[112]⟩) (.int .i64 0) (.int .i64 0) (.int .i64 0) (.int .i64 0) (.int .i64 0) (.int .i64 0))
  clear HS HC4 HO HQ
  generalize (((((((((w4.setCell ⟨A1, 0, none⟩ (.int .i64 4)).setCell ⟨A1, 1, none⟩ (.string ⟨#[106, 111, 101]⟩)).setCell ⟨A1, 2, none⟩ (.string ⟨#[112]⟩)).setCell ⟨A1, 3, none⟩ (.int .i64 0)).setCell ⟨A1, 4, none⟩ (.int .i64 0)).setCell ⟨A1, 5, none⟩ (.int .i64 0)).setCell ⟨A1, 6, none⟩ (.int .i64 0)).setCell ⟨A1, 7, none⟩ (.int .i64 0)).setCell ⟨A1, 8, none⟩ (.int .i64 0)) = V4 at HS' HO' HQ' HB4 ⊢
  have HS := HS'
  have HO := HO'
  have HQ := HQ'
  clear HS' HO' HQ' hP4
  obtain ⟨m0, m1, m2, m3, m4, m5, m6, m7, m8⟩ := bx9 HS.out
  go_wp2_with fail
  clear m0 m1 m2 m3 m4 m5 m6 m7 m8
  refine (C4.out _ HB4.out).mono ?_
  rintro e w5 ⟨a4, b4, k4, m4, rfl, hb⟩
  replace HS := kpB hb HS
  replace HO := kpB hb HO
  replace HQ := kpB hb HQ
  have HC5 := Lib.hid (HB4.out.trans (hb.mono HB4.out.size))
  clear hb HB4 C4
  obtain ⟨m0, m1, m2, m3, m4, m5, m6, m7, m8⟩ := bx9 HS.out
  obtain ⟨f0, f1, f2, f3, f4, f5, f6, f7, f8⟩ := bx9f HS.out
  have hP5 : A1 < w5.heap.size := heap_lt HS.out
  go_upto_region 6 with fail
  clear m0 m1 m2 m3 m4 m5 m6 m7 m8 f0 f1 f2 f3 f4 f5 f6 f7 f8
  have HS' := Lib.hid (st9 HS.out (.int .i64 5) (.string ⟨#[106, 111, 101]⟩) (.string ⟨#[112]⟩) (.int .i64 0) (.int .i64 0) (.int .i64 0) (.int .i64 0) (.int .i64 0) (.int .i64 0))
  have HO' := Lib.hid ((st9k (A := A1) (by omega) (.int .i64 5) (.string ⟨#[106, 111, 101]⟩) (.string ⟨#[112]⟩) (.int .i64 0) (.int .i64 0) (.int .i64 0) (.int .i64 0) (.int .i64 0) (.int .i64 0)).trans HO.out)
  have HQ' := Lib.hid ((st9k (A := A1) (by omega) (.int .i64 5) (.string ⟨#[106, 111, 101]⟩) (.string ⟨#[112]⟩) (.int .i64 0) (.int .i64 0) (.int .i64 0) (.int .i64 0) (.int .i64 0) (.int .i64 0)).trans HQ.out)
  have HB5 := Lib.hid (st9b HC5.out hw1 (.int .i64 5) (.string ⟨#[106, 111, 101]⟩) (.string ⟨#[112]⟩) (.int .i64 0) (.int .i64 0) (.int .i64 0) (.int .i64 0) (.int .i64 0) (.int .i64 0))
  clear HS HC5 HO HQ
  have hsz : (((((((((w5.setCell ⟨A1, 0, none⟩ (.int .i64 5)).setCell ⟨A1, 1, none⟩ (.string ⟨#[106, 111, 101]⟩)).setCell ⟨A1, 2, none⟩ (.string ⟨#[112]⟩)).setCell ⟨A1, 3, none⟩ (.int .i64 0)).setCell ⟨A1, 4, none⟩ (.int .i64 0)).setCell ⟨A1, 5, none⟩ (.int .i64 0)).setCell ⟨A1, 6, none⟩ (.int .i64 0)).setCell ⟨A1, 7, none⟩ (.int .i64 0)).setCell ⟨A1, 8, none⟩ (.int .i64 0)).heap.size = w5.heap.size := by simp only [st_size]
  obtain ⟨HU, HE⟩ := bxOne (((((((((w5.setCell ⟨A1, 0, none⟩ (.int .i64 5)).setCell ⟨A1, 1, none⟩ (.string ⟨#[106, 111, 101]⟩)).setCell ⟨A1, 2, none⟩ (.string ⟨#[112]⟩)).setCell ⟨A1, 3, none⟩ (.int .i64 0)).setCell ⟨A1, 4, none⟩ (.int .i64 0)).setCell ⟨A1, 5, none⟩ (.int .i64 0)).setCell ⟨A1, 6, none⟩ (.int .i64 0)).setCell ⟨A1, 7, none⟩ (.int .i64 0)).setCell ⟨A1, 8, none⟩ (.int .i64 0)) #[.slice a4 2 k4, .bool false, .slice b4 1 m4] 31
  have HS := kpB HE.out HS'
  have HO := kpB HE.out HO'
  have HQ := kpB HE.out HQ'
  have HD := Lib.hid (HB5.out.trans (HE.out.mono HB5.out.size))
  rw [hsz] at HU
  clear HB5 HE hsz HS' HO' HQ'
  generalize ((((((((((w5.setCell ⟨A1, 0, none⟩ (.int .i64 5)).setCell ⟨A1, 1, none⟩ (.string ⟨#[106, 111, 101]⟩)).setCell ⟨A1, 2, none⟩ (.string ⟨#[112]⟩)).setCell ⟨A1, 3, none⟩ (.int .i64 0)).setCell ⟨A1, 4, none⟩ (.int .i64 0)).setCell ⟨A1, 5, none⟩ (.int .i64 0)).setCell ⟨A1, 6, none⟩ (.int .i64 0)).setCell ⟨A1, 7, none⟩ (.int .i64 0)).setCell ⟨A1, 8, none⟩ (.int .i64 0)).alloc (.cells #[.slice a4 2 k4, .bool false, .slice b4 1 m4] 31)) = V5 at HD HS HO HQ HU ⊢
  have HB5 := HD
  clear HD
  generalize w5.heap.size = A5 at HU hP5 ⊢
  go_wp2_with fail
  refine (C5.out _ HB5.out).mono ?_
  rintro e w6 ⟨a5, b5, k5, m5, rfl, hb⟩
  replace HS := kpB hb HS
  replace HO := kpB hb HO
  replace HQ := kpB hb HQ
  replace HU := kpB hb HU
  have HC6 := Lib.hid (HB5.out.trans (hb.mono HB5.out.size))
  clear hb HB5 C5
  go_upto_region 7 with fail
  obtain ⟨HE, -, -⟩ := bxTwo w6 #[.int .i64 0, .string ⟨#[]⟩, .string ⟨#[]⟩, .int .i64 0, .int .i64 0, .int .i64 0, .int .i64 0, .int .i64 0, .int .i64 0] 28 #[.slice a5 0 k5, .bool false, .slice b5 0 m5] 31
  replace HS := kpB HE.out HS
  replace HO := kpB HE.out HO
  replace HQ := kpB HE.out HQ
  replace HU := kpB HE.out HU
  have HB6 := Lib.hid (HC6.out.trans (HE.out.mono HC6.out.size))
  clear HE HC6
  generalize ((w6.alloc (.cells #[.int .i64 0, .string ⟨#[]⟩, .string ⟨#[]⟩, .int .i64 0, .int .i64 0, .int .i64 0, .int .i64 0, .int .i64 0, .int .i64 0] 28)).alloc (.cells #[.slice a5 0 k5, .bool false, .slice b5 0 m5] 31)) = V6 at HS HO HQ HU HB6 ⊢
  obtain ⟨m0, m1, m2, m3, m4, m5, m6, m7, m8⟩ := bx9 HS.out
  obtain ⟨o0, o1, o2⟩ := bx3 HO.out
  obtain ⟨q0, q1, q2⟩ := bx3 HQ.out
  obtain ⟨u0, u1, u2⟩ := bx3 HU.out
  clear HS HO HQ HU
  go_wp2_with fail
  refine (CN.out _ _).mono ?_
  rintro e w' ⟨rfl, hw⟩
  subst hw
  go_wp2_with fail
  refine (CN.out _ _).mono ?_
  rintro e w' ⟨rfl, hw⟩
  subst hw
  go_wp2_with fail
  refine (CLa.out _).mono ?_
  rintro e w' ⟨rfl, hw⟩
  subst hw
  go_wp2_with fail
  refine (CLb.out _).mono ?_
  rintro e w' ⟨rfl, hw⟩
  subst hw
  go_wp2_with fail
  go_ret
  exact ⟨rfl, HB6.out⟩
end Go.Proofs.YthbeempmdpfnmaaGreatDoor.T
