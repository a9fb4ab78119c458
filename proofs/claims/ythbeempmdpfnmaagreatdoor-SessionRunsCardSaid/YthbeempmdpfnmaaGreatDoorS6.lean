/- Contracts: logIn. Conditions: those of each theorem's head. -/
import Derived.Test.YthbeempmdpfnmaaGreatDoorS4
import Derived.Test.YthbeempmdpfnmaaGreatDoorS5
import Derived.Test.YthbeempmdpfnmaaGreatDoorMc
import Derived.Test.YthbeempmdpfnmaaGreatDoorAf
namespace Go.Proofs.YthbeempmdpfnmaaGreatDoor.T
open Go.RowKit Go.Lib

/-- What Take is asked of the listed variables. -/
structure Gl (w : World) : Prop where
  s : Gs w
  m : M.Gd w
theorem Gl.below {w w' : World} (h : Gl w) (hb : Below w.heap.size w w') : Gl w' := ⟨h.s.below hb, h.m.below hb⟩
theorem salted_any' (k p : ByteArray) (w : World) (hk : k.size ≤ 20000) (hp : p.size ≤ 20000) (hG : Gl w) : Calls Tryz.prog 58 #[.string k, .string p, .string tailS] w (Gives (.string (salt k p)) w) := M.salted_any k p tailS w (by have : tailS.size = 26 := rfl; omega) hG.m
set_option maxRecDepth 100000 in
set_option maxHeartbeats 8000000 in
theorem logIn_any (s : Ss) (k : ByteArray) (w : World) (hn : s.n.size ≤ 1000000) (hd : s.d.size ≤ 20000) (hk : k.size ≤ 20000) (hG : Gl w) : Calls Tryz.prog 37 #[.agg #[.int .i64 s.p, .string s.n, .string s.d, .int .i64 s.s, .int .i64 s.t, .int .i64 s.c, .int .i64 s.h, .int .i64 s.a, .int .i64 s.e], .string k] w fun e w' => ∃ g, e = .returned (.tuple #[.agg #[.int .i64 2, .string s.n, .string s.d, .int .i64 s.s, .int .i64 s.t, .int .i64 s.c, .int .i64 s.h, .int .i64 0, .int .i64 s.e], .agg #[.slice (some ⟨g, 0, none⟩) 1 1, .bool false, .slice none 0 0]]) ∧ Below w.heap.size w w' ∧ w'.heap[g]? = some (.cells #[.int .i64 7, .string s.n, .string ⟨#[]⟩, .string (salt k s.d), .int .i64 0, .int .i64 0, .int .i64 0, .int .i64 0, .bool false, .slice none 0 0, .slice none 0 0] 42 (0, 0)) ∧ w.heap.size ≤ g := by
  have CL := Lib.hid (fun W => clone_any s.n W (Nat.le_trans hn (by decide)))
  have CS := Lib.hid (fun W (hb : Below w.heap.size w W) => salted_any' k s.d W hk hd (hG.below hb))
  unfold tailS at CS
  have CY : Hid (∀ (a : Option Addr) (n c : Nat) (W : World), Calls Tryz.prog 33 #[.agg #[.int .i64 2, .string s.n, .string s.d, .int .i64 s.s, .int .i64 s.t, .int .i64 s.c, .int .i64 s.h, .int .i64 s.a, .int .i64 s.e], .slice a n c] W (Gives (.tuple #[.agg #[.int .i64 2, .string s.n, .string s.d, .int .i64 s.s, .int .i64 s.t, .int .i64 s.c, .int .i64 s.h, .int .i64 0, .int .i64 s.e], .agg #[.slice a n c, .bool false, .slice none 0 0]]) W)) := fun a n c W => say_any { s with p := 2 } a n c W
  generalize salt k s.d = SL at CS ⊢
  clear hn hd hG
  obtain ⟨-, HX, HZ, HO⟩ := bxThree w #[.int .i64 s.p, .string s.n, .string s.d, .int .i64 s.s, .int .i64 s.t, .int .i64 s.c, .int .i64 s.h, .int .i64 s.a, .int .i64 s.e] 28 #[.int .i64 0, .string ⟨#[]⟩, .string ⟨#[]⟩, .int .i64 0, .int .i64 0, .int .i64 0, .int .i64 0, .int .i64 0, .int .i64 0] 28 #[.slice none 0 0, .bool false, .slice none 0 0] 31
  obtain ⟨m0, m1, m2, m3, m4, m5, m6, m7, m8⟩ := bx9 HX.out
  obtain ⟨f0, f1, f2, f3, f4, f5, f6, f7, f8⟩ := bx9f HX.out
  obtain ⟨HB, HX0, HZ0, HO0⟩ := bxThree w #[.int .i64 2, .string s.n, .string s.d, .int .i64 s.s, .int .i64 s.t, .int .i64 s.c, .int .i64 s.h, .int .i64 s.a, .int .i64 s.e] 28 #[.int .i64 0, .string ⟨#[]⟩, .string ⟨#[]⟩, .int .i64 0, .int .i64 0, .int .i64 0, .int .i64 0, .int .i64 0, .int .i64 0] 28 #[.slice none 0 0, .bool false, .slice none 0 0] 31
  go_enter Tryz.func37, Tryz.ntmps37
  go_upto_region 2 with fail
  clear m0 m1 m2 m3 m4 m5 m6 m7 m8 f0 f1 f2 f3 f4 f5 f6 f7 f8
  clear HX HZ HO
  generalize (((w.alloc (.cells #[.int .i64 2, .string s.n, .string s.d, .int .i64 s.s, .int .i64 s.t, .int .i64 s.c, .int .i64 s.h, .int .i64 s.a, .int .i64 s.e] 28)).alloc (.cells #[.int .i64 0, .string ⟨#[]⟩, .string ⟨#[]⟩, .int .i64 0, .int .i64 0, .int .i64 0, .int .i64 0, .int .i64 0, .int .i64 0] 28)).alloc (.cells #[.slice none 0 0, .bool false, .slice none 0 0] 31)) = W0 at HB HX0 HZ0 HO0 ⊢
  obtain ⟨m0, m1, m2, m3, m4, m5, m6, m7, m8⟩ := bx9 HX0.out
  have hP : w.heap.size + 2 < W0.heap.size := heap_lt HO0.out
  go_region_law (first
    | (go_simp; go_at_call 32; (with_reducible refine (CL.out _).mono ?_); rintro e w1 ⟨rfl, hb⟩; have HX1 := kpB hb HX0; have HZ1 := kpB hb HZ0; have HO1 := kpB hb HO0; have HB1 := Lib.hid (HB.out.drew.trans (hb.mono HB.out.size)); clear hb; obtain ⟨i0, i1, i2, i3, i4, i5, i6, i7, i8⟩ := bx9 HX1.out; have hP1 : w.heap.size + 2 < w1.heap.size := heap_lt HO1.out)
    | (go_simp; go_at_call 58; (with_reducible refine (CS.out _ HB1.out).mono ?_); rintro e w2 ⟨rfl, hb⟩; have HX2 := kpB hb HX1; have HZ2 := kpB hb HZ1; have HO2 := kpB hb HO1; have HB2 := Lib.hid (HB1.out.trans (hb.mono HB1.out.size)); clear hb; obtain ⟨j0, j1, j2, j3, j4, j5, j6, j7, j8⟩ := bx9 HX2.out; have hP2 : w.heap.size + 2 < w2.heap.size := heap_lt HO2.out; have HA := bxOne w2 #[.int .i64 7, .string s.n, .string ⟨#[]⟩, .string SL, .int .i64 0, .int .i64 0, .int .i64 0, .int .i64 0, .bool false, .slice none 0 0, .slice none 0 0] 42; have HXa := kpB HA.2.out HX2; obtain ⟨q0, q1, q2, q3, q4, q5, q6, q7, q8⟩ := bx9 HXa.out)
    | (go_simp; go_at_call 33; (with_reducible refine (CY.out _ _ _ _).mono ?_); rintro e w3 ⟨rfl, hb⟩; have hba := HA.2.out.trans (hb.mono HA.2.out.size); have HX3 := kpB hba HX2; have HZ3 := kpB hba HZ2; have HO3 := kpB hba HO2; have HB3 := Lib.hid (HB2.out.trans (hba.mono HB2.out.size)); have HR3 := kpB hb HA.1; clear hb hba; obtain ⟨z0, z1, z2, z3, z4, z5, z6, z7, z8⟩ := bx9 HZ3.out; obtain ⟨u0, u1, u2, u3, u4, u5, u6, u7, u8⟩ := bx9f HZ3.out; obtain ⟨y0, y1, y2⟩ := bx3 HO3.out; obtain ⟨v0, v1, v2⟩ := bx3f HO3.out; have hP3 : w.heap.size + 2 < w3.heap.size := heap_lt HO3.out))
  all_goals
    have HZf := Lib.hid (st3k (A := w.heap.size + 2) (b := w.heap.size + 1) (by omega) (.slice (some ⟨w2.heap.size, 0, none⟩) 1 1) (.bool false) (.slice none 0 0) |>.trans (st9 HZ3.out (.int .i64 2) (.string s.n) (.string s.d) (.int .i64 s.s) (.int .i64 s.t) (.int .i64 s.c) (.int .i64 s.h) (.int .i64 0) (.int .i64 s.e)))
    have HOf := Lib.hid (st3 ((st9k (A := w.heap.size + 1) (b := w.heap.size + 2) (by omega) (.int .i64 2) (.string s.n) (.string s.d) (.int .i64 s.s) (.int .i64 s.t) (.int .i64 s.c) (.int .i64 s.h) (.int .i64 0) (.int .i64 s.e)).trans HO3.out) (.slice (some ⟨w2.heap.size, 0, none⟩) 1 1) (.bool false) (.slice none 0 0))
    have HBf := Lib.hid (st3b (st9b HB3.out (Nat.le_succ _) (.int .i64 2) (.string s.n) (.string s.d) (.int .i64 s.s) (.int .i64 s.t) (.int .i64 s.c) (.int .i64 s.h) (.int .i64 0) (.int .i64 s.e)) (Nat.le_add_right _ 2) (.slice (some ⟨w2.heap.size, 0, none⟩) 1 1) (.bool false) (.slice none 0 0))
    have HRf := Lib.hid (st3k (A := w.heap.size + 2) (b := w2.heap.size) (by omega) (.slice (some ⟨w2.heap.size, 0, none⟩) 1 1) (.bool false) (.slice none 0 0) |>.trans ((st9k (A := w.heap.size + 1) (b := w2.heap.size) (by omega) (.int .i64 2) (.string s.n) (.string s.d) (.int .i64 s.s) (.int .i64 s.t) (.int .i64 s.c) (.int .i64 s.h) (.int .i64 0) (.int .i64 s.e)).trans HR3.out))
    go_wp2_with fail
    exact bodyPost_ret (results_two Tryz.results37 _ _ (w.heap.size + 1) (w.heap.size + 2) _ _ rfl rfl (load_s HZf.out) (load_o HOf.out)) rfl ⟨w2.heap.size, rfl, HBf.out, HRf.out, HB2.out.size⟩
end Go.Proofs.YthbeempmdpfnmaaGreatDoor.T
