/- Contracts of stanza.Error and stanza.Result: the answer, or none. Condition: a stanza of at most 18000 letters beside its Cond; a condition of at most 100000 bytes; a Load of at most 500 letters. -/
import Derived.Test.YtccpdfcmhggleaaGreatDoorSl
namespace Go.Proofs.YtccpdfcmhggleaaGreatDoor
open Go.RowKit Go.Lib Go.Shelf Tg St

set_option maxRecDepth 100000 in
set_option maxHeartbeats 8000000 in
theorem error_any (l0 : List El) (kd : Int) (ty fn fd fr tn td tr id sh st bd cd c : ByteArray) (aL : Option Addr) (nL cL : Nat) (w : World) (hw : wtS ⟨kd, ty, ⟨fn, fd, fr⟩, ⟨tn, td, tr⟩, id, sh, st, bd, l0, cd⟩ ≤ 18000 + cd.size) (hc : c.size ≤ 100000) :
    Calls Tryz.prog 14 #[.agg #[.int .i64 kd, .string ty, .string fn, .string fd, .string fr, .string tn, .string td, .string tr, .string id, .string sh, .string st, .string bd, .slice aL nL cL, .string cd], .string c] w (AnsP (er ⟨kd, ty, ⟨fn, fd, fr⟩, ⟨tn, td, tr⟩, id, sh, st, bd, l0, cd⟩ c) w) := by
  have hws : ty.size + id.size + sh.size + st.size + bd.size + cd.size + fn.size + fd.size + fr.size + tn.size + td.size + tr.size + wts l0 ≤ 18000 + cd.size := hw
  have CB := Lib.hid (fun W => back_any kd ty fn fd fr tn td tr id sh st bd cd ⟨#[101, 114, 114, 111, 114]⟩ aL nL cL W (by omega) (by omega) (by omega) (by omega) (by omega) (by omega) (by omega))
  have CC := Lib.hid (fun W => clone_any c W (by omega))
  have CH : Hid (∀ W, Below w.heap.size w W → Calls Tryz.prog 43 #[.agg #[.int .i64 kd, .string ⟨#[101, 114, 114, 111, 114]⟩, .string tn, .string td, .string tr, .string fn, .string fd, .string fr, .string id, .string ⟨#[]⟩, .string ⟨#[]⟩, .string ⟨#[]⟩, .slice none 0 0, .string c]] W (AnsP (chkd ⟨kd, tErr, ⟨tn, td, tr⟩, ⟨fn, fd, fr⟩, id, E0, E0, E0, [], c⟩) W)) := by
    intro W _
    refine checked_any [] 0 kd tErr tn td tr fn fd fr id E0 E0 E0 c none 0 W (fun i h => absurd h (by simp)) (Nat.zero_le _) ?_ hc
    have e1 : tErr.size = 5 := by decide
    have e2 : E0.size = 0 := by decide
    have e3 : wts [] = 0 := rfl
    unfold wtS
    simp only [e1, e2, e3]
    omega
  have HB0 : Hid (Below w.heap.size w ((w.alloc (.cells #[.int .i64 kd, .string ty, .string fn, .string fd, .string fr, .string tn, .string td, .string tr, .string id, .string sh, .string st, .string bd, .slice aL nL cL, .string cd] 26)).alloc (.cells #[.int .i64 0, .string ⟨#[]⟩, .string ⟨#[]⟩, .string ⟨#[]⟩, .string ⟨#[]⟩, .string ⟨#[]⟩, .string ⟨#[]⟩, .string ⟨#[]⟩, .string ⟨#[]⟩, .string ⟨#[]⟩, .string ⟨#[]⟩, .string ⟨#[]⟩, .slice none 0 0, .string ⟨#[]⟩] 26))) := ((Below.refl _ w).alloc (Nat.le_refl _) _).alloc (by simp) _
  have HX0 : Hid (((w.alloc (.cells #[.int .i64 kd, .string ty, .string fn, .string fd, .string fr, .string tn, .string td, .string tr, .string id, .string sh, .string st, .string bd, .slice aL nL cL, .string cd] 26)).alloc (.cells #[.int .i64 0, .string ⟨#[]⟩, .string ⟨#[]⟩, .string ⟨#[]⟩, .string ⟨#[]⟩, .string ⟨#[]⟩, .string ⟨#[]⟩, .string ⟨#[]⟩, .string ⟨#[]⟩, .string ⟨#[]⟩, .string ⟨#[]⟩, .string ⟨#[]⟩, .slice none 0 0, .string ⟨#[]⟩] 26)).heap[w.heap.size]? = some (.cells #[.int .i64 kd, .string ty, .string fn, .string fd, .string fr, .string tn, .string td, .string tr, .string id, .string sh, .string st, .string bd, .slice aL nL cL, .string cd] 26 (0, 0))) := (Below.heap_alloc _ _ _ (by simp)).trans (box_new w _ _)
  have HY0 : Hid (((w.alloc (.cells #[.int .i64 kd, .string ty, .string fn, .string fd, .string fr, .string tn, .string td, .string tr, .string id, .string sh, .string st, .string bd, .slice aL nL cL, .string cd] 26)).alloc (.cells #[.int .i64 0, .string ⟨#[]⟩, .string ⟨#[]⟩, .string ⟨#[]⟩, .string ⟨#[]⟩, .string ⟨#[]⟩, .string ⟨#[]⟩, .string ⟨#[]⟩, .string ⟨#[]⟩, .string ⟨#[]⟩, .string ⟨#[]⟩, .string ⟨#[]⟩, .slice none 0 0, .string ⟨#[]⟩] 26)).heap[w.heap.size + 1]? = some (.cells #[.int .i64 0, .string ⟨#[]⟩, .string ⟨#[]⟩, .string ⟨#[]⟩, .string ⟨#[]⟩, .string ⟨#[]⟩, .string ⟨#[]⟩, .string ⟨#[]⟩, .string ⟨#[]⟩, .string ⟨#[]⟩, .string ⟨#[]⟩, .string ⟨#[]⟩, .slice none 0 0, .string ⟨#[]⟩] 26 (0, 0))) := box_snd w _ _ _ _
  unfold er
  have HE1 : Hid (eqb ty tErr = (ty.toList == [101, 114, 114, 111, 114])) := by show _ = _; unfold eqb; rw [show tErr.toList = [101, 114, 114, 111, 114] by rw [ByteArray.toList_eq]; rfl]
  have HE2 : Hid (eqb ty tRes = (ty.toList == [114, 101, 115, 117, 108, 116])) := by show _ = _; unfold eqb; rw [show tRes.toList = [114, 101, 115, 117, 108, 116] by rw [ByteArray.toList_eq]; rfl]
  rw [HE1.out, HE2.out]
  have k3 : (kd == 3) = decide (kd = 3) := rfl
  show Calls _ _ _ _ (AnsP (if ((ty.toList == [101, 114, 114, 111, 114]) || (decide (kd = 3) && (ty.toList == [114, 101, 115, 117, 108, 116]))) = true then none else chkd ⟨kd, tErr, ⟨tn, td, tr⟩, ⟨fn, fd, fr⟩, id, E0, E0, E0, [], c⟩) w)
  clear hw hws hc
  generalize hSQ : (⟨kd, tErr, ⟨tn, td, tr⟩, ⟨fn, fd, fr⟩, id, E0, E0, E0, [], c⟩ : S) = SQ at CH ⊢
  generalize decide (kd = 3) = b3 at k3 ⊢
  generalize m1 : (ty.toList == [101, 114, 114, 111, 114]) = b1
  generalize m2 : (ty.toList == [114, 101, 115, 117, 108, 116]) = b2
  cases b1 with
  | true =>
    clear CB CC CH
    rw [if_pos (by rfl)]
    clear HE1 HE2
    go_enter Tryz.func14, Tryz.ntmps14
    go_upto_region 1 with fail
    generalize ((w.alloc (.cells #[.int .i64 kd, .string ty, .string fn, .string fd, .string fr, .string tn, .string td, .string tr, .string id, .string sh, .string st, .string bd, .slice aL nL cL, .string cd] 26)).alloc (.cells #[.int .i64 0, .string ⟨#[]⟩, .string ⟨#[]⟩, .string ⟨#[]⟩, .string ⟨#[]⟩, .string ⟨#[]⟩, .string ⟨#[]⟩, .string ⟨#[]⟩, .string ⟨#[]⟩, .string ⟨#[]⟩, .string ⟨#[]⟩, .string ⟨#[]⟩, .slice none 0 0, .string ⟨#[]⟩] 26)) = w0 at HB0 HX0 HY0 ⊢
    obtain ⟨x0, x1, x2, x3, x4, x5, x6, x7, x8, x9, x10, x11, x12, x13⟩ := bx14 HX0.out
    obtain ⟨y0, y1, y2, y3, y4, y5, y6, y7, y8, y9, y10, y11, y12, y13⟩ := bx14 HY0.out
    have f0 := Lib.frozen_of_heap HY0.out 0
    have f1 := Lib.frozen_of_heap HY0.out 1
    have f2 := Lib.frozen_of_heap HY0.out 2
    have f3 := Lib.frozen_of_heap HY0.out 3
    have f4 := Lib.frozen_of_heap HY0.out 4
    have f5 := Lib.frozen_of_heap HY0.out 5
    have f6 := Lib.frozen_of_heap HY0.out 6
    have f7 := Lib.frozen_of_heap HY0.out 7
    have f8 := Lib.frozen_of_heap HY0.out 8
    have f9 := Lib.frozen_of_heap HY0.out 9
    have f10 := Lib.frozen_of_heap HY0.out 10
    have f11 := Lib.frozen_of_heap HY0.out 11
    have f12 := Lib.frozen_of_heap HY0.out 12
    have f13 := Lib.frozen_of_heap HY0.out 13
    go_wp2_with fail
    obtain ⟨wz, hwz, hz1, hz2, hz3⟩ := st14 (vs := #[Value.int .i64 0, .string ⟨#[]⟩, .string ⟨#[]⟩, .string ⟨#[]⟩, .string ⟨#[]⟩, .string ⟨#[]⟩, .string ⟨#[]⟩, .string ⟨#[]⟩, .string ⟨#[]⟩, .string ⟨#[]⟩, .string ⟨#[]⟩, .string ⟨#[]⟩, .slice none 0 0, .string ⟨#[]⟩]) HY0.out HB0.out (Nat.le_succ _) (Value.int .i64 0) (.string ⟨#[]⟩) (.string ⟨#[]⟩) (.string ⟨#[]⟩) (.string ⟨#[]⟩) (.string ⟨#[]⟩) (.string ⟨#[]⟩) (.string ⟨#[]⟩) (.string ⟨#[]⟩) (.string ⟨#[]⟩) (.string ⟨#[]⟩) (.string ⟨#[]⟩) (.slice none 0 0) (.string ⟨#[]⟩) rfl rfl
    rw [← hwz]
    obtain ⟨q0, q1, q2, q3, q4, q5, q6, q7, q8, q9, q10, q11, q12, q13⟩ := bx14 hz1
    refine bodyPost_ret (v := .tuple #[.agg stZ, .bool false]) (by simp [results, Tryz.results14, go_sem, q0, q1, q2, q3, q4, q5, q6, q7, q8, q9, q10, q11, q12, q13]) rfl ?_
    exact ⟨rfl, hz3⟩
  | false =>
    have n1 : ¬ ty.toList = [101, 114, 114, 111, 114] := by
      intro h; rw [h] at m1; exact absurd m1 (by decide)
    cases b3 with
    | true =>
      cases b2 with
      | true =>
        clear CB CC CH
        rw [if_pos (by rfl)]
        clear HE1 HE2
        go_enter Tryz.func14, Tryz.ntmps14
        go_upto_region 1 with fail
        generalize ((w.alloc (.cells #[.int .i64 kd, .string ty, .string fn, .string fd, .string fr, .string tn, .string td, .string tr, .string id, .string sh, .string st, .string bd, .slice aL nL cL, .string cd] 26)).alloc (.cells #[.int .i64 0, .string ⟨#[]⟩, .string ⟨#[]⟩, .string ⟨#[]⟩, .string ⟨#[]⟩, .string ⟨#[]⟩, .string ⟨#[]⟩, .string ⟨#[]⟩, .string ⟨#[]⟩, .string ⟨#[]⟩, .string ⟨#[]⟩, .string ⟨#[]⟩, .slice none 0 0, .string ⟨#[]⟩] 26)) = w0 at HB0 HX0 HY0 ⊢
        obtain ⟨x0, x1, x2, x3, x4, x5, x6, x7, x8, x9, x10, x11, x12, x13⟩ := bx14 HX0.out
        obtain ⟨y0, y1, y2, y3, y4, y5, y6, y7, y8, y9, y10, y11, y12, y13⟩ := bx14 HY0.out
        have f0 := Lib.frozen_of_heap HY0.out 0
        have f1 := Lib.frozen_of_heap HY0.out 1
        have f2 := Lib.frozen_of_heap HY0.out 2
        have f3 := Lib.frozen_of_heap HY0.out 3
        have f4 := Lib.frozen_of_heap HY0.out 4
        have f5 := Lib.frozen_of_heap HY0.out 5
        have f6 := Lib.frozen_of_heap HY0.out 6
        have f7 := Lib.frozen_of_heap HY0.out 7
        have f8 := Lib.frozen_of_heap HY0.out 8
        have f9 := Lib.frozen_of_heap HY0.out 9
        have f10 := Lib.frozen_of_heap HY0.out 10
        have f11 := Lib.frozen_of_heap HY0.out 11
        have f12 := Lib.frozen_of_heap HY0.out 12
        have f13 := Lib.frozen_of_heap HY0.out 13
        go_wp2_with fail
        obtain ⟨wz, hwz, hz1, hz2, hz3⟩ := st14 (vs := #[Value.int .i64 0, .string ⟨#[]⟩, .string ⟨#[]⟩, .string ⟨#[]⟩, .string ⟨#[]⟩, .string ⟨#[]⟩, .string ⟨#[]⟩, .string ⟨#[]⟩, .string ⟨#[]⟩, .string ⟨#[]⟩, .string ⟨#[]⟩, .string ⟨#[]⟩, .slice none 0 0, .string ⟨#[]⟩]) HY0.out HB0.out (Nat.le_succ _) (Value.int .i64 0) (.string ⟨#[]⟩) (.string ⟨#[]⟩) (.string ⟨#[]⟩) (.string ⟨#[]⟩) (.string ⟨#[]⟩) (.string ⟨#[]⟩) (.string ⟨#[]⟩) (.string ⟨#[]⟩) (.string ⟨#[]⟩) (.string ⟨#[]⟩) (.string ⟨#[]⟩) (.slice none 0 0) (.string ⟨#[]⟩) rfl rfl
        rw [← hwz]
        obtain ⟨q0, q1, q2, q3, q4, q5, q6, q7, q8, q9, q10, q11, q12, q13⟩ := bx14 hz1
        refine bodyPost_ret (v := .tuple #[.agg stZ, .bool false]) (by simp [results, Tryz.results14, go_sem, q0, q1, q2, q3, q4, q5, q6, q7, q8, q9, q10, q11, q12, q13]) rfl ?_
        exact ⟨rfl, hz3⟩
      | false =>
        have n2 : ¬ ty.toList = [114, 101, 115, 117, 108, 116] := by
          intro h; rw [h] at m2; exact absurd m2 (by decide)
        rw [if_neg (by simp)]
        obtain ⟨x0, x1, x2, x3, x4, x5, x6, x7, x8, x9, x10, x11, x12, x13⟩ := bx14 HX0.out
        clear HE1 HE2
        go_enter Tryz.func14, Tryz.ntmps14
        go_wp2_with fail
        refine (CB.out _).mono ?_
        rintro r w1 ⟨rfl, hb⟩
        have HB1 := Lib.hid (more HB0.out (Nat.le_refl _) hb)
        have HY1 := Lib.hid ((hb.block _ (heap_lt HY0.out)).trans HY0.out)
        clear hb HB0 HX0 HY0 CB x0 x1 x2 x3 x4 x5 x6 x7 x8 x9 x10 x11 x12 x13
        have HP1 := Lib.hid (box_new w1 #[.int .i64 kd, .string ⟨#[101, 114, 114, 111, 114]⟩, .string tn, .string td, .string tr, .string fn, .string fd, .string fr, .string id, .string ⟨#[]⟩, .string ⟨#[]⟩, .string ⟨#[]⟩, .slice none 0 0, .string ⟨#[]⟩] 26)
        have HB2 := Lib.hid (HB1.out.alloc HB1.out.size (.cells #[.int .i64 kd, .string ⟨#[101, 114, 114, 111, 114]⟩, .string tn, .string td, .string tr, .string fn, .string fd, .string fr, .string id, .string ⟨#[]⟩, .string ⟨#[]⟩, .string ⟨#[]⟩, .slice none 0 0, .string ⟨#[]⟩] 26))
        have HY2 := Lib.hid ((Below.heap_alloc w1 (.cells #[.int .i64 kd, .string ⟨#[101, 114, 114, 111, 114]⟩, .string tn, .string td, .string tr, .string fn, .string fd, .string fr, .string id, .string ⟨#[]⟩, .string ⟨#[]⟩, .string ⟨#[]⟩, .slice none 0 0, .string ⟨#[]⟩] 26) _ (heap_lt HY1.out)).trans HY1.out)
        have HQ1 : Hid (w.heap.size + 1 < w1.heap.size) := heap_lt HY1.out
        go_wp2_with fail
        refine (CC.out _).mono ?_
        rintro r w2 ⟨rfl, hb⟩
        have HB3 := Lib.hid (more HB2.out (Nat.le_refl _) hb)
        have HY3 := Lib.hid ((hb.block _ (heap_lt HY2.out)).trans HY2.out)
        have HP3 := Lib.hid ((hb.block _ (heap_lt HP1.out)).trans HP1.out)
        clear hb HB1 HB2 HY1 HY2 HP1 CC
        generalize w1.heap.size = P at HP3 HQ1 ⊢
        have f0 := Lib.frozen_of_heap HP3.out 13
        obtain ⟨x0, x1, x2, x3, x4, x5, x6, x7, x8, x9, x10, x11, x12, x13⟩ := bx14 HP3.out
        have hP3 := heap_lt HP3.out
        have HP4 : Hid ((w2.setCell ⟨P, 13, none⟩ (.string c)).heap[P]? = some (.cells #[.int .i64 kd, .string ⟨#[101, 114, 114, 111, 114]⟩, .string tn, .string td, .string tr, .string fn, .string fd, .string fr, .string id, .string ⟨#[]⟩, .string ⟨#[]⟩, .string ⟨#[]⟩, .slice none 0 0, .string c] 26 (0, 0))) := setI HP3.out 13 (.string c)
        have HY4 := Lib.hid ((setCell_other (w := w2) (b := P) (i := 13) (u := (.string c)) (k := w.heap.size + 1) (by have := HQ1.out; omega)).trans HY3.out)
        have HB4 := Lib.hid (HB3.out.setCell (p := ⟨P, 13, none⟩) (by have := HQ1.out; show w.heap.size ≤ P; omega) (.string c))
        go_upto_region 5 with fail
        generalize w2.setCell ⟨P, 13, none⟩ (.string c) = w3 at HP4 HY4 HB4 ⊢
        clear HP3 HB3 HY3 f0 hP3 x0 x1 x2 x3 x4 x5 x6 x7 x8 x9 x10 x11 x12 x13
        obtain ⟨x0, x1, x2, x3, x4, x5, x6, x7, x8, x9, x10, x11, x12, x13⟩ := bx14 HP4.out
        cases hok : okS SQ with
        | false =>
          have HC4 := Lib.hid (CH.out w3 HB4.out)
          have HC5 : Hid (Calls Tryz.prog 43 #[.agg #[.int .i64 kd, .string ⟨#[101, 114, 114, 111, 114]⟩, .string tn, .string td, .string tr, .string fn, .string fd, .string fr, .string id, .string ⟨#[]⟩, .string ⟨#[]⟩, .string ⟨#[]⟩, .slice none 0 0, .string c]] w3 (AnsP none w3)) := by
            have h := HC4.out
            unfold chkd at h
            rw [hok, if_neg (by simp)] at h
            exact h
          clear HC4 CH
          go_wp2_with fail
          refine HC5.out.mono ?_
          rintro r w4 ⟨rfl, hb⟩
          have HB5 := Lib.hid (more HB4.out (Nat.le_refl _) hb)
          have HY5 := Lib.hid ((hb.block _ (heap_lt HY4.out)).trans HY4.out)
          clear hb HB4 HY4 HC5 HP4 x0 x1 x2 x3 x4 x5 x6 x7 x8 x9 x10 x11 x12 x13
          obtain ⟨y0, y1, y2, y3, y4, y5, y6, y7, y8, y9, y10, y11, y12, y13⟩ := bx14 HY5.out
          have f0 := Lib.frozen_of_heap HY5.out 0
          have f1 := Lib.frozen_of_heap HY5.out 1
          have f2 := Lib.frozen_of_heap HY5.out 2
          have f3 := Lib.frozen_of_heap HY5.out 3
          have f4 := Lib.frozen_of_heap HY5.out 4
          have f5 := Lib.frozen_of_heap HY5.out 5
          have f6 := Lib.frozen_of_heap HY5.out 6
          have f7 := Lib.frozen_of_heap HY5.out 7
          have f8 := Lib.frozen_of_heap HY5.out 8
          have f9 := Lib.frozen_of_heap HY5.out 9
          have f10 := Lib.frozen_of_heap HY5.out 10
          have f11 := Lib.frozen_of_heap HY5.out 11
          have f12 := Lib.frozen_of_heap HY5.out 12
          have f13 := Lib.frozen_of_heap HY5.out 13
          dsimp only [stZ]
          go_wp2_with fail
          obtain ⟨wz, hwz, hz1, hz2, hz3⟩ := st14 (vs := #[Value.int .i64 0, .string ⟨#[]⟩, .string ⟨#[]⟩, .string ⟨#[]⟩, .string ⟨#[]⟩, .string ⟨#[]⟩, .string ⟨#[]⟩, .string ⟨#[]⟩, .string ⟨#[]⟩, .string ⟨#[]⟩, .string ⟨#[]⟩, .string ⟨#[]⟩, .slice none 0 0, .string ⟨#[]⟩]) HY5.out HB5.out (Nat.le_succ _) (Value.int .i64 0) (.string ⟨#[]⟩) (.string ⟨#[]⟩) (.string ⟨#[]⟩) (.string ⟨#[]⟩) (.string ⟨#[]⟩) (.string ⟨#[]⟩) (.string ⟨#[]⟩) (.string ⟨#[]⟩) (.string ⟨#[]⟩) (.string ⟨#[]⟩) (.string ⟨#[]⟩) (.slice none 0 0) (.string ⟨#[]⟩) rfl rfl
          rw [← hwz]
          obtain ⟨q0, q1, q2, q3, q4, q5, q6, q7, q8, q9, q10, q11, q12, q13⟩ := bx14 hz1
          refine bodyPost_ret (v := .tuple #[.agg stZ, .bool false]) (by simp [results, Tryz.results14, go_sem, q0, q1, q2, q3, q4, q5, q6, q7, q8, q9, q10, q11, q12, q13]) rfl ?_
          unfold chkd
          rw [hok, if_neg (by simp)]
          exact ⟨rfl, hz3⟩
        | true =>
          subst hSQ
          have HC4 := Lib.hid (CH.out w3 HB4.out)
          have HC5 : Hid (Calls Tryz.prog 43 #[.agg #[.int .i64 kd, .string ⟨#[101, 114, 114, 111, 114]⟩, .string tn, .string td, .string tr, .string fn, .string fd, .string fr, .string id, .string ⟨#[]⟩, .string ⟨#[]⟩, .string ⟨#[]⟩, .slice none 0 0, .string c]] w3 fun e w' => (∃ aq cq, e = .returned (.tuple #[.agg #[.int .i64 kd, .string ⟨#[101, 114, 114, 111, 114]⟩, .string tn, .string td, .string tr, .string fn, .string fd, .string fr, .string id, .string ⟨#[]⟩, .string ⟨#[]⟩, .string ⟨#[]⟩, .slice aq 0 cq, .string c], .bool true]) ∧ KsS (fun b => w3.heap.size ≤ b) w' aq []) ∧ Below w3.heap.size w3 w') := by
            have h := HC4.out
            unfold chkd at h
            rw [hok, if_pos rfl] at h
            exact h
          clear HC4 CH
          go_wp2_with fail
          refine HC5.out.mono ?_
          rintro r w4 ⟨⟨a5, c5, rfl, hks⟩, hb⟩
          have HB5 := Lib.hid (more HB4.out (Nat.le_refl _) hb)
          have HY5 := Lib.hid ((hb.block _ (heap_lt HY4.out)).trans HY4.out)
          have HKS := Lib.hid hks
          have HL3 := Lib.hid (heap_lt HY4.out)
          have HS3 := Lib.hid HB4.out.size
          clear hb hks HB4 HY4 HC5 HP4 x0 x1 x2 x3 x4 x5 x6 x7 x8 x9 x10 x11 x12 x13
          obtain ⟨y0, y1, y2, y3, y4, y5, y6, y7, y8, y9, y10, y11, y12, y13⟩ := bx14 HY5.out
          have f0 := Lib.frozen_of_heap HY5.out 0
          have f1 := Lib.frozen_of_heap HY5.out 1
          have f2 := Lib.frozen_of_heap HY5.out 2
          have f3 := Lib.frozen_of_heap HY5.out 3
          have f4 := Lib.frozen_of_heap HY5.out 4
          have f5 := Lib.frozen_of_heap HY5.out 5
          have f6 := Lib.frozen_of_heap HY5.out 6
          have f7 := Lib.frozen_of_heap HY5.out 7
          have f8 := Lib.frozen_of_heap HY5.out 8
          have f9 := Lib.frozen_of_heap HY5.out 9
          have f10 := Lib.frozen_of_heap HY5.out 10
          have f11 := Lib.frozen_of_heap HY5.out 11
          have f12 := Lib.frozen_of_heap HY5.out 12
          have f13 := Lib.frozen_of_heap HY5.out 13
          go_wp2_with fail
          obtain ⟨wz, hwz, hz1, hz2, hz3⟩ := st14 (vs := #[.int .i64 kd, .string ⟨#[101, 114, 114, 111, 114]⟩, .string tn, .string td, .string tr, .string fn, .string fd, .string fr, .string id, .string ⟨#[]⟩, .string ⟨#[]⟩, .string ⟨#[]⟩, .slice a5 0 c5, .string c]) HY5.out HB5.out (Nat.le_succ _) (.int .i64 kd) (.string ⟨#[101, 114, 114, 111, 114]⟩) (.string tn) (.string td) (.string tr) (.string fn) (.string fd) (.string fr) (.string id) (.string ⟨#[]⟩) (.string ⟨#[]⟩) (.string ⟨#[]⟩) (.slice a5 0 c5) (.string c) rfl rfl
          rw [← hwz]
          obtain ⟨q0, q1, q2, q3, q4, q5, q6, q7, q8, q9, q10, q11, q12, q13⟩ := bx14 hz1
          refine bodyPost_ret (v := .tuple #[.agg #[.int .i64 kd, .string ⟨#[101, 114, 114, 111, 114]⟩, .string tn, .string td, .string tr, .string fn, .string fd, .string fr, .string id, .string ⟨#[]⟩, .string ⟨#[]⟩, .string ⟨#[]⟩, .slice a5 0 c5, .string c], .bool true]) (by simp [results, Tryz.results14, go_sem, q0, q1, q2, q3, q4, q5, q6, q7, q8, q9, q10, q11, q12, q13]) rfl ?_
          unfold chkd
          rw [hok, if_pos rfl]
          exact ⟨⟨a5, c5, rfl, (HKS.out.keep fun b hb _ => hz2 b (by have := HL3.out; omega)).weak fun b _ hb => Nat.le_trans HS3.out hb⟩, hz3⟩
    | false =>
      clear m2
      rw [if_neg (by simp)]
      obtain ⟨x0, x1, x2, x3, x4, x5, x6, x7, x8, x9, x10, x11, x12, x13⟩ := bx14 HX0.out
      clear HE1 HE2
      go_enter Tryz.func14, Tryz.ntmps14
      go_wp2_with fail
      refine (CB.out _).mono ?_
      rintro r w1 ⟨rfl, hb⟩
      have HB1 := Lib.hid (more HB0.out (Nat.le_refl _) hb)
      have HY1 := Lib.hid ((hb.block _ (heap_lt HY0.out)).trans HY0.out)
      clear hb HB0 HX0 HY0 CB x0 x1 x2 x3 x4 x5 x6 x7 x8 x9 x10 x11 x12 x13
      have HP1 := Lib.hid (box_new w1 #[.int .i64 kd, .string ⟨#[101, 114, 114, 111, 114]⟩, .string tn, .string td, .string tr, .string fn, .string fd, .string fr, .string id, .string ⟨#[]⟩, .string ⟨#[]⟩, .string ⟨#[]⟩, .slice none 0 0, .string ⟨#[]⟩] 26)
      have HB2 := Lib.hid (HB1.out.alloc HB1.out.size (.cells #[.int .i64 kd, .string ⟨#[101, 114, 114, 111, 114]⟩, .string tn, .string td, .string tr, .string fn, .string fd, .string fr, .string id, .string ⟨#[]⟩, .string ⟨#[]⟩, .string ⟨#[]⟩, .slice none 0 0, .string ⟨#[]⟩] 26))
      have HY2 := Lib.hid ((Below.heap_alloc w1 (.cells #[.int .i64 kd, .string ⟨#[101, 114, 114, 111, 114]⟩, .string tn, .string td, .string tr, .string fn, .string fd, .string fr, .string id, .string ⟨#[]⟩, .string ⟨#[]⟩, .string ⟨#[]⟩, .slice none 0 0, .string ⟨#[]⟩] 26) _ (heap_lt HY1.out)).trans HY1.out)
      have HQ1 : Hid (w.heap.size + 1 < w1.heap.size) := heap_lt HY1.out
      go_wp2_with fail
      refine (CC.out _).mono ?_
      rintro r w2 ⟨rfl, hb⟩
      have HB3 := Lib.hid (more HB2.out (Nat.le_refl _) hb)
      have HY3 := Lib.hid ((hb.block _ (heap_lt HY2.out)).trans HY2.out)
      have HP3 := Lib.hid ((hb.block _ (heap_lt HP1.out)).trans HP1.out)
      clear hb HB1 HB2 HY1 HY2 HP1 CC
      generalize w1.heap.size = P at HP3 HQ1 ⊢
      have f0 := Lib.frozen_of_heap HP3.out 13
      obtain ⟨x0, x1, x2, x3, x4, x5, x6, x7, x8, x9, x10, x11, x12, x13⟩ := bx14 HP3.out
      have hP3 := heap_lt HP3.out
      have HP4 : Hid ((w2.setCell ⟨P, 13, none⟩ (.string c)).heap[P]? = some (.cells #[.int .i64 kd, .string ⟨#[101, 114, 114, 111, 114]⟩, .string tn, .string td, .string tr, .string fn, .string fd, .string fr, .string id, .string ⟨#[]⟩, .string ⟨#[]⟩, .string ⟨#[]⟩, .slice none 0 0, .string c] 26 (0, 0))) := setI HP3.out 13 (.string c)
      have HY4 := Lib.hid ((setCell_other (w := w2) (b := P) (i := 13) (u := (.string c)) (k := w.heap.size + 1) (by have := HQ1.out; omega)).trans HY3.out)
      have HB4 := Lib.hid (HB3.out.setCell (p := ⟨P, 13, none⟩) (by have := HQ1.out; show w.heap.size ≤ P; omega) (.string c))
      go_upto_region 5 with fail
      generalize w2.setCell ⟨P, 13, none⟩ (.string c) = w3 at HP4 HY4 HB4 ⊢
      clear HP3 HB3 HY3 f0 hP3 x0 x1 x2 x3 x4 x5 x6 x7 x8 x9 x10 x11 x12 x13
      obtain ⟨x0, x1, x2, x3, x4, x5, x6, x7, x8, x9, x10, x11, x12, x13⟩ := bx14 HP4.out
      cases hok : okS SQ with
      | false =>
        have HC4 := Lib.hid (CH.out w3 HB4.out)
        have HC5 : Hid (Calls Tryz.prog 43 #[.agg #[.int .i64 kd, .string ⟨#[101, 114, 114, 111, 114]⟩, .string tn, .string td, .string tr, .string fn, .string fd, .string fr, .string id, .string ⟨#[]⟩, .string ⟨#[]⟩, .string ⟨#[]⟩, .slice none 0 0, .string c]] w3 (AnsP none w3)) := by
          have h := HC4.out
          unfold chkd at h
          rw [hok, if_neg (by simp)] at h
          exact h
        clear HC4 CH
        go_wp2_with fail
        refine HC5.out.mono ?_
        rintro r w4 ⟨rfl, hb⟩
        have HB5 := Lib.hid (more HB4.out (Nat.le_refl _) hb)
        have HY5 := Lib.hid ((hb.block _ (heap_lt HY4.out)).trans HY4.out)
        clear hb HB4 HY4 HC5 HP4 x0 x1 x2 x3 x4 x5 x6 x7 x8 x9 x10 x11 x12 x13
        obtain ⟨y0, y1, y2, y3, y4, y5, y6, y7, y8, y9, y10, y11, y12, y13⟩ := bx14 HY5.out
        have f0 := Lib.frozen_of_heap HY5.out 0
        have f1 := Lib.frozen_of_heap HY5.out 1
        have f2 := Lib.frozen_of_heap HY5.out 2
        have f3 := Lib.frozen_of_heap HY5.out 3
        have f4 := Lib.frozen_of_heap HY5.out 4
        have f5 := Lib.frozen_of_heap HY5.out 5
        have f6 := Lib.frozen_of_heap HY5.out 6
        have f7 := Lib.frozen_of_heap HY5.out 7
        have f8 := Lib.frozen_of_heap HY5.out 8
        have f9 := Lib.frozen_of_heap HY5.out 9
        have f10 := Lib.frozen_of_heap HY5.out 10
        have f11 := Lib.frozen_of_heap HY5.out 11
        have f12 := Lib.frozen_of_heap HY5.out 12
        have f13 := Lib.frozen_of_heap HY5.out 13
        dsimp only [stZ]
        go_wp2_with fail
        obtain ⟨wz, hwz, hz1, hz2, hz3⟩ := st14 (vs := #[Value.int .i64 0, .string ⟨#[]⟩, .string ⟨#[]⟩, .string ⟨#[]⟩, .string ⟨#[]⟩, .string ⟨#[]⟩, .string ⟨#[]⟩, .string ⟨#[]⟩, .string ⟨#[]⟩, .string ⟨#[]⟩, .string ⟨#[]⟩, .string ⟨#[]⟩, .slice none 0 0, .string ⟨#[]⟩]) HY5.out HB5.out (Nat.le_succ _) (Value.int .i64 0) (.string ⟨#[]⟩) (.string ⟨#[]⟩) (.string ⟨#[]⟩) (.string ⟨#[]⟩) (.string ⟨#[]⟩) (.string ⟨#[]⟩) (.string ⟨#[]⟩) (.string ⟨#[]⟩) (.string ⟨#[]⟩) (.string ⟨#[]⟩) (.string ⟨#[]⟩) (.slice none 0 0) (.string ⟨#[]⟩) rfl rfl
        rw [← hwz]
        obtain ⟨q0, q1, q2, q3, q4, q5, q6, q7, q8, q9, q10, q11, q12, q13⟩ := bx14 hz1
        refine bodyPost_ret (v := .tuple #[.agg stZ, .bool false]) (by simp [results, Tryz.results14, go_sem, q0, q1, q2, q3, q4, q5, q6, q7, q8, q9, q10, q11, q12, q13]) rfl ?_
        unfold chkd
        rw [hok, if_neg (by simp)]
        exact ⟨rfl, hz3⟩
      | true =>
        subst hSQ
        have HC4 := Lib.hid (CH.out w3 HB4.out)
        have HC5 : Hid (Calls Tryz.prog 43 #[.agg #[.int .i64 kd, .string ⟨#[101, 114, 114, 111, 114]⟩, .string tn, .string td, .string tr, .string fn, .string fd, .string fr, .string id, .string ⟨#[]⟩, .string ⟨#[]⟩, .string ⟨#[]⟩, .slice none 0 0, .string c]] w3 fun e w' => (∃ aq cq, e = .returned (.tuple #[.agg #[.int .i64 kd, .string ⟨#[101, 114, 114, 111, 114]⟩, .string tn, .string td, .string tr, .string fn, .string fd, .string fr, .string id, .string ⟨#[]⟩, .string ⟨#[]⟩, .string ⟨#[]⟩, .slice aq 0 cq, .string c], .bool true]) ∧ KsS (fun b => w3.heap.size ≤ b) w' aq []) ∧ Below w3.heap.size w3 w') := by
          have h := HC4.out
          unfold chkd at h
          rw [hok, if_pos rfl] at h
          exact h
        clear HC4 CH
        go_wp2_with fail
        refine HC5.out.mono ?_
        rintro r w4 ⟨⟨a5, c5, rfl, hks⟩, hb⟩
        have HB5 := Lib.hid (more HB4.out (Nat.le_refl _) hb)
        have HY5 := Lib.hid ((hb.block _ (heap_lt HY4.out)).trans HY4.out)
        have HKS := Lib.hid hks
        have HL3 := Lib.hid (heap_lt HY4.out)
        have HS3 := Lib.hid HB4.out.size
        clear hb hks HB4 HY4 HC5 HP4 x0 x1 x2 x3 x4 x5 x6 x7 x8 x9 x10 x11 x12 x13
        obtain ⟨y0, y1, y2, y3, y4, y5, y6, y7, y8, y9, y10, y11, y12, y13⟩ := bx14 HY5.out
        have f0 := Lib.frozen_of_heap HY5.out 0
        have f1 := Lib.frozen_of_heap HY5.out 1
        have f2 := Lib.frozen_of_heap HY5.out 2
        have f3 := Lib.frozen_of_heap HY5.out 3
        have f4 := Lib.frozen_of_heap HY5.out 4
        have f5 := Lib.frozen_of_heap HY5.out 5
        have f6 := Lib.frozen_of_heap HY5.out 6
        have f7 := Lib.frozen_of_heap HY5.out 7
        have f8 := Lib.frozen_of_heap HY5.out 8
        have f9 := Lib.frozen_of_heap HY5.out 9
        have f10 := Lib.frozen_of_heap HY5.out 10
        have f11 := Lib.frozen_of_heap HY5.out 11
        have f12 := Lib.frozen_of_heap HY5.out 12
        have f13 := Lib.frozen_of_heap HY5.out 13
        go_wp2_with fail
        obtain ⟨wz, hwz, hz1, hz2, hz3⟩ := st14 (vs := #[.int .i64 kd, .string ⟨#[101, 114, 114, 111, 114]⟩, .string tn, .string td, .string tr, .string fn, .string fd, .string fr, .string id, .string ⟨#[]⟩, .string ⟨#[]⟩, .string ⟨#[]⟩, .slice a5 0 c5, .string c]) HY5.out HB5.out (Nat.le_succ _) (.int .i64 kd) (.string ⟨#[101, 114, 114, 111, 114]⟩) (.string tn) (.string td) (.string tr) (.string fn) (.string fd) (.string fr) (.string id) (.string ⟨#[]⟩) (.string ⟨#[]⟩) (.string ⟨#[]⟩) (.slice a5 0 c5) (.string c) rfl rfl
        rw [← hwz]
        obtain ⟨q0, q1, q2, q3, q4, q5, q6, q7, q8, q9, q10, q11, q12, q13⟩ := bx14 hz1
        refine bodyPost_ret (v := .tuple #[.agg #[.int .i64 kd, .string ⟨#[101, 114, 114, 111, 114]⟩, .string tn, .string td, .string tr, .string fn, .string fd, .string fr, .string id, .string ⟨#[]⟩, .string ⟨#[]⟩, .string ⟨#[]⟩, .slice a5 0 c5, .string c], .bool true]) (by simp [results, Tryz.results14, go_sem, q0, q1, q2, q3, q4, q5, q6, q7, q8, q9, q10, q11, q12, q13]) rfl ?_
        unfold chkd
        rw [hok, if_pos rfl]
        exact ⟨⟨a5, c5, rfl, (HKS.out.keep fun b hb _ => hz2 b (by have := HL3.out; omega)).weak fun b _ hb => Nat.le_trans HS3.out hb⟩, hz3⟩
set_option maxRecDepth 100000 in
set_option maxHeartbeats 8000000 in
theorem result_any (ld l0 : List El) (B : Nat) (a0 : Option Addr) (c0 : Nat) (kd : Int) (ty fn fd fr tn td tr id sh st bd cd : ByteArray) (aL : Option Addr) (nL cL : Nat) (w : World) (hK : KsIn B w a0 ld) (hB : B ≤ w.heap.size) (hwl : wts ld ≤ 500) (hw : wtS ⟨kd, ty, ⟨fn, fd, fr⟩, ⟨tn, td, tr⟩, id, sh, st, bd, l0, cd⟩ ≤ 18000 + cd.size) :
    Calls Tryz.prog 15 #[.agg #[.int .i64 kd, .string ty, .string fn, .string fd, .string fr, .string tn, .string td, .string tr, .string id, .string sh, .string st, .string bd, .slice aL nL cL, .string cd], .slice a0 ld.length c0] w (AnsP (rs ⟨kd, ty, ⟨fn, fd, fr⟩, ⟨tn, td, tr⟩, id, sh, st, bd, l0, cd⟩ ld) w) := by
  have hws : ty.size + id.size + sh.size + st.size + bd.size + cd.size + fn.size + fd.size + fr.size + tn.size + td.size + tr.size + wts l0 ≤ 18000 + cd.size := hw
  have CB := Lib.hid (fun W => back_any kd ty fn fd fr tn td tr id sh st bd cd ⟨#[114, 101, 115, 117, 108, 116]⟩ aL nL cL W (by omega) (by omega) (by omega) (by omega) (by omega) (by omega) (by omega))
  have CH : Hid (∀ W, Below w.heap.size w W → Calls Tryz.prog 43 #[.agg #[.int .i64 kd, .string ⟨#[114, 101, 115, 117, 108, 116]⟩, .string tn, .string td, .string tr, .string fn, .string fd, .string fr, .string id, .string ⟨#[]⟩, .string ⟨#[]⟩, .string ⟨#[]⟩, .slice a0 ld.length c0, .string ⟨#[]⟩]] W (AnsP (chkd ⟨kd, tRes, ⟨tn, td, tr⟩, ⟨fn, fd, fr⟩, id, E0, E0, E0, ld, E0⟩) W)) := by
    intro W hb
    refine checked_any ld B kd tRes tn td tr fn fd fr id E0 E0 E0 E0 a0 c0 W (hK.below (hb.mono hB)) (Nat.le_trans hB hb.size) ?_ (by decide)
    have e1 : tRes.size = 6 := by decide
    have e2 : E0.size = 0 := by decide
    unfold wtS
    simp only [e1, e2]
    omega
  have HB0 : Hid (Below w.heap.size w ((w.alloc (.cells #[.int .i64 kd, .string ty, .string fn, .string fd, .string fr, .string tn, .string td, .string tr, .string id, .string sh, .string st, .string bd, .slice aL nL cL, .string cd] 26)).alloc (.cells #[.int .i64 0, .string ⟨#[]⟩, .string ⟨#[]⟩, .string ⟨#[]⟩, .string ⟨#[]⟩, .string ⟨#[]⟩, .string ⟨#[]⟩, .string ⟨#[]⟩, .string ⟨#[]⟩, .string ⟨#[]⟩, .string ⟨#[]⟩, .string ⟨#[]⟩, .slice none 0 0, .string ⟨#[]⟩] 26))) := ((Below.refl _ w).alloc (Nat.le_refl _) _).alloc (by simp) _
  have HX0 : Hid (((w.alloc (.cells #[.int .i64 kd, .string ty, .string fn, .string fd, .string fr, .string tn, .string td, .string tr, .string id, .string sh, .string st, .string bd, .slice aL nL cL, .string cd] 26)).alloc (.cells #[.int .i64 0, .string ⟨#[]⟩, .string ⟨#[]⟩, .string ⟨#[]⟩, .string ⟨#[]⟩, .string ⟨#[]⟩, .string ⟨#[]⟩, .string ⟨#[]⟩, .string ⟨#[]⟩, .string ⟨#[]⟩, .string ⟨#[]⟩, .string ⟨#[]⟩, .slice none 0 0, .string ⟨#[]⟩] 26)).heap[w.heap.size]? = some (.cells #[.int .i64 kd, .string ty, .string fn, .string fd, .string fr, .string tn, .string td, .string tr, .string id, .string sh, .string st, .string bd, .slice aL nL cL, .string cd] 26 (0, 0))) := (Below.heap_alloc _ _ _ (by simp)).trans (box_new w _ _)
  have HY0 : Hid (((w.alloc (.cells #[.int .i64 kd, .string ty, .string fn, .string fd, .string fr, .string tn, .string td, .string tr, .string id, .string sh, .string st, .string bd, .slice aL nL cL, .string cd] 26)).alloc (.cells #[.int .i64 0, .string ⟨#[]⟩, .string ⟨#[]⟩, .string ⟨#[]⟩, .string ⟨#[]⟩, .string ⟨#[]⟩, .string ⟨#[]⟩, .string ⟨#[]⟩, .string ⟨#[]⟩, .string ⟨#[]⟩, .string ⟨#[]⟩, .string ⟨#[]⟩, .slice none 0 0, .string ⟨#[]⟩] 26)).heap[w.heap.size + 1]? = some (.cells #[.int .i64 0, .string ⟨#[]⟩, .string ⟨#[]⟩, .string ⟨#[]⟩, .string ⟨#[]⟩, .string ⟨#[]⟩, .string ⟨#[]⟩, .string ⟨#[]⟩, .string ⟨#[]⟩, .string ⟨#[]⟩, .string ⟨#[]⟩, .string ⟨#[]⟩, .slice none 0 0, .string ⟨#[]⟩] 26 (0, 0))) := box_snd w _ _ _ _
  unfold rs
  have HE1 : Hid (eqb ty tGet = (ty.toList == [103, 101, 116])) := by show _ = _; unfold eqb; rw [show tGet.toList = [103, 101, 116] by rw [ByteArray.toList_eq]; rfl]
  have HE2 : Hid (eqb ty tSet = (ty.toList == [115, 101, 116])) := by show _ = _; unfold eqb; rw [show tSet.toList = [115, 101, 116] by rw [ByteArray.toList_eq]; rfl]
  rw [HE1.out, HE2.out]
  have k3 : (kd == 3) = decide (kd = 3) := rfl
  have k4 : (kd != 3) = !decide (kd = 3) := rfl
  show Calls _ _ _ _ (AnsP (if (decide (kd = 3) && ((ty.toList == [103, 101, 116]) || (ty.toList == [115, 101, 116]))) = true then chkd ⟨kd, tRes, ⟨tn, td, tr⟩, ⟨fn, fd, fr⟩, id, E0, E0, E0, ld, E0⟩ else none) w)
  clear hw hws hK hB hwl
  generalize hSQ : (⟨kd, tRes, ⟨tn, td, tr⟩, ⟨fn, fd, fr⟩, id, E0, E0, E0, ld, E0⟩ : S) = SQ at CH ⊢
  generalize decide (kd = 3) = b3 at k3 k4 ⊢
  generalize m1 : (ty.toList == [103, 101, 116]) = b1
  generalize m2 : (ty.toList == [115, 101, 116]) = b2
  cases b3 with
  | false =>
    clear CB CH m1 m2
    rw [if_neg (by simp)]
    clear HE1 HE2
    go_enter Tryz.func15, Tryz.ntmps15
    go_upto_region 1 with fail
    generalize ((w.alloc (.cells #[.int .i64 kd, .string ty, .string fn, .string fd, .string fr, .string tn, .string td, .string tr, .string id, .string sh, .string st, .string bd, .slice aL nL cL, .string cd] 26)).alloc (.cells #[.int .i64 0, .string ⟨#[]⟩, .string ⟨#[]⟩, .string ⟨#[]⟩, .string ⟨#[]⟩, .string ⟨#[]⟩, .string ⟨#[]⟩, .string ⟨#[]⟩, .string ⟨#[]⟩, .string ⟨#[]⟩, .string ⟨#[]⟩, .string ⟨#[]⟩, .slice none 0 0, .string ⟨#[]⟩] 26)) = w0 at HB0 HX0 HY0 ⊢
    obtain ⟨x0, x1, x2, x3, x4, x5, x6, x7, x8, x9, x10, x11, x12, x13⟩ := bx14 HX0.out
    obtain ⟨y0, y1, y2, y3, y4, y5, y6, y7, y8, y9, y10, y11, y12, y13⟩ := bx14 HY0.out
    have f0 := Lib.frozen_of_heap HY0.out 0
    have f1 := Lib.frozen_of_heap HY0.out 1
    have f2 := Lib.frozen_of_heap HY0.out 2
    have f3 := Lib.frozen_of_heap HY0.out 3
    have f4 := Lib.frozen_of_heap HY0.out 4
    have f5 := Lib.frozen_of_heap HY0.out 5
    have f6 := Lib.frozen_of_heap HY0.out 6
    have f7 := Lib.frozen_of_heap HY0.out 7
    have f8 := Lib.frozen_of_heap HY0.out 8
    have f9 := Lib.frozen_of_heap HY0.out 9
    have f10 := Lib.frozen_of_heap HY0.out 10
    have f11 := Lib.frozen_of_heap HY0.out 11
    have f12 := Lib.frozen_of_heap HY0.out 12
    have f13 := Lib.frozen_of_heap HY0.out 13
    go_wp2_with fail
    obtain ⟨wz, hwz, hz1, hz2, hz3⟩ := st14 (vs := #[Value.int .i64 0, .string ⟨#[]⟩, .string ⟨#[]⟩, .string ⟨#[]⟩, .string ⟨#[]⟩, .string ⟨#[]⟩, .string ⟨#[]⟩, .string ⟨#[]⟩, .string ⟨#[]⟩, .string ⟨#[]⟩, .string ⟨#[]⟩, .string ⟨#[]⟩, .slice none 0 0, .string ⟨#[]⟩]) HY0.out HB0.out (Nat.le_succ _) (Value.int .i64 0) (.string ⟨#[]⟩) (.string ⟨#[]⟩) (.string ⟨#[]⟩) (.string ⟨#[]⟩) (.string ⟨#[]⟩) (.string ⟨#[]⟩) (.string ⟨#[]⟩) (.string ⟨#[]⟩) (.string ⟨#[]⟩) (.string ⟨#[]⟩) (.string ⟨#[]⟩) (.slice none 0 0) (.string ⟨#[]⟩) rfl rfl
    rw [← hwz]
    obtain ⟨q0, q1, q2, q3, q4, q5, q6, q7, q8, q9, q10, q11, q12, q13⟩ := bx14 hz1
    refine bodyPost_ret (v := .tuple #[.agg stZ, .bool false]) (by simp [results, Tryz.results15, go_sem, q0, q1, q2, q3, q4, q5, q6, q7, q8, q9, q10, q11, q12, q13]) rfl ?_
    exact ⟨rfl, hz3⟩
  | true =>
    cases b1 with
    | true =>
      clear m2
      have p1 : (ty.toList != [103, 101, 116]) = false := by rw [bne, m1]; rfl
      rw [if_pos (by rfl)]
      obtain ⟨x0, x1, x2, x3, x4, x5, x6, x7, x8, x9, x10, x11, x12, x13⟩ := bx14 HX0.out
      clear HE1 HE2
      go_enter Tryz.func15, Tryz.ntmps15
      go_wp2_with fail
      refine (CB.out _).mono ?_
      rintro r w1 ⟨rfl, hb⟩
      have HB1 := Lib.hid (more HB0.out (Nat.le_refl _) hb)
      have HY1 := Lib.hid ((hb.block _ (heap_lt HY0.out)).trans HY0.out)
      clear hb HB0 HX0 HY0 CB x0 x1 x2 x3 x4 x5 x6 x7 x8 x9 x10 x11 x12 x13
      have HP3 := Lib.hid (box_new w1 #[.int .i64 kd, .string ⟨#[114, 101, 115, 117, 108, 116]⟩, .string tn, .string td, .string tr, .string fn, .string fd, .string fr, .string id, .string ⟨#[]⟩, .string ⟨#[]⟩, .string ⟨#[]⟩, .slice none 0 0, .string ⟨#[]⟩] 26)
      have HB3 := Lib.hid (HB1.out.alloc HB1.out.size (.cells #[.int .i64 kd, .string ⟨#[114, 101, 115, 117, 108, 116]⟩, .string tn, .string td, .string tr, .string fn, .string fd, .string fr, .string id, .string ⟨#[]⟩, .string ⟨#[]⟩, .string ⟨#[]⟩, .slice none 0 0, .string ⟨#[]⟩] 26))
      have HY3 := Lib.hid ((Below.heap_alloc w1 (.cells #[.int .i64 kd, .string ⟨#[114, 101, 115, 117, 108, 116]⟩, .string tn, .string td, .string tr, .string fn, .string fd, .string fr, .string id, .string ⟨#[]⟩, .string ⟨#[]⟩, .string ⟨#[]⟩, .slice none 0 0, .string ⟨#[]⟩] 26) _ (heap_lt HY1.out)).trans HY1.out)
      have HQ1 : Hid (w.heap.size + 1 < w1.heap.size) := heap_lt HY1.out
      clear HB1 HY1
      go_upto_region 4 with fail
      generalize w1.heap.size = P at HP3 HQ1 ⊢
      generalize w1.alloc (.cells #[.int .i64 kd, .string ⟨#[114, 101, 115, 117, 108, 116]⟩, .string tn, .string td, .string tr, .string fn, .string fd, .string fr, .string id, .string ⟨#[]⟩, .string ⟨#[]⟩, .string ⟨#[]⟩, .slice none 0 0, .string ⟨#[]⟩] 26) = w2 at HP3 HB3 HY3 ⊢
      have f0 := Lib.frozen_of_heap HP3.out 12
      obtain ⟨x0, x1, x2, x3, x4, x5, x6, x7, x8, x9, x10, x11, x12, x13⟩ := bx14 HP3.out
      have hP3 := heap_lt HP3.out
      have HP4 : Hid ((w2.setCell ⟨P, 12, none⟩ (.slice a0 ld.length c0)).heap[P]? = some (.cells #[.int .i64 kd, .string ⟨#[114, 101, 115, 117, 108, 116]⟩, .string tn, .string td, .string tr, .string fn, .string fd, .string fr, .string id, .string ⟨#[]⟩, .string ⟨#[]⟩, .string ⟨#[]⟩, .slice a0 ld.length c0, .string ⟨#[]⟩] 26 (0, 0))) := setI HP3.out 12 (.slice a0 ld.length c0)
      have HY4 := Lib.hid ((setCell_other (w := w2) (b := P) (i := 12) (u := (.slice a0 ld.length c0)) (k := w.heap.size + 1) (by have := HQ1.out; omega)).trans HY3.out)
      have HB4 := Lib.hid (HB3.out.setCell (p := ⟨P, 12, none⟩) (by have := HQ1.out; show w.heap.size ≤ P; omega) (.slice a0 ld.length c0))
      go_upto_region 5 with fail
      generalize w2.setCell ⟨P, 12, none⟩ (.slice a0 ld.length c0) = w3 at HP4 HY4 HB4 ⊢
      clear HP3 HB3 HY3 f0 hP3 x0 x1 x2 x3 x4 x5 x6 x7 x8 x9 x10 x11 x12 x13
      obtain ⟨x0, x1, x2, x3, x4, x5, x6, x7, x8, x9, x10, x11, x12, x13⟩ := bx14 HP4.out
      cases hok : okS SQ with
      | false =>
        have HC4 := Lib.hid (CH.out w3 HB4.out)
        have HC5 : Hid (Calls Tryz.prog 43 #[.agg #[.int .i64 kd, .string ⟨#[114, 101, 115, 117, 108, 116]⟩, .string tn, .string td, .string tr, .string fn, .string fd, .string fr, .string id, .string ⟨#[]⟩, .string ⟨#[]⟩, .string ⟨#[]⟩, .slice a0 ld.length c0, .string ⟨#[]⟩]] w3 (AnsP none w3)) := by
          have h := HC4.out
          unfold chkd at h
          rw [hok, if_neg (by simp)] at h
          exact h
        clear HC4 CH
        go_wp2_with fail
        refine HC5.out.mono ?_
        rintro r w4 ⟨rfl, hb⟩
        have HB5 := Lib.hid (more HB4.out (Nat.le_refl _) hb)
        have HY5 := Lib.hid ((hb.block _ (heap_lt HY4.out)).trans HY4.out)
        clear hb HB4 HY4 HC5 HP4 x0 x1 x2 x3 x4 x5 x6 x7 x8 x9 x10 x11 x12 x13
        obtain ⟨y0, y1, y2, y3, y4, y5, y6, y7, y8, y9, y10, y11, y12, y13⟩ := bx14 HY5.out
        have f0 := Lib.frozen_of_heap HY5.out 0
        have f1 := Lib.frozen_of_heap HY5.out 1
        have f2 := Lib.frozen_of_heap HY5.out 2
        have f3 := Lib.frozen_of_heap HY5.out 3
        have f4 := Lib.frozen_of_heap HY5.out 4
        have f5 := Lib.frozen_of_heap HY5.out 5
        have f6 := Lib.frozen_of_heap HY5.out 6
        have f7 := Lib.frozen_of_heap HY5.out 7
        have f8 := Lib.frozen_of_heap HY5.out 8
        have f9 := Lib.frozen_of_heap HY5.out 9
        have f10 := Lib.frozen_of_heap HY5.out 10
        have f11 := Lib.frozen_of_heap HY5.out 11
        have f12 := Lib.frozen_of_heap HY5.out 12
        have f13 := Lib.frozen_of_heap HY5.out 13
        dsimp only [stZ]
        go_wp2_with fail
        obtain ⟨wz, hwz, hz1, hz2, hz3⟩ := st14 (vs := #[Value.int .i64 0, .string ⟨#[]⟩, .string ⟨#[]⟩, .string ⟨#[]⟩, .string ⟨#[]⟩, .string ⟨#[]⟩, .string ⟨#[]⟩, .string ⟨#[]⟩, .string ⟨#[]⟩, .string ⟨#[]⟩, .string ⟨#[]⟩, .string ⟨#[]⟩, .slice none 0 0, .string ⟨#[]⟩]) HY5.out HB5.out (Nat.le_succ _) (Value.int .i64 0) (.string ⟨#[]⟩) (.string ⟨#[]⟩) (.string ⟨#[]⟩) (.string ⟨#[]⟩) (.string ⟨#[]⟩) (.string ⟨#[]⟩) (.string ⟨#[]⟩) (.string ⟨#[]⟩) (.string ⟨#[]⟩) (.string ⟨#[]⟩) (.string ⟨#[]⟩) (.slice none 0 0) (.string ⟨#[]⟩) rfl rfl
        rw [← hwz]
        obtain ⟨q0, q1, q2, q3, q4, q5, q6, q7, q8, q9, q10, q11, q12, q13⟩ := bx14 hz1
        refine bodyPost_ret (v := .tuple #[.agg stZ, .bool false]) (by simp [results, Tryz.results15, go_sem, q0, q1, q2, q3, q4, q5, q6, q7, q8, q9, q10, q11, q12, q13]) rfl ?_
        unfold chkd
        rw [hok, if_neg (by simp)]
        exact ⟨rfl, hz3⟩
      | true =>
        subst hSQ
        have HC4 := Lib.hid (CH.out w3 HB4.out)
        have HC5 : Hid (Calls Tryz.prog 43 #[.agg #[.int .i64 kd, .string ⟨#[114, 101, 115, 117, 108, 116]⟩, .string tn, .string td, .string tr, .string fn, .string fd, .string fr, .string id, .string ⟨#[]⟩, .string ⟨#[]⟩, .string ⟨#[]⟩, .slice a0 ld.length c0, .string ⟨#[]⟩]] w3 fun e w' => (∃ aq cq, e = .returned (.tuple #[.agg #[.int .i64 kd, .string ⟨#[114, 101, 115, 117, 108, 116]⟩, .string tn, .string td, .string tr, .string fn, .string fd, .string fr, .string id, .string ⟨#[]⟩, .string ⟨#[]⟩, .string ⟨#[]⟩, .slice aq ld.length cq, .string ⟨#[]⟩], .bool true]) ∧ KsS (fun b => w3.heap.size ≤ b) w' aq ld) ∧ Below w3.heap.size w3 w') := by
          have h := HC4.out
          unfold chkd at h
          rw [hok, if_pos rfl] at h
          exact h
        clear HC4 CH
        go_wp2_with fail
        refine HC5.out.mono ?_
        rintro r w4 ⟨⟨a5, c5, rfl, hks⟩, hb⟩
        have HB5 := Lib.hid (more HB4.out (Nat.le_refl _) hb)
        have HY5 := Lib.hid ((hb.block _ (heap_lt HY4.out)).trans HY4.out)
        have HKS := Lib.hid hks
        have HL3 := Lib.hid (heap_lt HY4.out)
        have HS3 := Lib.hid HB4.out.size
        clear hb hks HB4 HY4 HC5 HP4 x0 x1 x2 x3 x4 x5 x6 x7 x8 x9 x10 x11 x12 x13
        obtain ⟨y0, y1, y2, y3, y4, y5, y6, y7, y8, y9, y10, y11, y12, y13⟩ := bx14 HY5.out
        have f0 := Lib.frozen_of_heap HY5.out 0
        have f1 := Lib.frozen_of_heap HY5.out 1
        have f2 := Lib.frozen_of_heap HY5.out 2
        have f3 := Lib.frozen_of_heap HY5.out 3
        have f4 := Lib.frozen_of_heap HY5.out 4
        have f5 := Lib.frozen_of_heap HY5.out 5
        have f6 := Lib.frozen_of_heap HY5.out 6
        have f7 := Lib.frozen_of_heap HY5.out 7
        have f8 := Lib.frozen_of_heap HY5.out 8
        have f9 := Lib.frozen_of_heap HY5.out 9
        have f10 := Lib.frozen_of_heap HY5.out 10
        have f11 := Lib.frozen_of_heap HY5.out 11
        have f12 := Lib.frozen_of_heap HY5.out 12
        have f13 := Lib.frozen_of_heap HY5.out 13
        go_wp2_with fail
        obtain ⟨wz, hwz, hz1, hz2, hz3⟩ := st14 (vs := #[.int .i64 kd, .string ⟨#[114, 101, 115, 117, 108, 116]⟩, .string tn, .string td, .string tr, .string fn, .string fd, .string fr, .string id, .string ⟨#[]⟩, .string ⟨#[]⟩, .string ⟨#[]⟩, .slice a5 ld.length c5, .string ⟨#[]⟩]) HY5.out HB5.out (Nat.le_succ _) (.int .i64 kd) (.string ⟨#[114, 101, 115, 117, 108, 116]⟩) (.string tn) (.string td) (.string tr) (.string fn) (.string fd) (.string fr) (.string id) (.string ⟨#[]⟩) (.string ⟨#[]⟩) (.string ⟨#[]⟩) (.slice a5 ld.length c5) (.string ⟨#[]⟩) rfl rfl
        rw [← hwz]
        obtain ⟨q0, q1, q2, q3, q4, q5, q6, q7, q8, q9, q10, q11, q12, q13⟩ := bx14 hz1
        refine bodyPost_ret (v := .tuple #[.agg #[.int .i64 kd, .string ⟨#[114, 101, 115, 117, 108, 116]⟩, .string tn, .string td, .string tr, .string fn, .string fd, .string fr, .string id, .string ⟨#[]⟩, .string ⟨#[]⟩, .string ⟨#[]⟩, .slice a5 ld.length c5, .string ⟨#[]⟩], .bool true]) (by simp [results, Tryz.results15, go_sem, q0, q1, q2, q3, q4, q5, q6, q7, q8, q9, q10, q11, q12, q13]) rfl ?_
        unfold chkd
        rw [hok, if_pos rfl]
        exact ⟨⟨a5, c5, rfl, (HKS.out.keep fun b hb _ => hz2 b (by have := HL3.out; omega)).weak fun b _ hb => Nat.le_trans HS3.out hb⟩, hz3⟩
    | false =>
      have n1 : ¬ ty.toList = [103, 101, 116] := by
        intro h; rw [h] at m1; exact absurd m1 (by decide)
      have p1 : (ty.toList != [103, 101, 116]) = true := by rw [bne, m1]; rfl
      cases b2 with
      | true =>
        have p2 : (ty.toList != [115, 101, 116]) = false := by rw [bne, m2]; rfl
        rw [if_pos (by rfl)]
        obtain ⟨x0, x1, x2, x3, x4, x5, x6, x7, x8, x9, x10, x11, x12, x13⟩ := bx14 HX0.out
        clear HE1 HE2
        go_enter Tryz.func15, Tryz.ntmps15
        go_wp2_with fail
        refine (CB.out _).mono ?_
        rintro r w1 ⟨rfl, hb⟩
        have HB1 := Lib.hid (more HB0.out (Nat.le_refl _) hb)
        have HY1 := Lib.hid ((hb.block _ (heap_lt HY0.out)).trans HY0.out)
        clear hb HB0 HX0 HY0 CB x0 x1 x2 x3 x4 x5 x6 x7 x8 x9 x10 x11 x12 x13
        have HP3 := Lib.hid (box_new w1 #[.int .i64 kd, .string ⟨#[114, 101, 115, 117, 108, 116]⟩, .string tn, .string td, .string tr, .string fn, .string fd, .string fr, .string id, .string ⟨#[]⟩, .string ⟨#[]⟩, .string ⟨#[]⟩, .slice none 0 0, .string ⟨#[]⟩] 26)
        have HB3 := Lib.hid (HB1.out.alloc HB1.out.size (.cells #[.int .i64 kd, .string ⟨#[114, 101, 115, 117, 108, 116]⟩, .string tn, .string td, .string tr, .string fn, .string fd, .string fr, .string id, .string ⟨#[]⟩, .string ⟨#[]⟩, .string ⟨#[]⟩, .slice none 0 0, .string ⟨#[]⟩] 26))
        have HY3 := Lib.hid ((Below.heap_alloc w1 (.cells #[.int .i64 kd, .string ⟨#[114, 101, 115, 117, 108, 116]⟩, .string tn, .string td, .string tr, .string fn, .string fd, .string fr, .string id, .string ⟨#[]⟩, .string ⟨#[]⟩, .string ⟨#[]⟩, .slice none 0 0, .string ⟨#[]⟩] 26) _ (heap_lt HY1.out)).trans HY1.out)
        have HQ1 : Hid (w.heap.size + 1 < w1.heap.size) := heap_lt HY1.out
        clear HB1 HY1
        go_upto_region 4 with fail
        generalize w1.heap.size = P at HP3 HQ1 ⊢
        generalize w1.alloc (.cells #[.int .i64 kd, .string ⟨#[114, 101, 115, 117, 108, 116]⟩, .string tn, .string td, .string tr, .string fn, .string fd, .string fr, .string id, .string ⟨#[]⟩, .string ⟨#[]⟩, .string ⟨#[]⟩, .slice none 0 0, .string ⟨#[]⟩] 26) = w2 at HP3 HB3 HY3 ⊢
        have f0 := Lib.frozen_of_heap HP3.out 12
        obtain ⟨x0, x1, x2, x3, x4, x5, x6, x7, x8, x9, x10, x11, x12, x13⟩ := bx14 HP3.out
        have hP3 := heap_lt HP3.out
        have HP4 : Hid ((w2.setCell ⟨P, 12, none⟩ (.slice a0 ld.length c0)).heap[P]? = some (.cells #[.int .i64 kd, .string ⟨#[114, 101, 115, 117, 108, 116]⟩, .string tn, .string td, .string tr, .string fn, .string fd, .string fr, .string id, .string ⟨#[]⟩, .string ⟨#[]⟩, .string ⟨#[]⟩, .slice a0 ld.length c0, .string ⟨#[]⟩] 26 (0, 0))) := setI HP3.out 12 (.slice a0 ld.length c0)
        have HY4 := Lib.hid ((setCell_other (w := w2) (b := P) (i := 12) (u := (.slice a0 ld.length c0)) (k := w.heap.size + 1) (by have := HQ1.out; omega)).trans HY3.out)
        have HB4 := Lib.hid (HB3.out.setCell (p := ⟨P, 12, none⟩) (by have := HQ1.out; show w.heap.size ≤ P; omega) (.slice a0 ld.length c0))
        go_upto_region 5 with fail
        generalize w2.setCell ⟨P, 12, none⟩ (.slice a0 ld.length c0) = w3 at HP4 HY4 HB4 ⊢
        clear HP3 HB3 HY3 f0 hP3 x0 x1 x2 x3 x4 x5 x6 x7 x8 x9 x10 x11 x12 x13
        obtain ⟨x0, x1, x2, x3, x4, x5, x6, x7, x8, x9, x10, x11, x12, x13⟩ := bx14 HP4.out
        cases hok : okS SQ with
        | false =>
          have HC4 := Lib.hid (CH.out w3 HB4.out)
          have HC5 : Hid (Calls Tryz.prog 43 #[.agg #[.int .i64 kd, .string ⟨#[114, 101, 115, 117, 108, 116]⟩, .string tn, .string td, .string tr, .string fn, .string fd, .string fr, .string id, .string ⟨#[]⟩, .string ⟨#[]⟩, .string ⟨#[]⟩, .slice a0 ld.length c0, .string ⟨#[]⟩]] w3 (AnsP none w3)) := by
            have h := HC4.out
            unfold chkd at h
            rw [hok, if_neg (by simp)] at h
            exact h
          clear HC4 CH
          go_wp2_with fail
          refine HC5.out.mono ?_
          rintro r w4 ⟨rfl, hb⟩
          have HB5 := Lib.hid (more HB4.out (Nat.le_refl _) hb)
          have HY5 := Lib.hid ((hb.block _ (heap_lt HY4.out)).trans HY4.out)
          clear hb HB4 HY4 HC5 HP4 x0 x1 x2 x3 x4 x5 x6 x7 x8 x9 x10 x11 x12 x13
          obtain ⟨y0, y1, y2, y3, y4, y5, y6, y7, y8, y9, y10, y11, y12, y13⟩ := bx14 HY5.out
          have f0 := Lib.frozen_of_heap HY5.out 0
          have f1 := Lib.frozen_of_heap HY5.out 1
          have f2 := Lib.frozen_of_heap HY5.out 2
          have f3 := Lib.frozen_of_heap HY5.out 3
          have f4 := Lib.frozen_of_heap HY5.out 4
          have f5 := Lib.frozen_of_heap HY5.out 5
          have f6 := Lib.frozen_of_heap HY5.out 6
          have f7 := Lib.frozen_of_heap HY5.out 7
          have f8 := Lib.frozen_of_heap HY5.out 8
          have f9 := Lib.frozen_of_heap HY5.out 9
          have f10 := Lib.frozen_of_heap HY5.out 10
          have f11 := Lib.frozen_of_heap HY5.out 11
          have f12 := Lib.frozen_of_heap HY5.out 12
          have f13 := Lib.frozen_of_heap HY5.out 13
          dsimp only [stZ]
          go_wp2_with fail
          obtain ⟨wz, hwz, hz1, hz2, hz3⟩ := st14 (vs := #[Value.int .i64 0, .string ⟨#[]⟩, .string ⟨#[]⟩, .string ⟨#[]⟩, .string ⟨#[]⟩, .string ⟨#[]⟩, .string ⟨#[]⟩, .string ⟨#[]⟩, .string ⟨#[]⟩, .string ⟨#[]⟩, .string ⟨#[]⟩, .string ⟨#[]⟩, .slice none 0 0, .string ⟨#[]⟩]) HY5.out HB5.out (Nat.le_succ _) (Value.int .i64 0) (.string ⟨#[]⟩) (.string ⟨#[]⟩) (.string ⟨#[]⟩) (.string ⟨#[]⟩) (.string ⟨#[]⟩) (.string ⟨#[]⟩) (.string ⟨#[]⟩) (.string ⟨#[]⟩) (.string ⟨#[]⟩) (.string ⟨#[]⟩) (.string ⟨#[]⟩) (.slice none 0 0) (.string ⟨#[]⟩) rfl rfl
          rw [← hwz]
          obtain ⟨q0, q1, q2, q3, q4, q5, q6, q7, q8, q9, q10, q11, q12, q13⟩ := bx14 hz1
          refine bodyPost_ret (v := .tuple #[.agg stZ, .bool false]) (by simp [results, Tryz.results15, go_sem, q0, q1, q2, q3, q4, q5, q6, q7, q8, q9, q10, q11, q12, q13]) rfl ?_
          unfold chkd
          rw [hok, if_neg (by simp)]
          exact ⟨rfl, hz3⟩
        | true =>
          subst hSQ
          have HC4 := Lib.hid (CH.out w3 HB4.out)
          have HC5 : Hid (Calls Tryz.prog 43 #[.agg #[.int .i64 kd, .string ⟨#[114, 101, 115, 117, 108, 116]⟩, .string tn, .string td, .string tr, .string fn, .string fd, .string fr, .string id, .string ⟨#[]⟩, .string ⟨#[]⟩, .string ⟨#[]⟩, .slice a0 ld.length c0, .string ⟨#[]⟩]] w3 fun e w' => (∃ aq cq, e = .returned (.tuple #[.agg #[.int .i64 kd, .string ⟨#[114, 101, 115, 117, 108, 116]⟩, .string tn, .string td, .string tr, .string fn, .string fd, .string fr, .string id, .string ⟨#[]⟩, .string ⟨#[]⟩, .string ⟨#[]⟩, .slice aq ld.length cq, .string ⟨#[]⟩], .bool true]) ∧ KsS (fun b => w3.heap.size ≤ b) w' aq ld) ∧ Below w3.heap.size w3 w') := by
            have h := HC4.out
            unfold chkd at h
            rw [hok, if_pos rfl] at h
            exact h
          clear HC4 CH
          go_wp2_with fail
          refine HC5.out.mono ?_
          rintro r w4 ⟨⟨a5, c5, rfl, hks⟩, hb⟩
          have HB5 := Lib.hid (more HB4.out (Nat.le_refl _) hb)
          have HY5 := Lib.hid ((hb.block _ (heap_lt HY4.out)).trans HY4.out)
          have HKS := Lib.hid hks
          have HL3 := Lib.hid (heap_lt HY4.out)
          have HS3 := Lib.hid HB4.out.size
          clear hb hks HB4 HY4 HC5 HP4 x0 x1 x2 x3 x4 x5 x6 x7 x8 x9 x10 x11 x12 x13
          obtain ⟨y0, y1, y2, y3, y4, y5, y6, y7, y8, y9, y10, y11, y12, y13⟩ := bx14 HY5.out
          have f0 := Lib.frozen_of_heap HY5.out 0
          have f1 := Lib.frozen_of_heap HY5.out 1
          have f2 := Lib.frozen_of_heap HY5.out 2
          have f3 := Lib.frozen_of_heap HY5.out 3
          have f4 := Lib.frozen_of_heap HY5.out 4
          have f5 := Lib.frozen_of_heap HY5.out 5
          have f6 := Lib.frozen_of_heap HY5.out 6
          have f7 := Lib.frozen_of_heap HY5.out 7
          have f8 := Lib.frozen_of_heap HY5.out 8
          have f9 := Lib.frozen_of_heap HY5.out 9
          have f10 := Lib.frozen_of_heap HY5.out 10
          have f11 := Lib.frozen_of_heap HY5.out 11
          have f12 := Lib.frozen_of_heap HY5.out 12
          have f13 := Lib.frozen_of_heap HY5.out 13
          go_wp2_with fail
          obtain ⟨wz, hwz, hz1, hz2, hz3⟩ := st14 (vs := #[.int .i64 kd, .string ⟨#[114, 101, 115, 117, 108, 116]⟩, .string tn, .string td, .string tr, .string fn, .string fd, .string fr, .string id, .string ⟨#[]⟩, .string ⟨#[]⟩, .string ⟨#[]⟩, .slice a5 ld.length c5, .string ⟨#[]⟩]) HY5.out HB5.out (Nat.le_succ _) (.int .i64 kd) (.string ⟨#[114, 101, 115, 117, 108, 116]⟩) (.string tn) (.string td) (.string tr) (.string fn) (.string fd) (.string fr) (.string id) (.string ⟨#[]⟩) (.string ⟨#[]⟩) (.string ⟨#[]⟩) (.slice a5 ld.length c5) (.string ⟨#[]⟩) rfl rfl
          rw [← hwz]
          obtain ⟨q0, q1, q2, q3, q4, q5, q6, q7, q8, q9, q10, q11, q12, q13⟩ := bx14 hz1
          refine bodyPost_ret (v := .tuple #[.agg #[.int .i64 kd, .string ⟨#[114, 101, 115, 117, 108, 116]⟩, .string tn, .string td, .string tr, .string fn, .string fd, .string fr, .string id, .string ⟨#[]⟩, .string ⟨#[]⟩, .string ⟨#[]⟩, .slice a5 ld.length c5, .string ⟨#[]⟩], .bool true]) (by simp [results, Tryz.results15, go_sem, q0, q1, q2, q3, q4, q5, q6, q7, q8, q9, q10, q11, q12, q13]) rfl ?_
          unfold chkd
          rw [hok, if_pos rfl]
          exact ⟨⟨a5, c5, rfl, (HKS.out.keep fun b hb _ => hz2 b (by have := HL3.out; omega)).weak fun b _ hb => Nat.le_trans HS3.out hb⟩, hz3⟩
      | false =>
        have n2 : ¬ ty.toList = [115, 101, 116] := by
          intro h; rw [h] at m2; exact absurd m2 (by decide)
        have p2 : (ty.toList != [115, 101, 116]) = true := by rw [bne, m2]; rfl
        clear CB CH
        rw [if_neg (by simp)]
        clear HE1 HE2
        go_enter Tryz.func15, Tryz.ntmps15
        go_upto_region 1 with fail
        generalize ((w.alloc (.cells #[.int .i64 kd, .string ty, .string fn, .string fd, .string fr, .string tn, .string td, .string tr, .string id, .string sh, .string st, .string bd, .slice aL nL cL, .string cd] 26)).alloc (.cells #[.int .i64 0, .string ⟨#[]⟩, .string ⟨#[]⟩, .string ⟨#[]⟩, .string ⟨#[]⟩, .string ⟨#[]⟩, .string ⟨#[]⟩, .string ⟨#[]⟩, .string ⟨#[]⟩, .string ⟨#[]⟩, .string ⟨#[]⟩, .string ⟨#[]⟩, .slice none 0 0, .string ⟨#[]⟩] 26)) = w0 at HB0 HX0 HY0 ⊢
        obtain ⟨x0, x1, x2, x3, x4, x5, x6, x7, x8, x9, x10, x11, x12, x13⟩ := bx14 HX0.out
        obtain ⟨y0, y1, y2, y3, y4, y5, y6, y7, y8, y9, y10, y11, y12, y13⟩ := bx14 HY0.out
        have f0 := Lib.frozen_of_heap HY0.out 0
        have f1 := Lib.frozen_of_heap HY0.out 1
        have f2 := Lib.frozen_of_heap HY0.out 2
        have f3 := Lib.frozen_of_heap HY0.out 3
        have f4 := Lib.frozen_of_heap HY0.out 4
        have f5 := Lib.frozen_of_heap HY0.out 5
        have f6 := Lib.frozen_of_heap HY0.out 6
        have f7 := Lib.frozen_of_heap HY0.out 7
        have f8 := Lib.frozen_of_heap HY0.out 8
        have f9 := Lib.frozen_of_heap HY0.out 9
        have f10 := Lib.frozen_of_heap HY0.out 10
        have f11 := Lib.frozen_of_heap HY0.out 11
        have f12 := Lib.frozen_of_heap HY0.out 12
        have f13 := Lib.frozen_of_heap HY0.out 13
        go_wp2_with fail
        obtain ⟨wz, hwz, hz1, hz2, hz3⟩ := st14 (vs := #[Value.int .i64 0, .string ⟨#[]⟩, .string ⟨#[]⟩, .string ⟨#[]⟩, .string ⟨#[]⟩, .string ⟨#[]⟩, .string ⟨#[]⟩, .string ⟨#[]⟩, .string ⟨#[]⟩, .string ⟨#[]⟩, .string ⟨#[]⟩, .string ⟨#[]⟩, .slice none 0 0, .string ⟨#[]⟩]) HY0.out HB0.out (Nat.le_succ _) (Value.int .i64 0) (.string ⟨#[]⟩) (.string ⟨#[]⟩) (.string ⟨#[]⟩) (.string ⟨#[]⟩) (.string ⟨#[]⟩) (.string ⟨#[]⟩) (.string ⟨#[]⟩) (.string ⟨#[]⟩) (.string ⟨#[]⟩) (.string ⟨#[]⟩) (.string ⟨#[]⟩) (.slice none 0 0) (.string ⟨#[]⟩) rfl rfl
        rw [← hwz]
        obtain ⟨q0, q1, q2, q3, q4, q5, q6, q7, q8, q9, q10, q11, q12, q13⟩ := bx14 hz1
        refine bodyPost_ret (v := .tuple #[.agg stZ, .bool false]) (by simp [results, Tryz.results15, go_sem, q0, q1, q2, q3, q4, q5, q6, q7, q8, q9, q10, q11, q12, q13]) rfl ?_
        exact ⟨rfl, hz3⟩
end Go.Proofs.YtccpdfcmhggleaaGreatDoor
