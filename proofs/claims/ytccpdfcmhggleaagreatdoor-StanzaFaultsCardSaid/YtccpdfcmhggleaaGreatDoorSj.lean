/- The contract of stanza.Check: whether a stanza may be. Condition: a stanza of at most 18900 letters beside its Cond. -/
import Derived.Test.YtccpdfcmhggleaaGreatDoorSi
namespace Go.Proofs.YtccpdfcmhggleaaGreatDoor
open Go.RowKit Go.Lib Go.Shelf Tg St

/-- What Check answers. -/
def cdS (b : Bool) : Int := if b then 0 else 90
set_option maxRecDepth 100000 in
set_option maxHeartbeats 8000000 in
theorem stCheck_any (ld : List El) (B : Nat) (kd : Int) (ty fn fd fr tn td tr id sh st bd cd : ByteArray) (aL : Option Addr) (cL : Nat) (w : World) (hK : KsIn B w aL ld) (hB : B ≤ w.heap.size) (hw : wtS ⟨kd, ty, ⟨fn, fd, fr⟩, ⟨tn, td, tr⟩, id, sh, st, bd, ld, cd⟩ ≤ 18900 + cd.size) (hcd : cd.size ≤ 100000) :
    Calls Tryz.prog 10 #[.agg #[.int .i64 kd, .string ty, .string fn, .string fd, .string fr, .string tn, .string td, .string tr, .string id, .string sh, .string st, .string bd, .slice aL ld.length cL, .string cd]] w fun e w' => e = .returned (.int .i64 (cdS (okS ⟨kd, ty, ⟨fn, fd, fr⟩, ⟨tn, td, tr⟩, id, sh, st, bd, ld, cd⟩))) ∧ Below w.heap.size w w' := by
  have hws : ty.size + id.size + sh.size + st.size + bd.size + cd.size + fn.size + fd.size + fr.size + tn.size + td.size + tr.size + wts ld ≤ 18900 + cd.size := hw
  have h1 : fn.size ≤ 1048576 := by omega
  have h2 : fd.size ≤ 1048576 := by omega
  have h3 : fr.size ≤ 1048576 := by omega
  have h4 : tn.size ≤ 1048576 := by omega
  have h5 : td.size ≤ 1048576 := by omega
  have h6 : tr.size ≤ 1048576 := by omega
  have h7 : id.size ≤ 1048576 := by omega
  have h8 : st.size ≤ 1048576 := by omega
  have h9 : bd.size ≤ 1048576 := by omega
  have h10 : cd.size ≤ 1048576 := by omega
  have hwl : wts ld ≤ 20000 := by omega
  have C0 := Lib.hid (fun W => isAddressed_any kd ty fn fd fr tn td tr id sh st bd cd aL ld.length cL W h1 h2 h3 h4 h5 h6)
  have C1 := Lib.hid (fun W => hasType_any kd ty fn fd fr tn td tr id sh st bd cd aL ld.length cL W)
  have C2 := Lib.hid (fun W => hasTexts_any kd ty fn fd fr tn td tr id sh st bd cd aL ld.length cL W h7 h8 h9)
  have C3 := Lib.hid (fun W => hasCond_any kd ty fn fd fr tn td tr id sh st bd cd aL ld.length cL W h10)
  have CL := Lib.hid (fun (W : World) (hb : Below w.heap.size w W) => hasLoad_any ld kd ty fn fd fr tn td tr id sh st bd cd aL ld.length cL W B rfl (hK.below (hb.mono hB)) (Nat.le_trans hB hb.size) hwl)
  have CW : Hid (cndB cd ty = true → ∀ W, Below w.heap.size w W → Calls Tryz.prog 12 #[.agg #[.int .i64 kd, .string ty, .string fn, .string fd, .string fr, .string tn, .string td, .string tr, .string id, .string sh, .string st, .string bd, .slice aL ld.length cL, .string cd]] W (NewP9 SP (nameOf kd) (attrsOf ⟨kd, ty, ⟨fn, fd, fr⟩, ⟨tn, td, tr⟩, id, sh, st, bd, ld, cd⟩) (kidsOf ⟨kd, ty, ⟨fn, fd, fr⟩, ⟨tn, td, tr⟩, id, sh, st, bd, ld, cd⟩) W)) := by
    intro hc W hb
    have hcd : cd.size ≤ 1000 := by
      unfold cndB at hc
      split at hc
      · have := cond_size hc; omega
      · rw [eqb_iff.1 hc]; decide
    have t1 := txt_size ⟨fn, fd, fr⟩
    have t2 := txt_size ⟨tn, td, tr⟩
    simp only [Ad.txt] at t1 t2
    refine write_any ld B kd ty fn fd fr tn td tr id sh st bd cd aL ld.length cL W h1 h2 h3 h4 h5 h6 ?_ rfl (hK.below (hb.mono hB)) (Nat.le_trans hB hb.size) hwl (by omega) h8 h9 hcd
    intro s hs
    simp only [List.mem_cons, List.not_mem_nil, or_false] at hs
    rcases hs with rfl | rfl | rfl | rfl | rfl | rfl | rfl | rfl
    · decide
    · omega
    · decide
    · omega
    · decide
    · omega
    · decide
    · omega
  have CC : Hid (cndB cd ty = true → ∀ (W : World) (v : Value), In W.heap.size W (wr ⟨kd, ty, ⟨fn, fd, fr⟩, ⟨tn, td, tr⟩, id, sh, st, bd, ld, cd⟩) v → Calls Tryz.prog 27 #[v] W fun r w' => r = .returned (.int .i64 (cdt (chkB (wr ⟨kd, ty, ⟨fn, fd, fr⟩, ⟨tn, td, tr⟩, id, sh, st, bd, ld, cd⟩)))) ∧ Below W.heap.size W w') := by
    intro hc W v hv
    have hcd : cd.size ≤ 30 := by
      unfold cndB at hc
      split at hc
      · exact cond_size hc
      · rw [eqb_iff.1 hc]; decide
    have := wt_wr ⟨kd, ty, ⟨fn, fd, fr⟩, ⟨tn, td, tr⟩, id, sh, st, bd, ld, cd⟩
    exact check_any _ W v hv (by omega)
  have HE : Hid (okS ⟨kd, ty, ⟨fn, fd, fr⟩, ⟨tn, td, tr⟩, id, sh, st, bd, ld, cd⟩ = (((((Jd.ok (Jn.jd fn fd fr) && Jd.ok (Jn.jd tn td tr)) && inB ty (types kd)) && txsB kd ty id sh st bd) && cndB cd ty && lodB kd ty ld) && chkB (wr ⟨kd, ty, ⟨fn, fd, fr⟩, ⟨tn, td, tr⟩, id, sh, st, bd, ld, cd⟩))) := rfl
  have HB0 : Hid (Below w.heap.size w (w.alloc (.cells #[.int .i64 kd, .string ty, .string fn, .string fd, .string fr, .string tn, .string td, .string tr, .string id, .string sh, .string st, .string bd, .slice aL ld.length cL, .string cd] 26))) := st_box w _ _
  have HX0 := Lib.hid (box_new w #[.int .i64 kd, .string ty, .string fn, .string fd, .string fr, .string tn, .string td, .string tr, .string id, .string sh, .string st, .string bd, .slice aL ld.length cL, .string cd] 26)
  obtain ⟨x0, x1, x2, x3, x4, x5, x6, x7, x8, x9, x10, x11, x12, x13⟩ := bx14 HX0.out
  clear hK hB hw hws hcd h1 h2 h3 h4 h5 h6 h7 h8 h9 h10 hwl
  generalize (Jd.ok (Jn.jd fn fd fr) && Jd.ok (Jn.jd tn td tr)) = b0 at C0 HE
  generalize inB ty (types kd) = b1 at C1 HE
  generalize txsB kd ty id sh st bd = b2 at C2 HE
  generalize cndB cd ty = b3 at C3 HE CW CC
  generalize lodB kd ty ld = b4 at CL HE
  generalize chkB (wr ⟨kd, ty, ⟨fn, fd, fr⟩, ⟨tn, td, tr⟩, id, sh, st, bd, ld, cd⟩) = b5 at CC HE
  go_enter Tryz.func10, Tryz.ntmps10
  go_wp2_with fail
  refine (C0.out _).mono ?_
  rintro r w1 ⟨rfl, hb⟩
  have HB1 := Lib.hid (more HB0.out (Nat.le_refl _) hb)
  have HX1 := Lib.hid ((hb.block _ (heap_lt HX0.out)).trans HX0.out)
  clear hb HB0 HX0 C0 x0 x1 x2 x3 x4 x5 x6 x7 x8 x9 x10 x11 x12 x13
  obtain ⟨x0, x1, x2, x3, x4, x5, x6, x7, x8, x9, x10, x11, x12, x13⟩ := bx14 HX1.out
  cases b0 with
  | false =>
    go_wp2_with fail
    go_ret
    exact ⟨by rw [HE.out]; rfl, HB1.out⟩
  | true =>
    go_wp2_with fail
    refine (C1.out _).mono ?_
    rintro r w2 ⟨rfl, hb⟩
    have HB2 := Lib.hid (more HB1.out (Nat.le_refl _) hb)
    have HX2 := Lib.hid ((hb.block _ (heap_lt HX1.out)).trans HX1.out)
    clear hb HB1 HX1 C1 x0 x1 x2 x3 x4 x5 x6 x7 x8 x9 x10 x11 x12 x13
    obtain ⟨x0, x1, x2, x3, x4, x5, x6, x7, x8, x9, x10, x11, x12, x13⟩ := bx14 HX2.out
    cases b1 with
    | false =>
      go_wp2_with fail
      go_ret
      exact ⟨by rw [HE.out]; rfl, HB2.out⟩
    | true =>
      go_wp2_with fail
      refine (C2.out _).mono ?_
      rintro r w3 ⟨rfl, hb⟩
      have HB3 := Lib.hid (more HB2.out (Nat.le_refl _) hb)
      have HX3 := Lib.hid ((hb.block _ (heap_lt HX2.out)).trans HX2.out)
      clear hb HB2 HX2 C2 x0 x1 x2 x3 x4 x5 x6 x7 x8 x9 x10 x11 x12 x13
      obtain ⟨x0, x1, x2, x3, x4, x5, x6, x7, x8, x9, x10, x11, x12, x13⟩ := bx14 HX3.out
      cases b2 with
      | false =>
        go_wp2_with fail
        go_ret
        exact ⟨by rw [HE.out]; rfl, HB3.out⟩
      | true =>
        go_wp2_with fail
        refine (C3.out _).mono ?_
        rintro r w4 ⟨rfl, hb⟩
        have HB4 := Lib.hid (more HB3.out (Nat.le_refl _) hb)
        have HX4 := Lib.hid ((hb.block _ (heap_lt HX3.out)).trans HX3.out)
        clear hb HB3 HX3 C3 x0 x1 x2 x3 x4 x5 x6 x7 x8 x9 x10 x11 x12 x13
        obtain ⟨x0, x1, x2, x3, x4, x5, x6, x7, x8, x9, x10, x11, x12, x13⟩ := bx14 HX4.out
        cases b3 with
        | false =>
          go_wp2_with fail
          go_ret
          exact ⟨by rw [HE.out]; rfl, HB4.out⟩
        | true =>
          go_wp2_with fail
          refine (CL.out _ HB4.out).mono ?_
          rintro r w5 ⟨rfl, hb⟩
          have HB5 := Lib.hid (more HB4.out (Nat.le_refl _) hb)
          have HX5 := Lib.hid ((hb.block _ (heap_lt HX4.out)).trans HX4.out)
          clear hb HB4 HX4 CL x0 x1 x2 x3 x4 x5 x6 x7 x8 x9 x10 x11 x12 x13
          obtain ⟨x0, x1, x2, x3, x4, x5, x6, x7, x8, x9, x10, x11, x12, x13⟩ := bx14 HX5.out
          cases b4 with
          | false =>
            go_wp2_with fail
            go_ret
            exact ⟨by rw [HE.out]; rfl, HB5.out⟩
          | true =>
            go_wp2_with fail
            refine (CW.out (by trivial) _ HB5.out).mono ?_
            rintro r w6 ⟨a1, c1, a2, c2, rfl, hin, hb⟩
            have HB6 := Lib.hid (more HB5.out (Nat.le_refl _) hb)
            have HC6 := Lib.hid (CC.out (by trivial) w6 _ hin.toIn)
            clear hb HB5 HX5 CW CC hin x0 x1 x2 x3 x4 x5 x6 x7 x8 x9 x10 x11 x12 x13
            go_wp2_with fail
            refine HC6.out.mono ?_
            rintro r w7 ⟨rfl, hb⟩
            have HB7 := Lib.hid (more HB6.out (Nat.le_refl _) hb)
            clear hb HB6 HC6
            cases b5 with
            | false =>
              dsimp only [cdt]
              go_wp2_with fail
              go_ret
              exact ⟨by rw [HE.out]; rfl, HB7.out⟩
            | true =>
              dsimp only [cdt]
              go_wp2_with fail
              go_ret
              exact ⟨by rw [HE.out]; rfl, HB7.out⟩
end Go.Proofs.YtccpdfcmhggleaaGreatDoor
