/- The contract of stanza.Write: the element that tells a stanza, in new blocks. Condition: texts have at most 1048576 bytes; the elements are not too much. -/
import Derived.Test.YtccpdfcmhggleaaGreatDoorSh
namespace Go.Proofs.YtccpdfcmhggleaaGreatDoor
open Go.RowKit Go.Lib Go.Shelf Tg St

set_option maxRecDepth 100000 in
set_option maxHeartbeats 8000000 in
theorem write_any (ld : List El) (B : Nat) (kd : Int) (ty fn fd fr tn td tr id sh st bd cd : ByteArray) (aL : Option Addr) (nL cL : Nat) (w : World) (h1 : fn.size ≤ 1048576) (h2 : fd.size ≤ 1048576) (h3 : fr.size ≤ 1048576) (h4 : tn.size ≤ 1048576) (h5 : td.size ≤ 1048576) (h6 : tr.size ≤ 1048576) (hAS : ∀ s ∈ [⟨#[102, 114, 111, 109]⟩, (Jn.putB fn fd fr), ⟨#[116, 111]⟩, (Jn.putB tn td tr), ⟨#[105, 100]⟩, id, ⟨#[116, 121, 112, 101]⟩, ty], s.size ≤ 1048576) (hn9 : nL = ld.length) (hK : KsIn B w aL ld) (hB : B ≤ w.heap.size) (hw : wts ld ≤ 20000) (h7 : sh.size ≤ 1048576) (h8 : st.size ≤ 1048576) (h9 : bd.size ≤ 1048576) (h10 : cd.size ≤ 1000) :
    Calls Tryz.prog 12 #[.agg #[.int .i64 kd, .string ty, .string fn, .string fd, .string fr, .string tn, .string td, .string tr, .string id, .string sh, .string st, .string bd, .slice aL nL cL, .string cd]] w (NewP9 ⟨#[106, 97, 98, 98, 101, 114, 58, 99, 111, 109, 112, 111, 110, 101, 110, 116, 58, 97, 99, 99, 101, 112, 116]⟩ (nameOf kd) (newA [⟨#[102, 114, 111, 109]⟩, (Jn.putB fn fd fr), ⟨#[116, 111]⟩, (Jn.putB tn td tr), ⟨#[105, 100]⟩, id, ⟨#[116, 121, 112, 101]⟩, ty]) (((say kShow sh ++ say kStat st) ++ say kBody bd) ++ ld ++ errs cd) w) := by
  have HLD : Hid (∀ W, Below w.heap.size w W → Calls Tryz.prog 34 #[.slice aL nL cL] W (ApK ld W)) := by
    intro W hb
    rw [hn9]
    exact apartK_any ld aL cL B W (hK.below (hb.mono hB)) (Nat.le_trans hB hb.size) hw
  have HLZ : Hid (ld = [] → ∀ W, Calls Tryz.prog 34 #[.slice aL nL cL] W fun e W' => e = .returned (.slice none 0 0) ∧ Below W.heap.size W W') := by
    intro e W
    subst e
    rw [hn9]
    exact apart_nil aL cL W
  have hld : ld.length ≤ 20000 := by have := wts_len ld; omega
  have HSZ : Hid (Szd ⟨#[106, 97, 98, 98, 101, 114, 58, 99, 111, 109, 112, 111, 110, 101, 110, 116, 58, 97, 99, 99, 101, 112, 116]⟩ (nameOf kd) ⟨#[]⟩ (newA [⟨#[102, 114, 111, 109]⟩, (Jn.putB fn fd fr), ⟨#[116, 111]⟩, (Jn.putB tn td tr), ⟨#[105, 100]⟩, id, ⟨#[116, 121, 112, 101]⟩, ty])) := by
    have h1 := newA_len [⟨#[102, 114, 111, 109]⟩, (Jn.putB fn fd fr), ⟨#[116, 111]⟩, (Jn.putB tn td tr), ⟨#[105, 100]⟩, id, ⟨#[116, 121, 112, 101]⟩, ty]
    refine ⟨⟨by decide, by have := name_size kd; omega, by decide, by simp only [List.length_cons, List.length_nil] at h1; omega⟩, fun x hx => ?_⟩
    obtain ⟨h2, h3⟩ := newA_mem hx
    have := hAS _ h2
    have := hAS _ h3
    omega
  clear hn9 hK hB hw
  have HB0 : Hid (Below w.heap.size w ((w.alloc (.cells #[.int .i64 kd, .string ty, .string fn, .string fd, .string fr, .string tn, .string td, .string tr, .string id, .string sh, .string st, .string bd, .slice aL nL cL, .string cd] 26)).alloc (.cells #[.string ⟨#[]⟩, .string ⟨#[]⟩, .slice none 0 0, .string ⟨#[]⟩, .slice none 0 0] 29))) := ((Below.refl _ w).alloc (Nat.le_refl _) _).alloc (by simp) _
  have HX0 : Hid (((w.alloc (.cells #[.int .i64 kd, .string ty, .string fn, .string fd, .string fr, .string tn, .string td, .string tr, .string id, .string sh, .string st, .string bd, .slice aL nL cL, .string cd] 26)).alloc (.cells #[.string ⟨#[]⟩, .string ⟨#[]⟩, .slice none 0 0, .string ⟨#[]⟩, .slice none 0 0] 29)).heap[w.heap.size]? = some (.cells #[.int .i64 kd, .string ty, .string fn, .string fd, .string fr, .string tn, .string td, .string tr, .string id, .string sh, .string st, .string bd, .slice aL nL cL, .string cd] 26 (0, 0))) := (Below.heap_alloc _ _ _ (by simp)).trans (box_new w _ _)
  have HR0 : Hid (((w.alloc (.cells #[.int .i64 kd, .string ty, .string fn, .string fd, .string fr, .string tn, .string td, .string tr, .string id, .string sh, .string st, .string bd, .slice aL nL cL, .string cd] 26)).alloc (.cells #[.string ⟨#[]⟩, .string ⟨#[]⟩, .slice none 0 0, .string ⟨#[]⟩, .slice none 0 0] 29)).heap[w.heap.size + 1]? = some (.cells #[.string ⟨#[]⟩, .string ⟨#[]⟩, .slice none 0 0, .string ⟨#[]⟩, .slice none 0 0] 29 (0, 0))) := by
    have := box_new (w.alloc (.cells #[.int .i64 kd, .string ty, .string fn, .string fd, .string fr, .string tn, .string td, .string tr, .string id, .string sh, .string st, .string bd, .slice aL nL cL, .string cd] 26)) #[.string ⟨#[]⟩, .string ⟨#[]⟩, .slice none 0 0, .string ⟨#[]⟩, .slice none 0 0] 29
    show _ = _
    simpa using this
  go_enter Tryz.func12, Tryz.ntmps12
  go_upto_region 1 with fail
  go_cut [3] (fun s3 wx => ∃ (T N cn : Nat) (an : Option Addr), s3 = .pointer (some ⟨T, 0, none⟩) ∧ Hid (Wz #[.int .i64 kd, .string ty, .string fn, .string fd, .string fr, .string tn, .string td, .string tr, .string id, .string sh, .string st, .string bd, .slice aL nL cL, .string cd] ⟨#[106, 97, 98, 98, 101, 114, 58, 99, 111, 109, 112, 111, 110, 101, 110, 116, 58, 97, 99, 99, 101, 112, 116]⟩ (nameOf kd) ⟨#[]⟩ (newA [⟨#[102, 114, 111, 109]⟩, (Jn.putB fn fd fr), ⟨#[116, 111]⟩, (Jn.putB tn td tr), ⟨#[105, 100]⟩, id, ⟨#[116, 121, 112, 101]⟩, ty]) (.slice an (newA [⟨#[102, 114, 111, 109]⟩, (Jn.putB fn fd fr), ⟨#[116, 111]⟩, (Jn.putB tn td tr), ⟨#[105, 100]⟩, id, ⟨#[116, 121, 112, 101]⟩, ty]).length cn) w T N [] none 0 wx))
  case first =>
    refine region_psi 16 dsW (psW w kd ty fn fd fr tn td tr id) (by kernel_rfl) (by kernel_rfl) (by kernel_rfl) (by kernel_rfl) (by decide) (by kernel_rfl) (by kernel_rfl) (psW_mono w kd ty fn fd fr tn td tr id) ?_ ?_
    · intro i o hi ho a W hsz hout hbel hdep
      have hXW : W.heap[w.heap.size]? = some (.cells #[.int .i64 kd, .string ty, .string fn, .string fd, .string fr, .string tn, .string td, .string tr, .string id, .string sh, .string st, .string bd, .slice aL nL cL, .string cd] 26 (0, 0)) := (hbel.block _ (by simp; omega)).trans HX0.out
      obtain ⟨x0, x1, x2, x3, x4, x5, x6, x7, x8, x9, x10, x11, x12, x13⟩ := bx14 hXW
      have hc : i = 0 ∨ i = 1 ∨ i = 2 ∨ i = 3 ∨ i = 4 ∨ i = 5 ∨ i = 6 ∨ i = 7 ∨ i = 8 ∨ i = 9 ∨ i = 10 ∨ i = 11 ∨ i = 12 ∨ i = 13 ∨ i = 14 ∨ i = 15 := by omega
      rcases hc with rfl | rfl | rfl | rfl | rfl | rfl | rfl | rfl | rfl | rfl | rfl | rfl | rfl | rfl | rfl | rfl
      · -- 0
        cases ho
        have e1 : a.eval (.tmp 1) = (.pointer (some ⟨w.heap.size, 0, none⟩)) := hout 1 (by decide)
        refine gives_read (v := .pointer (some ⟨w.heap.size, 0, none⟩)) ?_ rfl
        unfold execOp
        dsimp only
        rw [e1]
        go_simp
      · -- 1
        cases ho
        have e6 : a.eval (.tmp 6) = .pointer (some ⟨w.heap.size, 0, none⟩) := hdep ⟨0, .data⟩ (by simp) rfl (by decide)
        refine gives_read (v := .int .i64 kd) ?_ rfl
        unfold execOp
        dsimp only
        rw [e6]
        go_simp
      · -- 2
        cases ho
        have e7 : a.eval (.tmp 7) = .int .i64 kd := hdep ⟨1, .data⟩ (by simp) rfl (by decide)
        refine gives_call (f := 36) (args := #[.int .i64 kd]) ?_ ((nameOf_any kd W).mono (by rintro e W' ⟨rfl, rfl⟩; exact ⟨_, rfl, Below.refl _ _, rfl⟩))
        unfold execOp
        dsimp only
        simp only [resolve, List.map_toArray, List.map_cons, List.map_nil, e7]
        go_simp
      · -- 3
        cases ho
        have e1 : a.eval (.tmp 1) = (.pointer (some ⟨w.heap.size, 0, none⟩)) := hout 1 (by decide)
        refine gives_read (v := .pointer (some ⟨w.heap.size, 2, none⟩)) ?_ rfl
        unfold execOp
        dsimp only
        rw [e1]
        go_simp
      · -- 4
        cases ho
        have e9 : a.eval (.tmp 9) = .pointer (some ⟨w.heap.size, 2, none⟩) := hdep ⟨3, .data⟩ (by simp) rfl (by decide)
        refine gives_read (v := .agg #[.string fn, .string fd, .string fr]) ?_ rfl
        unfold execOp
        dsimp only
        rw [e9]
        go_simp
      · -- 5
        cases ho
        have e10 : a.eval (.tmp 10) = .agg #[.string fn, .string fd, .string fr] := hdep ⟨4, .data⟩ (by simp) rfl (by decide)
        refine gives_call (f := 37) (args := #[.agg #[.string fn, .string fd, .string fr]]) ?_ ((Jn.put_any fn fd fr W h1 h2 h3).mono (by rintro e W' ⟨rfl, hb⟩; exact ⟨_, rfl, hb, rfl⟩))
        unfold execOp
        dsimp only
        simp only [resolve, List.map_toArray, List.map_cons, List.map_nil, e10]
        go_simp
      · -- 6
        cases ho
        have e1 : a.eval (.tmp 1) = (.pointer (some ⟨w.heap.size, 0, none⟩)) := hout 1 (by decide)
        refine gives_read (v := .pointer (some ⟨w.heap.size, 5, none⟩)) ?_ rfl
        unfold execOp
        dsimp only
        rw [e1]
        go_simp
      · -- 7
        cases ho
        have e12 : a.eval (.tmp 12) = .pointer (some ⟨w.heap.size, 5, none⟩) := hdep ⟨6, .data⟩ (by simp) rfl (by decide)
        refine gives_read (v := .agg #[.string tn, .string td, .string tr]) ?_ rfl
        unfold execOp
        dsimp only
        rw [e12]
        go_simp
      · -- 8
        cases ho
        have e13 : a.eval (.tmp 13) = .agg #[.string tn, .string td, .string tr] := hdep ⟨7, .data⟩ (by simp) rfl (by decide)
        refine gives_call (f := 37) (args := #[.agg #[.string tn, .string td, .string tr]]) ?_ ((Jn.put_any tn td tr W h4 h5 h6).mono (by rintro e W' ⟨rfl, hb⟩; exact ⟨_, rfl, hb, rfl⟩))
        unfold execOp
        dsimp only
        simp only [resolve, List.map_toArray, List.map_cons, List.map_nil, e13]
        go_simp
      · -- 9
        cases ho
        have e1 : a.eval (.tmp 1) = (.pointer (some ⟨w.heap.size, 0, none⟩)) := hout 1 (by decide)
        refine gives_read (v := .pointer (some ⟨w.heap.size, 8, none⟩)) ?_ rfl
        unfold execOp
        dsimp only
        rw [e1]
        go_simp
      · -- 10
        cases ho
        have e15 : a.eval (.tmp 15) = .pointer (some ⟨w.heap.size, 8, none⟩) := hdep ⟨9, .data⟩ (by simp) rfl (by decide)
        refine gives_read (v := .string id) ?_ rfl
        unfold execOp
        dsimp only
        rw [e15]
        go_simp
      · -- 11
        cases ho
        have e1 : a.eval (.tmp 1) = (.pointer (some ⟨w.heap.size, 0, none⟩)) := hout 1 (by decide)
        refine gives_read (v := .pointer (some ⟨w.heap.size, 1, none⟩)) ?_ rfl
        unfold execOp
        dsimp only
        rw [e1]
        go_simp
      · -- 12
        cases ho
        have e17 : a.eval (.tmp 17) = .pointer (some ⟨w.heap.size, 1, none⟩) := hdep ⟨11, .data⟩ (by simp) rfl (by decide)
        refine gives_read (v := .string ty) ?_ rfl
        unfold execOp
        dsimp only
        rw [e17]
        go_simp
      · -- 13
        cases ho
        have e11 : a.eval (.tmp 11) = .string (Jn.putB fn fd fr) := hdep ⟨5, .data⟩ (by simp) rfl (by decide)
        have e14 : a.eval (.tmp 14) = .string (Jn.putB tn td tr) := hdep ⟨8, .data⟩ (by simp) rfl (by decide)
        have e16 : a.eval (.tmp 16) = .string id := hdep ⟨10, .data⟩ (by simp) rfl (by decide)
        have e18 : a.eval (.tmp 18) = .string ty := hdep ⟨12, .data⟩ (by simp) rfl (by decide)
        refine gives_run (W' := W.alloc (.cells #[.string ⟨#[102, 114, 111, 109]⟩, .string (Jn.putB fn fd fr), .string ⟨#[116, 111]⟩, .string (Jn.putB tn td tr), .string ⟨#[105, 100]⟩, .string id, .string ⟨#[116, 121, 112, 101]⟩, .string ty] 9)) (v := .slice (some ⟨W.heap.size, 0, none⟩) 8 8) ?_ ((Below.refl _ W).alloc (Nat.le_refl _) _) ⟨W.heap.size, rfl, box_new W _ _⟩
        unfold execOp
        dsimp only
        simp only [List.map_toArray, List.map_cons, List.map_nil, e11, e14, e16, e18]
        go_simp
      · -- 14
        cases ho
        have e8 : a.eval (.tmp 8) = .string (nameOf kd) := hdep ⟨2, .data⟩ (by simp) rfl (by decide)
        obtain ⟨S, e19, hS⟩ : ∃ S, a.eval (.tmp 19) = .slice (some ⟨S, 0, none⟩) 8 8 ∧ W.heap[S]? = some (.cells #[.string ⟨#[102, 114, 111, 109]⟩, .string (Jn.putB fn fd fr), .string ⟨#[116, 111]⟩, .string (Jn.putB tn td tr), .string ⟨#[105, 100]⟩, .string id, .string ⟨#[116, 121, 112, 101]⟩, .string ty] 9 (0, 0)) := hdep ⟨13, .data⟩ (by simp) rfl (by decide)
        refine gives_call (f := 35) (args := #[.string ⟨#[106, 97, 98, 98, 101, 114, 58, 99, 111, 109, 112, 111, 110, 101, 110, 116, 58, 97, 99, 99, 101, 112, 116]⟩, .string (nameOf kd), .slice (some ⟨S, 0, none⟩) 8 8]) ?_ ((newK_any ⟨#[106, 97, 98, 98, 101, 114, 58, 99, 111, 109, 112, 111, 110, 101, 110, 116, 58, 97, 99, 99, 101, 112, 116]⟩ (nameOf kd) [⟨#[102, 114, 111, 109]⟩, (Jn.putB fn fd fr), ⟨#[116, 111]⟩, (Jn.putB tn td tr), ⟨#[105, 100]⟩, id, ⟨#[116, 121, 112, 101]⟩, ty] (some ⟨S, 0, none⟩) 8 W (by decide) (by have := name_size kd; omega) (by simp) hAS ?_).mono ?_)
        · unfold execOp
          dsimp only
          simp only [resolve, List.map_toArray, List.map_cons, List.map_nil, e8, e19]
          go_simp
        · intro i hi
          refine ⟨S, rfl, ?_⟩
          rw [Lib.cell_of_heap hS]
          have hi8 : i < 8 := hi
          have hc : i = 0 ∨ i = 1 ∨ i = 2 ∨ i = 3 ∨ i = 4 ∨ i = 5 ∨ i = 6 ∨ i = 7 := by omega
          rcases hc with rfl | rfl | rfl | rfl | rfl | rfl | rfl | rfl <;> rfl
        · rintro e W' ⟨a, c, rfl, har, hb⟩
          exact ⟨_, rfl, hb, a, c, rfl, ow_mono har (by have := hbel.size; simp at this; omega)⟩
      · -- 15
        cases ho
        refine gives_run (W' := W.alloc (.cells #[.string ⟨#[]⟩, .string ⟨#[]⟩, .slice none 0 0, .string ⟨#[]⟩, .slice none 0 0] 29)) (v := .pointer (some ⟨W.heap.size, 0, none⟩)) ?_ ((Below.refl _ W).alloc (Nat.le_refl _) _) ⟨W.heap.size, rfl, by have := hbel.size; simp at this; omega, box_new W _ _⟩
        unfold execOp
        dsimp only
        go_simp
    · intro a W ha hbel hv
      obtain ⟨an, cn, e20, har⟩ : ∃ an cn, a.eval (.tmp 20) = .agg #[.string ⟨#[106, 97, 98, 98, 101, 114, 58, 99, 111, 109, 112, 111, 110, 101, 110, 116, 58, 97, 99, 99, 101, 112, 116]⟩, .string (nameOf kd), .slice an (newA [⟨#[102, 114, 111, 109]⟩, (Jn.putB fn fd fr), ⟨#[116, 111]⟩, (Jn.putB tn td tr), ⟨#[105, 100]⟩, id, ⟨#[116, 121, 112, 101]⟩, ty]).length cn, .string ⟨#[]⟩, .slice none 0 0] ∧ AR (w.heap.size + 1) (newA [⟨#[102, 114, 111, 109]⟩, (Jn.putB fn fd fr), ⟨#[116, 111]⟩, (Jn.putB tn td tr), ⟨#[105, 100]⟩, id, ⟨#[116, 121, 112, 101]⟩, ty]) an cn W := hv 14 (by decide)
      obtain ⟨T, e3, hT, hTB⟩ : ∃ T, a.eval (.tmp 3) = .pointer (some ⟨T, 0, none⟩) ∧ w.heap.size + 1 < T ∧ W.heap[T]? = some (.cells #[.string ⟨#[]⟩, .string ⟨#[]⟩, .slice none 0 0, .string ⟨#[]⟩, .slice none 0 0] 29 (0, 0)) := hv 15 (by decide)
      have HF := Lib.hid (wz_new (sp := ⟨#[106, 97, 98, 98, 101, 114, 58, 99, 111, 109, 112, 111, 110, 101, 110, 116, 58, 97, 99, 99, 101, 112, 116]⟩) (nm := nameOf kd) (HB0.out.trans (hbel.mono HB0.out.size)) ((hbel.block _ (heap_lt HX0.out)).trans HX0.out) ((hbel.block _ (heap_lt HR0.out)).trans HR0.out) har hT hTB)
      obtain ⟨z0, z1, z2, z3, z4⟩ := bx5 hTB
      have f0 := Lib.frozen_of_heap hTB 0
      have f1 := Lib.frozen_of_heap hTB 1
      have f2 := Lib.frozen_of_heap hTB 2
      have f3 := Lib.frozen_of_heap hTB 3
      have f4 := Lib.frozen_of_heap hTB 4
      have ha2 : a = canonL a [6, 7, 8, 9, 10, 11, 12, 13, 14, 15, 16, 17, 18, 19, 20, 3] _ := ha
      simp only [canonL] at ha2
      rw [e20, e3] at ha2
      clear ha hv e20 e3 hTB har
      generalize a.eval (.tmp 6) = u6 at ha2
      generalize a.eval (.tmp 7) = u7 at ha2
      generalize a.eval (.tmp 8) = u8 at ha2
      generalize a.eval (.tmp 9) = u9 at ha2
      generalize a.eval (.tmp 10) = u10 at ha2
      generalize a.eval (.tmp 11) = u11 at ha2
      generalize a.eval (.tmp 12) = u12 at ha2
      generalize a.eval (.tmp 13) = u13 at ha2
      generalize a.eval (.tmp 14) = u14 at ha2
      generalize a.eval (.tmp 15) = u15 at ha2
      generalize a.eval (.tmp 16) = u16 at ha2
      generalize a.eval (.tmp 17) = u17 at ha2
      generalize a.eval (.tmp 18) = u18 at ha2
      generalize a.eval (.tmp 19) = u19 at ha2
      subst ha2
      go_wp2_with fail
      go_meet
      exact ⟨_, _, _, _, rfl, HF.out⟩
  case rest =>
    obtain ⟨T, N, cn, an, rfl, HZ0⟩ := hcut
    clear HB0 HX0 HR0 hAS
    obtain ⟨x0, x1, x2, x3, x4, x5, x6, x7, x8, x9, x10, x11, x12, x13⟩ := bx14 HZ0.out.eb
    go_wp2_with fail
    clear x0 x1 x2 x3 x4 x5 x6 x7 x8 x9 x10 x11 x12 x13
    have C1 := say_any ⟨#[115, 104, 111, 119]⟩ sh _ _ _ _ _ _ _ _ _ _ _ _ _ _ _ HZ0.out (by decide) h7 (by simp)
    refine C1.mono ?_
    rintro r ws1 ⟨rfl, a1, c1, hz⟩
    have HZ1 := Lib.hid hz
    clear hz C1
    obtain ⟨x0, x1, x2, x3, x4, x5, x6, x7, x8, x9, x10, x11, x12, x13⟩ := bx14 HZ1.out.eb
    go_wp2_with fail
    clear x0 x1 x2 x3 x4 x5 x6 x7 x8 x9 x10 x11 x12 x13
    have C2 := say_any ⟨#[115, 116, 97, 116, 117, 115]⟩ st _ _ _ _ _ _ _ _ _ _ _ _ _ _ _ HZ1.out (by decide) h8 (by simp only [List.nil_append]; have := say_len ⟨#[115, 104, 111, 119]⟩ sh; omega)
    refine C2.mono ?_
    rintro r ws2 ⟨rfl, a2, c2, hz⟩
    have HZ2 := Lib.hid hz
    clear hz C2
    obtain ⟨x0, x1, x2, x3, x4, x5, x6, x7, x8, x9, x10, x11, x12, x13⟩ := bx14 HZ2.out.eb
    go_wp2_with fail
    clear x0 x1 x2 x3 x4 x5 x6 x7 x8 x9 x10 x11 x12 x13
    have C3 := say_any ⟨#[98, 111, 100, 121]⟩ bd _ _ _ _ _ _ _ _ _ _ _ _ _ _ _ HZ2.out (by decide) h9 (by simp only [List.nil_append, List.length_append]; have := say_len ⟨#[115, 104, 111, 119]⟩ sh; have := say_len ⟨#[115, 116, 97, 116, 117, 115]⟩ st; omega)
    refine C3.mono ?_
    rintro r ws3 ⟨rfl, a3, c3, hz⟩
    have HZ3 := Lib.hid hz
    clear hz C3
    obtain ⟨x0, x1, x2, x3, x4, x5, x6, x7, x8, x9, x10, x11, x12, x13⟩ := bx14 HZ3.out.eb
    go_wp2_with fail
    have HZ : Hid (Wz #[.int .i64 kd, .string ty, .string fn, .string fd, .string fr, .string tn, .string td, .string tr, .string id, .string sh, .string st, .string bd, .slice aL nL cL, .string cd] ⟨#[106, 97, 98, 98, 101, 114, 58, 99, 111, 109, 112, 111, 110, 101, 110, 116, 58, 97, 99, 99, 101, 112, 116]⟩ (nameOf kd) ⟨#[]⟩ (newA [⟨#[102, 114, 111, 109]⟩, (Jn.putB fn fd fr), ⟨#[116, 111]⟩, (Jn.putB tn td tr), ⟨#[105, 100]⟩, id, ⟨#[116, 121, 112, 101]⟩, ty]) (.slice an (newA [⟨#[102, 114, 111, 109]⟩, (Jn.putB fn fd fr), ⟨#[116, 111]⟩, (Jn.putB tn td tr), ⟨#[105, 100]⟩, id, ⟨#[116, 121, 112, 101]⟩, ty]).length cn) w T N (((say kShow sh ++ say kStat st) ++ say kBody bd)) a3 c3 ws3) := HZ3.out
    clear HZ0 HZ1 HZ2 HZ3
    have hkl : ((say kShow sh ++ say kStat st) ++ say kBody bd).length ≤ 3 := by
      have := say_len kShow sh
      have := say_len kStat st
      have := say_len kBody bd
      simp only [List.length_append]; omega
    clear h7 h8 h9
    generalize hks : ((say kShow sh ++ say kStat st) ++ say kBody bd) = ks at HZ hkl
    have HKS := Lib.hid hks
    clear hks
    clear x0 x1 x2 x3 x4 x5 x6 x7 x8 x9 x10 x11 x12 x13
    generalize ws3 = W3 at HZ ⊢
    generalize a3 = a at HZ ⊢
    generalize c3 = c at HZ ⊢
    go_cut [] (fun wx => ∃ (a' : Option Addr) (c' : Nat), Hid (Wz #[.int .i64 kd, .string ty, .string fn, .string fd, .string fr, .string tn, .string td, .string tr, .string id, .string sh, .string st, .string bd, .slice aL nL cL, .string cd] ⟨#[106, 97, 98, 98, 101, 114, 58, 99, 111, 109, 112, 111, 110, 101, 110, 116, 58, 97, 99, 99, 101, 112, 116]⟩ (nameOf kd) ⟨#[]⟩ (newA [⟨#[102, 114, 111, 109]⟩, (Jn.putB fn fd fr), ⟨#[116, 111]⟩, (Jn.putB tn td tr), ⟨#[105, 100]⟩, id, ⟨#[116, 121, 112, 101]⟩, ty]) (.slice an (newA [⟨#[102, 114, 111, 109]⟩, (Jn.putB fn fd fr), ⟨#[116, 111]⟩, (Jn.putB tn td tr), ⟨#[105, 100]⟩, id, ⟨#[116, 121, 112, 101]⟩, ty]).length cn) w T N (ks ++ ld) a' c' wx))
    case first =>
      obtain ⟨x0, x1, x2, x3, x4, x5, x6, x7, x8, x9, x10, x11, x12, x13⟩ := bx14 HZ.out.eb
      obtain ⟨y0, y1, y2, y3, y4⟩ := bx5 HZ.out.tb
      obtain ⟨xs, hxs, hxk⟩ := HZ.out.kr.own
      have HXS := Lib.hid hxs
      have HXK := Lib.hid hxk
      clear hxs hxk
      refine region_psi 5 dsX (psX w T a c ks.length aL nL cL W3 ld) (by kernel_rfl) (by kernel_rfl) (by kernel_rfl) (by kernel_rfl) (by decide) (by kernel_rfl) (by kernel_rfl) (psX_mono w T a c ks.length aL nL cL W3 ld) ?_ ?_
      · intro i o hi ho q W hsz hout hbel hdep
        have z4 : W.cell? ⟨T, 4, none⟩ = some (.slice a ks.length c) := (hbel.cell (p := ⟨T, 4, none⟩) (heap_lt HZ.out.tb)).trans y4
        have z12 : W.cell? ⟨w.heap.size, 12, none⟩ = some (.slice aL nL cL) := (hbel.cell (p := ⟨w.heap.size, 12, none⟩) (heap_lt HZ.out.eb)).trans x12
        have hc : i = 0 ∨ i = 1 ∨ i = 2 ∨ i = 3 ∨ i = 4 := by omega
        rcases hc with rfl | rfl | rfl | rfl | rfl
        · cases ho
          have e3 : q.eval (.tmp 3) = .pointer (some ⟨T, 0, none⟩) := hout 3 (by decide)
          refine gives_read (v := .pointer (some ⟨T, 4, none⟩)) ?_ rfl
          unfold execOp
          dsimp only
          rw [e3]
          go_simp
        · cases ho
          have e34 : q.eval (.tmp 34) = .pointer (some ⟨T, 4, none⟩) := hdep ⟨0, .data⟩ (by simp) rfl (by decide)
          refine gives_read (v := .slice a ks.length c) ?_ rfl
          unfold execOp
          dsimp only
          rw [e34]
          go_simp
        · cases ho
          have e1 : q.eval (.tmp 1) = .pointer (some ⟨w.heap.size, 0, none⟩) := hout 1 (by decide)
          refine gives_read (v := .pointer (some ⟨w.heap.size, 12, none⟩)) ?_ rfl
          unfold execOp
          dsimp only
          rw [e1]
          go_simp
        · cases ho
          have e36 : q.eval (.tmp 36) = .pointer (some ⟨w.heap.size, 12, none⟩) := hdep ⟨2, .data⟩ (by simp) rfl (by decide)
          refine gives_read (v := .slice aL nL cL) ?_ rfl
          unfold execOp
          dsimp only
          rw [e36]
          go_simp
        · cases ho
          have e37 : q.eval (.tmp 37) = .slice aL nL cL := hdep ⟨3, .data⟩ (by simp) rfl (by decide)
          have hbw : Below w.heap.size w W := HZ.out.bel.trans (hbel.mono HZ.out.bel.size)
          by_cases hl0 : ld = []
          · refine gives_call (f := 34) (args := #[.slice aL nL cL]) ?_ ((HLZ.out hl0 W).mono ?_)
            · unfold execOp
              dsimp only
              simp only [resolve, List.map_toArray, List.map_cons, List.map_nil, e37]
              go_simp
            · rintro e W' ⟨rfl, hb⟩
              refine ⟨_, rfl, hb, none, 0, by rw [hl0]; rfl, ?_, fun _ => ⟨rfl, rfl⟩⟩
              rw [hl0]
              exact KR.nil _ _
          · refine gives_call (f := 34) (args := #[.slice aL nL cL]) ?_ ((HLD.out W hbw).mono ?_)
            · unfold execOp
              dsimp only
              simp only [resolve, List.map_toArray, List.map_cons, List.map_nil, e37]
              go_simp
            · rintro e W' ⟨a', c', rfl, hk, hb⟩
              exact ⟨_, rfl, hb, a', c', rfl, KRow.mono hk hbel.size, fun h => absurd h hl0⟩
      · intro q W hq hbel hv
        obtain ⟨a', c', e38, hk, hnil⟩ : ∃ a' c', q.eval (.tmp 38) = .slice a' ld.length c' ∧ KR W3.heap.size ld a' c' W ∧ (ld = [] → a' = none ∧ c' = 0) := hv 4 (by decide)
        have e35 : q.eval (.tmp 35) = .slice a ks.length c := hv 1 (by decide)
        have HZW := Lib.hid (HZ.out.st hbel)
        have HXW := Lib.hid (ow_st HXS.out hbel)
        have HKW := Lib.hid (KAt.map HXK.out (fun e v h => h.stay hbel))
        have hq2 : q = canonL q [34, 35, 36, 37, 38] _ := hq
        simp only [canonL] at hq2
        rw [e35, e38] at hq2
        clear hq hv e35 e38
        generalize q.eval (.tmp 34) = u34 at hq2
        generalize q.eval (.tmp 36) = u36 at hq2
        generalize q.eval (.tmp 37) = u37 at hq2
        subst hq2
        clear x0 x1 x2 x3 x4 x5 x6 x7 x8 x9 x10 x11 x12 x13 y0 y1 y2 y3 y4
        obtain ⟨y0, y1, y2, y3, y4⟩ := bx5 HZW.out.tb
        have f4 := Lib.frozen_of_heap HZW.out.tb 4
        by_cases hl0 : ld = []
        · obtain ⟨rfl, rfl⟩ := hnil hl0
          subst hl0
          clear hk hnil
          obtain ⟨i0, hi0, hz0, hz1, hz2⟩ := info_parts infoElem
          have HLE := Lib.hid (own_le HXW.out)
          dsimp only [List.drop]
          refine wpList_append_none rfl _ _ 24 rfl 29 i0 Tryz.underlying24 hi0 a ks.length c (by rfl) (by rfl) HLE.out ?_
          go_wp2_with fail
          go_meet
          refine ⟨a, c, ?_⟩
          show Wz _ _ _ _ _ _ _ _ _ _ _ _ _
          rw [List.append_nil]
          exact HZW.out.same
        · obtain ⟨ys, hys, hyk⟩ := hk.own
          have hpos : 0 < ld.length := List.length_pos_iff.2 hl0
          obtain ⟨g', cap', hsl, _, _⟩ := hys.form hpos
          simp only [Value.slice.injEq, true_and] at hsl
          obtain ⟨rfl, rfl⟩ := hsl
          have HYK : Hid (KAt (fun b => W3.heap.size ≤ b) W ys ld) := KAt.map hyk (fun e v h => h.weak fun b _ hb => hb.1)
          have HNW := Lib.hid (own_news hys)
          have HON := Lib.hid (HYK.out.one' hys.1)
          have HYL := Lib.hid hys.1
          have HLB : Hid (∀ b, (Value.slice a ks.length c).ownBlock = some b → b < W3.heap.size) := fun b e => heap_lt (own_heap HXS.out e).2.choose_spec
          have hNW : N ≤ W.heap.size := HZW.out.ge
          clear hk hnil hys hyk
          obtain ⟨i0, hi0, hz0, hz1, hz2⟩ := info_parts infoElem
          dsimp only [List.drop]
          refine wpList_append_lies _ rfl _ _ 24 rfl N 29 i0 _ 5 96 Tryz.underlying24 hi0 hz0 hz1 hz2 rfl (by decide) _ ks.length xs (by rfl) HXW.out ⟨g', 0, none⟩ ld.length c' ys (by rfl) HYL.out HNW.out HON.out hpos (by unfold maxLen; omega) (by omega) hNW W.heap.size rfl ?_
          intro g cap w5 hown hgrow hat hlt5
          have HTB := Lib.hid (HZW.out.box HXW.out hgrow hat)
          obtain ⟨k0, k1, k2, k3, k4⟩ := bx5 HTB.out
          have l4 := Lib.frozen_of_heap HTB.out 4
          have HF := Lib.hid (HZW.out.row HXW.out HKW.out hgrow hat HLB.out HZ.out.ge HYK.out hown)
          clear hown hgrow hat hlt5 y0 y1 y2 y3 y4 f4
          go_wp2_with fail
          go_meet
          exact ⟨_, _, HF.out⟩
    case rest =>
      obtain ⟨a', c', HZ4⟩ := hcut
      have HKF : Hid (ks ++ ld = ((say kShow sh ++ say kStat st) ++ say kBody bd) ++ ld) := by show _ = _; rw [HKS.out]
      have hkfl : (ks ++ ld).length ≤ 20003 := by rw [List.length_append]; omega
      clear HZ HLD HLZ HKS
      generalize ks ++ ld = kf at HZ4 HKF hkfl
      have HEND : Hid (∀ (kf : List El) (a : Option Addr) (c n : Nat) (W : World), n = kf.length → kf = ((say kShow sh ++ say kStat st) ++ say kBody bd) ++ ld ++ errs cd → Wz #[.int .i64 kd, .string ty, .string fn, .string fd, .string fr, .string tn, .string td, .string tr, .string id, .string sh, .string st, .string bd, .slice aL nL cL, .string cd] ⟨#[106, 97, 98, 98, 101, 114, 58, 99, 111, 109, 112, 111, 110, 101, 110, 116, 58, 97, 99, 99, 101, 112, 116]⟩ (nameOf kd) ⟨#[]⟩ (newA [⟨#[102, 114, 111, 109]⟩, (Jn.putB fn fd fr), ⟨#[116, 111]⟩, (Jn.putB tn td tr), ⟨#[105, 100]⟩, id, ⟨#[116, 121, 112, 101]⟩, ty]) (.slice an (newA [⟨#[102, 114, 111, 109]⟩, (Jn.putB fn fd fr), ⟨#[116, 111]⟩, (Jn.putB tn td tr), ⟨#[105, 100]⟩, id, ⟨#[116, 121, 112, 101]⟩, ty]).length cn) w T N kf a c W → NewP9 ⟨#[106, 97, 98, 98, 101, 114, 58, 99, 111, 109, 112, 111, 110, 101, 110, 116, 58, 97, 99, 99, 101, 112, 116]⟩ (nameOf kd) (newA [⟨#[102, 114, 111, 109]⟩, (Jn.putB fn fd fr), ⟨#[116, 111]⟩, (Jn.putB tn td tr), ⟨#[105, 100]⟩, id, ⟨#[116, 121, 112, 101]⟩, ty]) (((say kShow sh ++ say kStat st) ++ say kBody bd) ++ ld ++ errs cd) w (.returned (.agg #[.string ⟨#[106, 97, 98, 98, 101, 114, 58, 99, 111, 109, 112, 111, 110, 101, 110, 116, 58, 97, 99, 99, 101, 112, 116]⟩, .string (nameOf kd), .slice an (newA [⟨#[102, 114, 111, 109]⟩, (Jn.putB fn fd fr), ⟨#[116, 111]⟩, (Jn.putB tn td tr), ⟨#[105, 100]⟩, id, ⟨#[116, 121, 112, 101]⟩, ty]).length cn, .string ⟨#[]⟩, .slice a n c])) (((((W.setCell ⟨w.heap.size + 1, 0, none⟩ (.string ⟨#[106, 97, 98, 98, 101, 114, 58, 99, 111, 109, 112, 111, 110, 101, 110, 116, 58, 97, 99, 99, 101, 112, 116]⟩)).setCell ⟨w.heap.size + 1, 1, none⟩ (.string (nameOf kd))).setCell ⟨w.heap.size + 1, 2, none⟩ (.slice an (newA [⟨#[102, 114, 111, 109]⟩, (Jn.putB fn fd fr), ⟨#[116, 111]⟩, (Jn.putB tn td tr), ⟨#[105, 100]⟩, id, ⟨#[116, 121, 112, 101]⟩, ty]).length cn)).setCell ⟨w.heap.size + 1, 3, none⟩ (.string ⟨#[]⟩)).setCell ⟨w.heap.size + 1, 4, none⟩ (.slice a n c))) := by
        intro kf a c n W hn hkf hW
        subst hn
        rw [← hkf]
        exact ⟨an, cn, a, c, rfl, wz_end hW HSZ.out _ _ _ _ _⟩
      obtain ⟨x0, x1, x2, x3, x4, x5, x6, x7, x8, x9, x10, x11, x12, x13⟩ := bx14 HZ4.out.eb
      by_cases hce : cd.toList.isEmpty = true
      · have hce2 : (cd.toList != []) = false := by
          have : cd.toList = [] := List.isEmpty_iff.1 hce
          rw [this]; rfl
        have HER : Hid (errs cd = []) := if_pos hce
        obtain ⟨y0, y1, y2, y3, y4⟩ := bx5 HZ4.out.tb
        obtain ⟨q0, q1, q2, q3, q4⟩ := bx5 HZ4.out.rb
        have p0 := Lib.frozen_of_heap HZ4.out.rb 0
        have p1 := Lib.frozen_of_heap HZ4.out.rb 1
        have p2 := Lib.frozen_of_heap HZ4.out.rb 2
        have p3 := Lib.frozen_of_heap HZ4.out.rb 3
        have p4 := Lib.frozen_of_heap HZ4.out.rb 4
        go_wp2_with fail
        exact bodyPost_ret (v := .agg #[.string ⟨#[106, 97, 98, 98, 101, 114, 58, 99, 111, 109, 112, 111, 110, 101, 110, 116, 58, 97, 99, 99, 101, 112, 116]⟩, .string (nameOf kd), .slice an (newA [⟨#[102, 114, 111, 109]⟩, (Jn.putB fn fd fr), ⟨#[116, 111]⟩, (Jn.putB tn td tr), ⟨#[105, 100]⟩, id, ⟨#[116, 121, 112, 101]⟩, ty]).length cn, .string ⟨#[]⟩, .slice a' (kf.length) c']) (by simp [results, Tryz.results12, go_sem, q0, q1, q2, q3, q4]) rfl (HEND.out _ _ _ _ _ rfl (by rw [HER.out, List.append_nil]; exact HKF.out) HZ4.out)
      · have hce0 : cd.toList.isEmpty = false := by simpa using hce
        have hce2 : (cd.toList != []) = true := by
          rw [bne_iff_ne]; intro h2; rw [h2] at hce0; cases hce0
        have HER : Hid (errs cd = [errEl cd]) := if_neg (by rw [hce0]; simp)
        have CK := Lib.hid (fun W => kindOfError_any cd W (by omega))
        have hkz := kerr_size cd
        have CN : Hid (∀ (W : World) (S : Nat), W.heap[S]? = some (.cells #[.string ⟨#[116, 121, 112, 101]⟩, .string (kindOfErr cd)] 9 (0, 0)) → Calls Tryz.prog 35 #[.string ⟨#[106, 97, 98, 98, 101, 114, 58, 99, 111, 109, 112, 111, 110, 101, 110, 116, 58, 97, 99, 99, 101, 112, 116]⟩, .string ⟨#[101, 114, 114, 111, 114]⟩, .slice (some ⟨S, 0, none⟩) 2 2] W (NewK ⟨#[106, 97, 98, 98, 101, 114, 58, 99, 111, 109, 112, 111, 110, 101, 110, 116, 58, 97, 99, 99, 101, 112, 116]⟩ ⟨#[101, 114, 114, 111, 114]⟩ [⟨#[116, 121, 112, 101]⟩, (kindOfErr cd)] W)) := by
          intro W S hS
          refine newK_any _ _ [⟨#[116, 121, 112, 101]⟩, (kindOfErr cd)] (some ⟨S, 0, none⟩) 2 W (by decide) (by decide) (by simp) ?_ ?_
          · intro s hs
            simp only [List.mem_cons, List.not_mem_nil, or_false] at hs
            rcases hs with rfl | rfl
            · decide
            · omega
          · intro i hi
            refine ⟨S, rfl, ?_⟩
            rw [Lib.cell_of_heap hS]
            have hi2 : i < 2 := hi
            have hc : i = 0 ∨ i = 1 := by omega
            rcases hc with rfl | rfl <;> rfl
        have CM : Hid (∀ W, Calls Tryz.prog 35 #[.string ⟨#[117, 114, 110, 58, 105, 101, 116, 102, 58, 112, 97, 114, 97, 109, 115, 58, 120, 109, 108, 58, 110, 115, 58, 120, 109, 112, 112, 45, 115, 116, 97, 110, 122, 97, 115]⟩, .string cd, .slice none 0 0] W fun r w' => ∃ a c, r = .returned (.agg #[.string ⟨#[117, 114, 110, 58, 105, 101, 116, 102, 58, 112, 97, 114, 97, 109, 115, 58, 120, 109, 108, 58, 110, 115, 58, 120, 109, 112, 112, 45, 115, 116, 97, 110, 122, 97, 115]⟩, .string cd, .slice a 0 c, .string ⟨#[]⟩, .slice none 0 0]) ∧ InS (fun b => W.heap.size ≤ b) w' (.mk ⟨#[117, 114, 110, 58, 105, 101, 116, 102, 58, 112, 97, 114, 97, 109, 115, 58, 120, 109, 108, 58, 110, 115, 58, 120, 109, 112, 112, 45, 115, 116, 97, 110, 122, 97, 115]⟩ cd [] ⟨#[]⟩ []) (.agg #[.string ⟨#[117, 114, 110, 58, 105, 101, 116, 102, 58, 112, 97, 114, 97, 109, 115, 58, 120, 109, 108, 58, 110, 115, 58, 120, 109, 112, 112, 45, 115, 116, 97, 110, 122, 97, 115]⟩, .string cd, .slice a 0 c, .string ⟨#[]⟩, .slice none 0 0]) ∧ Below W.heap.size W w') :=
          fun W => new_any ⟨#[117, 114, 110, 58, 105, 101, 116, 102, 58, 112, 97, 114, 97, 109, 115, 58, 120, 109, 108, 58, 110, 115, 58, 120, 109, 112, 112, 45, 115, 116, 97, 110, 122, 97, 115]⟩ cd [] none 0 W (by decide) (by omega) (by simp) (fun s hs => absurd hs (by simp)) (fun i hi => absurd hi (by simp))
        clear hkz
        go_wp2_with fail
        refine (CK.out _).mono ?_
        rintro r w5 ⟨rfl, hb⟩
        have HZ5 := Lib.hid (HZ4.out.st hb)
        clear hb HZ4 CK x0 x1 x2 x3 x4 x5 x6 x7 x8 x9 x10 x11 x12 x13
        have HS5 := Lib.hid (box_new w5 #[.string ⟨#[116, 121, 112, 101]⟩, .string (kindOfErr cd)] 9)
        go_wp2_with fail
        refine (CN.out _ _ HS5.out).mono ?_
        rintro r w6 ⟨ak, ck, rfl, har, hb⟩
        have HZ6 := Lib.hid ((HZ5.out.al _).st hb)
        have HBL : Hid (Below w5.heap.size w5 w6) := ((Below.refl _ w5).alloc (Nat.le_refl _) _).trans (hb.mono (by simp))
        have HAR : Hid (SlA (fun b => w5.heap.size ≤ b ∧ b < w6.heap.size) w6 (.slice ak (newA [⟨#[116, 121, 112, 101]⟩, (kindOfErr cd)]).length ck) (newA [⟨#[116, 121, 112, 101]⟩, (kindOfErr cd)])) := (SlA.own har).weak fun b hlt hb => ⟨by simp at hb; omega, hlt⟩
        clear har hb HS5 CN
        have HZ7 : Hid (Wz #[.int .i64 kd, .string ty, .string fn, .string fd, .string fr, .string tn, .string td, .string tr, .string id, .string sh, .string st, .string bd, .slice aL nL cL, .string cd] ⟨#[106, 97, 98, 98, 101, 114, 58, 99, 111, 109, 112, 111, 110, 101, 110, 116, 58, 97, 99, 99, 101, 112, 116]⟩ (nameOf kd) ⟨#[]⟩ (newA [⟨#[102, 114, 111, 109]⟩, (Jn.putB fn fd fr), ⟨#[116, 111]⟩, (Jn.putB tn td tr), ⟨#[105, 100]⟩, id, ⟨#[116, 121, 112, 101]⟩, ty]) (.slice an (newA [⟨#[102, 114, 111, 109]⟩, (Jn.putB fn fd fr), ⟨#[116, 111]⟩, (Jn.putB tn td tr), ⟨#[105, 100]⟩, id, ⟨#[116, 121, 112, 101]⟩, ty]).length cn) w T N kf a' c' (w6.alloc (.cells #[.string ⟨#[106, 97, 98, 98, 101, 114, 58, 99, 111, 109, 112, 111, 110, 101, 110, 116, 58, 97, 99, 99, 101, 112, 116]⟩, .string ⟨#[101, 114, 114, 111, 114]⟩, (.slice ak (newA [⟨#[116, 121, 112, 101]⟩, (kindOfErr cd)]).length ck), .string ⟨#[]⟩, .slice none 0 0] 29))) := HZ6.out.st ((Below.refl _ w6).alloc (Nat.le_refl _) _)
        have HB7 : Hid (Below w5.heap.size w5 (w6.alloc (.cells #[.string ⟨#[106, 97, 98, 98, 101, 114, 58, 99, 111, 109, 112, 111, 110, 101, 110, 116, 58, 97, 99, 99, 101, 112, 116]⟩, .string ⟨#[101, 114, 114, 111, 114]⟩, (.slice ak (newA [⟨#[116, 121, 112, 101]⟩, (kindOfErr cd)]).length ck), .string ⟨#[]⟩, .slice none 0 0] 29))) := HBL.out.trans (((Below.refl _ w6).alloc (Nat.le_refl _) _).mono HBL.out.size)
        have HA7 : Hid (SlA (fun b => w5.heap.size ≤ b ∧ b < w6.heap.size) (w6.alloc (.cells #[.string ⟨#[106, 97, 98, 98, 101, 114, 58, 99, 111, 109, 112, 111, 110, 101, 110, 116, 58, 97, 99, 99, 101, 112, 116]⟩, .string ⟨#[101, 114, 114, 111, 114]⟩, (.slice ak (newA [⟨#[116, 121, 112, 101]⟩, (kindOfErr cd)]).length ck), .string ⟨#[]⟩, .slice none 0 0] 29)) (.slice ak (newA [⟨#[116, 121, 112, 101]⟩, (kindOfErr cd)]).length ck) (newA [⟨#[116, 121, 112, 101]⟩, (kindOfErr cd)])) := HAR.out.below ((Below.refl _ w6).alloc (Nat.le_refl _) _)
        have HP7 : Hid ((w6.alloc (.cells #[.string ⟨#[106, 97, 98, 98, 101, 114, 58, 99, 111, 109, 112, 111, 110, 101, 110, 116, 58, 97, 99, 99, 101, 112, 116]⟩, .string ⟨#[101, 114, 114, 111, 114]⟩, (.slice ak (newA [⟨#[116, 121, 112, 101]⟩, (kindOfErr cd)]).length ck), .string ⟨#[]⟩, .slice none 0 0] 29)).heap[w6.heap.size]? = some (.cells #[.string ⟨#[106, 97, 98, 98, 101, 114, 58, 99, 111, 109, 112, 111, 110, 101, 110, 116, 58, 97, 99, 99, 101, 112, 116]⟩, .string ⟨#[101, 114, 114, 111, 114]⟩, (.slice ak (newA [⟨#[116, 121, 112, 101]⟩, (kindOfErr cd)]).length ck), .string ⟨#[]⟩, .slice none 0 0] 29 (0, 0))) := by
          exact box_new w6 _ _
        have HPL : Hid (w5.heap.size ≤ w6.heap.size) := HBL.out.size
        obtain ⟨x0, x1, x2, x3, x4, x5, x6, x7, x8, x9, x10, x11, x12, x13⟩ := bx14 HZ6.out.eb
        go_upto_region 9 with fail
        generalize (w6.alloc (.cells #[.string ⟨#[106, 97, 98, 98, 101, 114, 58, 99, 111, 109, 112, 111, 110, 101, 110, 116, 58, 97, 99, 99, 101, 112, 116]⟩, .string ⟨#[101, 114, 114, 111, 114]⟩, (.slice ak (newA [⟨#[116, 121, 112, 101]⟩, (kindOfErr cd)]).length ck), .string ⟨#[]⟩, .slice none 0 0] 29)) = w7 at HZ7 HB7 HA7 HP7 ⊢
        generalize w6.heap.size = P at HP7 HPL HA7 ⊢
        clear HZ6 HBL HAR x0 x1 x2 x3 x4 x5 x6 x7 x8 x9 x10 x11 x12 x13
        have HNK : Hid (∃ nk, nk = (newA [⟨#[116, 121, 112, 101]⟩, (kindOfErr cd)]).length) := ⟨_, rfl⟩
        obtain ⟨nk, hnk⟩ := HNK.out
        rw [← hnk] at HP7 HA7
        have HNN := Lib.hid hnk
        clear hnk HNK
        obtain ⟨x0, x1, x2, x3, x4, x5, x6, x7, x8, x9, x10, x11, x12, x13⟩ := bx14 HZ7.out.eb
        go_wp2_with fail
        refine (CM.out _).mono ?_
        rintro r w8 ⟨am, cm, rfl, hin, hb⟩
        have HZ8 := Lib.hid (HZ7.out.st hb)
        have HB8 := Lib.hid (HB7.out.trans (hb.mono HB7.out.size))
        have HA8 := Lib.hid (HA7.out.below hb)
        have HP8 := Lib.hid ((hb.block _ (heap_lt HP7.out)).trans HP7.out)
        have HI8 : Hid (InS (fun b => w5.heap.size ≤ b ∧ b ≠ P) w8 _ _) := hin.weak fun b _ hb => ⟨Nat.le_trans HB7.out.size hb, by have := heap_lt HP7.out; omega⟩
        clear hb hin HZ7 HB7 HA7 HP7 CM x0 x1 x2 x3 x4 x5 x6 x7 x8 x9 x10 x11 x12 x13
        have hP8 := heap_lt HP8.out
        obtain ⟨p0, p1, p2, p3, p4⟩ := bx5 HP8.out
        have f4 := Lib.frozen_of_heap HP8.out 4
        have hP5 := HPL.out
        have HK8 : Hid (w5.heap.size ≤ w8.heap.size) := HB8.out.size
        have HB9 : Hid (Below w5.heap.size w5 ((w8.setCell ⟨P, 4, none⟩ (.slice (some ⟨w8.heap.size, 0, none⟩) 1 1)).alloc (.cells #[.string ⟨#[117, 114, 110, 58, 105, 101, 116, 102, 58, 112, 97, 114, 97, 109, 115, 58, 120, 109, 108, 58, 110, 115, 58, 120, 109, 112, 112, 45, 115, 116, 97, 110, 122, 97, 115]⟩, .string cd, .slice am 0 cm, .string ⟨#[]⟩, .slice none 0 0] 29))) := (HB8.out.setCell (by exact hP5) _).alloc (by have := HB8.out.size; simp [World.setCell]; omega) _
        have HZ9 : Hid (Wz #[.int .i64 kd, .string ty, .string fn, .string fd, .string fr, .string tn, .string td, .string tr, .string id, .string sh, .string st, .string bd, .slice aL nL cL, .string cd] ⟨#[106, 97, 98, 98, 101, 114, 58, 99, 111, 109, 112, 111, 110, 101, 110, 116, 58, 97, 99, 99, 101, 112, 116]⟩ (nameOf kd) ⟨#[]⟩ (newA [⟨#[102, 114, 111, 109]⟩, (Jn.putB fn fd fr), ⟨#[116, 111]⟩, (Jn.putB tn td tr), ⟨#[105, 100]⟩, id, ⟨#[116, 121, 112, 101]⟩, ty]) (.slice an (newA [⟨#[102, 114, 111, 109]⟩, (Jn.putB fn fd fr), ⟨#[116, 111]⟩, (Jn.putB tn td tr), ⟨#[105, 100]⟩, id, ⟨#[116, 121, 112, 101]⟩, ty]).length cn) w T N kf a' c' ((w8.setCell ⟨P, 4, none⟩ (.slice (some ⟨w8.heap.size, 0, none⟩) 1 1)).alloc (.cells #[.string ⟨#[117, 114, 110, 58, 105, 101, 116, 102, 58, 112, 97, 114, 97, 109, 115, 58, 120, 109, 108, 58, 110, 115, 58, 120, 109, 112, 112, 45, 115, 116, 97, 110, 122, 97, 115]⟩, .string cd, .slice am 0 cm, .string ⟨#[]⟩, .slice none 0 0] 29))) := HZ5.out.st HB9.out
        have HP9 : Hid (((w8.setCell ⟨P, 4, none⟩ (.slice (some ⟨w8.heap.size, 0, none⟩) 1 1)).alloc (.cells #[.string ⟨#[117, 114, 110, 58, 105, 101, 116, 102, 58, 112, 97, 114, 97, 109, 115, 58, 120, 109, 108, 58, 110, 115, 58, 120, 109, 112, 112, 45, 115, 116, 97, 110, 122, 97, 115]⟩, .string cd, .slice am 0 cm, .string ⟨#[]⟩, .slice none 0 0] 29)).heap[P]? = some (.cells #[.string ⟨#[106, 97, 98, 98, 101, 114, 58, 99, 111, 109, 112, 111, 110, 101, 110, 116, 58, 97, 99, 99, 101, 112, 116]⟩, .string ⟨#[101, 114, 114, 111, 114]⟩, .slice ak nk ck, .string ⟨#[]⟩, .slice (some ⟨w8.heap.size, 0, none⟩) 1 1] 29 (0, 0))) :=
          (Below.heap_alloc _ _ _ (heap_lt (set4 HP8.out))).trans (set4 HP8.out)
        have HE9 : Hid (InS (fun b => w5.heap.size ≤ b) ((w8.setCell ⟨P, 4, none⟩ (.slice (some ⟨w8.heap.size, 0, none⟩) 1 1)).alloc (.cells #[.string ⟨#[117, 114, 110, 58, 105, 101, 116, 102, 58, 112, 97, 114, 97, 109, 115, 58, 120, 109, 108, 58, 110, 115, 58, 120, 109, 112, 112, 45, 115, 116, 97, 110, 122, 97, 115]⟩, .string cd, .slice am 0 cm, .string ⟨#[]⟩, .slice none 0 0] 29)) (errEl cd) (.agg #[.string ⟨#[106, 97, 98, 98, 101, 114, 58, 99, 111, 109, 112, 111, 110, 101, 110, 116, 58, 97, 99, 99, 101, 112, 116]⟩, .string ⟨#[101, 114, 114, 111, 114]⟩, .slice ak nk ck, .string ⟨#[]⟩, .slice (some ⟨w8.heap.size, 0, none⟩) 1 1])) := by
          have hk : ∀ b, b ≠ P → b < w8.heap.size → ((w8.setCell ⟨P, 4, none⟩ (.slice (some ⟨w8.heap.size, 0, none⟩) 1 1)).alloc (.cells #[.string ⟨#[117, 114, 110, 58, 105, 101, 116, 102, 58, 112, 97, 114, 97, 109, 115, 58, 120, 109, 108, 58, 110, 115, 58, 120, 109, 112, 112, 45, 115, 116, 97, 110, 122, 97, 115]⟩, .string cd, .slice am 0 cm, .string ⟨#[]⟩, .slice none 0 0] 29)).heap[b]? = w8.heap[b]? := fun b hb hlt => (Below.heap_alloc _ _ _ (by simp [World.setCell]; omega)).trans (setCell_other hb)
          have e8 : (w8.setCell ⟨P, 4, none⟩ (.slice (some ⟨w8.heap.size, 0, none⟩) 1 1)).heap.size = w8.heap.size := by simp [World.setCell]
          have hbx := box_new (w8.setCell ⟨P, 4, none⟩ (.slice (some ⟨w8.heap.size, 0, none⟩) 1 1)) #[.string ⟨#[117, 114, 110, 58, 105, 101, 116, 102, 58, 112, 97, 114, 97, 109, 115, 58, 120, 109, 108, 58, 110, 115, 58, 120, 109, 112, 112, 45, 115, 116, 97, 110, 122, 97, 115]⟩, .string cd, .slice am 0 cm, .string ⟨#[]⟩, .slice none 0 0] 29
          rw [e8] at hbx
          have hz : Szd ⟨#[106, 97, 98, 98, 101, 114, 58, 99, 111, 109, 112, 111, 110, 101, 110, 116, 58, 97, 99, 99, 101, 112, 116]⟩ ⟨#[101, 114, 114, 111, 114]⟩ ⟨#[]⟩ (newA [⟨#[116, 121, 112, 101]⟩, (kindOfErr cd)]) := by
            have h1 := newA_len [⟨#[116, 121, 112, 101]⟩, (kindOfErr cd)]
            refine ⟨⟨by decide, by decide, by decide, by simp only [List.length_cons, List.length_nil] at h1; omega⟩, fun x hx => ?_⟩
            obtain ⟨h2, h3⟩ := newA_mem hx
            have hkz := kerr_size cd
            have hh : ∀ s ∈ [⟨#[116, 121, 112, 101]⟩, (kindOfErr cd)], s.size ≤ 1048576 := by
              intro s hs
              simp only [List.mem_cons, List.not_mem_nil, or_false] at hs
              rcases hs with rfl | rfl
              · decide
              · omega
            have := hh _ h2
            have := hh _ h3
            omega
          refine ins_one hz ((HA8.out.keep fun b hb hlt => hk b (by omega) hlt).weak fun b _ hb => hb.1) HK8.out hbx ((HI8.out.keep fun b hb hlt => hk b hb.2 hlt).weak fun b _ hb => hb.1)
        go_upto_region 10 with fail
        generalize ((w8.setCell ⟨P, 4, none⟩ (.slice (some ⟨w8.heap.size, 0, none⟩) 1 1)).alloc (.cells #[.string ⟨#[117, 114, 110, 58, 105, 101, 116, 102, 58, 112, 97, 114, 97, 109, 115, 58, 120, 109, 108, 58, 110, 115, 58, 120, 109, 112, 112, 45, 115, 116, 97, 110, 122, 97, 115]⟩, .string cd, .slice am 0 cm, .string ⟨#[]⟩, .slice none 0 0] 29)) = w9 at HB9 HZ9 HP9 HE9 ⊢
        generalize w8.heap.size = K at HP9 HE9 ⊢
        have HL5 : Hid (∀ b, (Value.slice a' kf.length c').ownBlock = some b → b < w5.heap.size) := by
          obtain ⟨xs, hxs, _⟩ := HZ5.out.kr.own
          exact fun b e => heap_lt (own_heap hxs e).2.choose_spec
        have HN5 : Hid (N ≤ w5.heap.size) := HZ5.out.ge
        have hPT : P ≠ T := by have := HZ5.out.lt; have := HZ5.out.ge; omega
        clear HZ5 HB9 HA8 HI8 HB8 HZ8 HP8 hP8 hP5 p0 p1 p2 p3 p4 f4 HK8
        obtain ⟨xs, hxs, hxk⟩ := HZ9.out.kr.own
        have HXS := Lib.hid hxs
        have HXK := Lib.hid hxk
        clear hxs hxk
        have hkf := hkfl
        have h20 : (0 : Int) ≤ (kf.length : Int) := Int.natCast_nonneg _
        have h22 : (kf.length : Int) < (kf.length : Int) + 1 := by omega
        have h21 : (kf.length : Int) < ((kf.length + 1 : Nat) : Int) := by omega
        have hge9 := HZ9.out.ge
        obtain ⟨i0, hi0, hz0, hz1, hz2⟩ := info_parts infoElem
        obtain ⟨y0, y1, y2, y3, y4⟩ := bx5 HZ9.out.tb
        obtain ⟨p0, p1, p2, p3, p4⟩ := bx5 HP9.out
        have y4b := cell_alloc y4 (.cells #[.string ⟨#[]⟩, .string ⟨#[]⟩, .slice none 0 0, .string ⟨#[]⟩, .slice none 0 0] 29)
        have p0b := cell_alloc p0 (.cells #[.string ⟨#[]⟩, .string ⟨#[]⟩, .slice none 0 0, .string ⟨#[]⟩, .slice none 0 0] 29)
        have p1b := cell_alloc p1 (.cells #[.string ⟨#[]⟩, .string ⟨#[]⟩, .slice none 0 0, .string ⟨#[]⟩, .slice none 0 0] 29)
        have p2b := cell_alloc p2 (.cells #[.string ⟨#[]⟩, .string ⟨#[]⟩, .slice none 0 0, .string ⟨#[]⟩, .slice none 0 0] 29)
        have p3b := cell_alloc p3 (.cells #[.string ⟨#[]⟩, .string ⟨#[]⟩, .slice none 0 0, .string ⟨#[]⟩, .slice none 0 0] 29)
        have p4b := cell_alloc p4 (.cells #[.string ⟨#[]⟩, .string ⟨#[]⟩, .slice none 0 0, .string ⟨#[]⟩, .slice none 0 0] 29)
        go_region_law (refine step_append_lies _ (by rfl) _ _ _ (by rfl) N 29 i0 _ 5 96 Tryz.underlying24 hi0 hz0 hz1 hz2 rfl (by omega) (.slice a' kf.length c') kf.length xs (by rfl) (ow_alloc HXS.out _) ⟨w9.heap.size, 0, none⟩ 1 1 [.string ⟨#[]⟩, .string ⟨#[]⟩, .slice none 0 0, .string ⟨#[]⟩, .slice none 0 0] (by rfl) (by rfl) (World.news_of_block (cs := #[.string ⟨#[]⟩, .string ⟨#[]⟩, .slice none 0 0, .string ⟨#[]⟩, .slice none 0 0]) (t := 29) (fr := (0, 0)) (heap_alloc_new w9 _)) (by simp [Value.oneCell']) (by omega) (by unfold maxLen; omega) (by omega) (by simp; omega) (w9.heap.size + 1) (by simp) ?_; intro g cap w5' hown hgrow hat hlt5; have HB45 : Hid (Below w9.heap.size w9 (w9.alloc (.cells #[.string ⟨#[]⟩, .string ⟨#[]⟩, .slice none 0 0, .string ⟨#[]⟩, .slice none 0 0] 29)).drew ∧ (w9.alloc (.cells #[.string ⟨#[]⟩, .string ⟨#[]⟩, .slice none 0 0, .string ⟨#[]⟩, .slice none 0 0] 29)).drew.grownBy w5' (Value.slice a' kf.length c').ownBlock ∧ ((Value.slice a' kf.length c').ownBlock = some g ∨ g = (w9.alloc (.cells #[.string ⟨#[]⟩, .string ⟨#[]⟩, .slice none 0 0, .string ⟨#[]⟩, .slice none 0 0] 29)).drew.heap.size)) := ⟨((Below.refl _ _).alloc (Nat.le_refl _) _).drew, hgrow, (by rcases hat with q | q; exact .inl q; exact .inr (by rw [q]; simp))⟩; clear hgrow hat; obtain ⟨⟨gc0, gc1, gc2, gc3, gc4⟩, gff⟩ := newKid hown HXS.out.1; have gf0 := gff (kf.length * 5); have gf1 := gff (kf.length * 5 + 1); have gf2 := gff (kf.length * 5 + 2); have gf3 := gff (kf.length * 5 + 3); have gf4 := gff (kf.length * 5 + 4); clear gff; have HT5 : Hid (w5'.heap[T]? = _) := (grown_keep HB45.out.1 HB45.out.2.1 HB45.out.2.2 T (heap_lt HZ9.out.tb) (fun e => by have h1 := (own_heap HXS.out e).1; have h2 := HZ9.out.lt.2; omega)).1.trans HZ9.out.tb; have hgT : g ≠ T := (grown_keep HB45.out.1 HB45.out.2.1 HB45.out.2.2 T (heap_lt HZ9.out.tb) (fun e => by have h1 := (own_heap HXS.out e).1; have h2 := HZ9.out.lt.2; omega)).2; have hTg : T ≠ g := Ne.symm hgT; have HP5 : Hid (w5'.heap[P]? = _) := (grown_keep HB45.out.1 HB45.out.2.1 HB45.out.2.2 P (heap_lt HP9.out) (fun e => by have h1 := HL5.out P e; have h2 := HPL.out; omega)).1.trans HP9.out; have hgP : g ≠ P := (grown_keep HB45.out.1 HB45.out.2.1 HB45.out.2.2 P (heap_lt HP9.out) (fun e => by have h1 := HL5.out P e; have h2 := HPL.out; omega)).2; have hPg : P ≠ g := Ne.symm hgP; obtain ⟨k0, k1, k2, k3, k4⟩ := bx5 HT5.out; obtain ⟨m0, m1, m2, m3, m4⟩ := bx5 HP5.out; have l4 := Lib.frozen_of_heap HT5.out 4)
        all_goals
          try rw [set_comm5 hTg]
          have HF : Hid (Wz #[.int .i64 kd, .string ty, .string fn, .string fd, .string fr, .string tn, .string td, .string tr, .string id, .string sh, .string st, .string bd, .slice aL nL cL, .string cd] ⟨#[106, 97, 98, 98, 101, 114, 58, 99, 111, 109, 112, 111, 110, 101, 110, 116, 58, 97, 99, 99, 101, 112, 116]⟩ (nameOf kd) ⟨#[]⟩ (newA [⟨#[102, 114, 111, 109]⟩, (Jn.putB fn fd fr), ⟨#[116, 111]⟩, (Jn.putB tn td tr), ⟨#[105, 100]⟩, id, ⟨#[116, 121, 112, 101]⟩, ty]) (.slice an (newA [⟨#[102, 114, 111, 109]⟩, (Jn.putB fn fd fr), ⟨#[116, 111]⟩, (Jn.putB tn td tr), ⟨#[105, 100]⟩, id, ⟨#[116, 121, 112, 101]⟩, ty]).length cn) w T N (kf ++ [errEl cd]) (some ⟨g, 0, none⟩) cap ((((((w5'.setCell ⟨g, kf.length * 5, none⟩ (.string ⟨#[106, 97, 98, 98, 101, 114, 58, 99, 111, 109, 112, 111, 110, 101, 110, 116, 58, 97, 99, 99, 101, 112, 116]⟩)).setCell ⟨g, kf.length * 5 + 1, none⟩ (.string ⟨#[101, 114, 114, 111, 114]⟩)).setCell ⟨g, kf.length * 5 + 2, none⟩ (.slice ak nk ck)).setCell ⟨g, kf.length * 5 + 3, none⟩ (.string ⟨#[]⟩)).setCell ⟨g, kf.length * 5 + 4, none⟩ (.slice (some ⟨K, 0, none⟩) 1 1)).setCell ⟨T, 4, none⟩ (.slice (some ⟨g, 0, none⟩) (kf.length + 1) cap))) :=
            HZ9.out.add rfl HXS.out HXK.out HB45.out.1 HB45.out.2.1 HB45.out.2.2 HL5.out HN5.out HE9.out hown
          clear hown gc0 gc1 gc2 gc3 gc4 gf0 gf1 gf2 gf3 gf4 k0 k1 k2 k3 k4 m0 m1 m2 m3 m4 l4 y0 y1 y2 y3 y4 y4b p0 p1 p2 p3 p4 p0b p1b p2b p3b p4b HT5 HP5 HB45 HZ9 HP9 HE9 HXS HXK HL5 HN5
          generalize ((((((w5'.setCell ⟨g, kf.length * 5, none⟩ (.string ⟨#[106, 97, 98, 98, 101, 114, 58, 99, 111, 109, 112, 111, 110, 101, 110, 116, 58, 97, 99, 99, 101, 112, 116]⟩)).setCell ⟨g, kf.length * 5 + 1, none⟩ (.string ⟨#[101, 114, 114, 111, 114]⟩)).setCell ⟨g, kf.length * 5 + 2, none⟩ (.slice ak nk ck)).setCell ⟨g, kf.length * 5 + 3, none⟩ (.string ⟨#[]⟩)).setCell ⟨g, kf.length * 5 + 4, none⟩ (.slice (some ⟨K, 0, none⟩) 1 1)).setCell ⟨T, 4, none⟩ (.slice (some ⟨g, 0, none⟩) (kf.length + 1) cap)) = w6' at HF ⊢
          have HK2 : Hid (kf ++ [errEl cd] = ((say kShow sh ++ say kStat st) ++ say kBody bd) ++ ld ++ errs cd) := by show _ = _; rw [HER.out, HKF.out]
          generalize kf ++ [errEl cd] = kf2 at HF HK2
          obtain ⟨y0, y1, y2, y3, y4⟩ := bx5 HF.out.tb
          obtain ⟨q0, q1, q2, q3, q4⟩ := bx5 HF.out.rb
          have r0 := Lib.frozen_of_heap HF.out.rb 0
          have r1 := Lib.frozen_of_heap HF.out.rb 1
          have r2 := Lib.frozen_of_heap HF.out.rb 2
          have r3 := Lib.frozen_of_heap HF.out.rb 3
          have r4 := Lib.frozen_of_heap HF.out.rb 4
          go_wp2_with fail
          exact bodyPost_ret (v := .agg #[.string ⟨#[106, 97, 98, 98, 101, 114, 58, 99, 111, 109, 112, 111, 110, 101, 110, 116, 58, 97, 99, 99, 101, 112, 116]⟩, .string (nameOf kd), .slice an (newA [⟨#[102, 114, 111, 109]⟩, (Jn.putB fn fd fr), ⟨#[116, 111]⟩, (Jn.putB tn td tr), ⟨#[105, 100]⟩, id, ⟨#[116, 121, 112, 101]⟩, ty]).length cn, .string ⟨#[]⟩, .slice (some ⟨g, 0, none⟩) (kf2.length) cap]) (by simp [results, Tryz.results12, go_sem, q0, q1, q2, q3, q4]) rfl (HEND.out _ _ _ _ _ rfl HK2.out HF.out)
end Go.Proofs.YtccpdfcmhggleaaGreatDoor
