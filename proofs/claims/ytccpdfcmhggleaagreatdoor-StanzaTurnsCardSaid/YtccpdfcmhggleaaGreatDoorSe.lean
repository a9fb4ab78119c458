/- Contracts of stanza's isAddressed, hasType, hasTexts, hasLoad. Condition: texts have at most 1048576 bytes; the elements are not too much. -/
import Derived.Test.YtccpdfcmhggleaaGreatDoorSd
namespace Go.Proofs.YtccpdfcmhggleaaGreatDoor
open Go.RowKit Go.Lib Go.Shelf Tg St

theorem isAddressed_any (kd : Int) (ty fn fd fr tn td tr id sh st bd cd : ByteArray) (aL : Option Addr) (nL cL : Nat) (w : World) (h1 : fn.size ≤ 1048576) (h2 : fd.size ≤ 1048576) (h3 : fr.size ≤ 1048576) (h4 : tn.size ≤ 1048576) (h5 : td.size ≤ 1048576) (h6 : tr.size ≤ 1048576) :
    Calls Tryz.prog 22 #[.agg #[.int .i64 kd, .string ty, .string fn, .string fd, .string fr, .string tn, .string td, .string tr, .string id, .string sh, .string st, .string bd, .slice aL nL cL, .string cd]] w fun e w' => e = .returned (.bool (Jd.ok (Jn.jd fn fd fr) && Jd.ok (Jn.jd tn td tr))) ∧ Below w.heap.size w w' := by
  have C1 := Lib.hid (fun W => Jn.check_any fn fd fr W h1 h2 h3)
  have C2 := Lib.hid (fun W => Jn.check_any tn td tr W h4 h5 h6)
  have HB0 : Hid (Below w.heap.size w (w.alloc (.cells #[.int .i64 kd, .string ty, .string fn, .string fd, .string fr, .string tn, .string td, .string tr, .string id, .string sh, .string st, .string bd, .slice aL nL cL, .string cd] 26))) := st_box w _ _
  have HX0 := Lib.hid (box_new w #[.int .i64 kd, .string ty, .string fn, .string fd, .string fr, .string tn, .string td, .string tr, .string id, .string sh, .string st, .string bd, .slice aL nL cL, .string cd] 26)
  clear h1 h2 h3 h4 h5 h6
  generalize Jd.ok (Jn.jd fn fd fr) = b1 at C1
  generalize Jd.ok (Jn.jd tn td tr) = b2 at C2
  unfold Jn.cd at C1 C2
  cases b1 with
  | false =>
    go_enter Tryz.func22, Tryz.ntmps22
    go_wp2_with fail
    refine (C1.out _).mono ?_
    rintro r w1 ⟨rfl, hb⟩
    have HB := Lib.hid (more HB0.out (Nat.le_refl _) hb)
    clear hb
    go_wp2_with fail
    go_ret
    exact ⟨rfl, HB.out⟩
  | true =>
    cases b2 <;>
    · go_enter Tryz.func22, Tryz.ntmps22
      go_wp2_with fail
      refine (C1.out _).mono ?_
      rintro r w1 ⟨rfl, hb⟩
      have HB := Lib.hid (more HB0.out (Nat.le_refl _) hb)
      obtain ⟨x0, x1, x2, x3, x4, x5, x6, x7, x8, x9, x10, x11, x12, x13⟩ := bx14 ((hb.block _ (heap_lt HX0.out)).trans HX0.out)
      clear hb
      go_wp2_with fail
      refine (C2.out _).mono ?_
      rintro r w2 ⟨rfl, hb⟩
      have HB2 := Lib.hid (more HB.out (Nat.le_refl _) hb)
      clear hb
      go_wp2_with fail
      go_ret
      exact ⟨rfl, HB2.out⟩
set_option maxRecDepth 100000 in
set_option maxHeartbeats 4000000 in
theorem hasType_any (kd : Int) (ty fn fd fr tn td tr id sh st bd cd : ByteArray) (aL : Option Addr) (nL cL : Nat) (w : World) :
    Calls Tryz.prog 23 #[.agg #[.int .i64 kd, .string ty, .string fn, .string fd, .string fr, .string tn, .string td, .string tr, .string id, .string sh, .string st, .string bd, .slice aL nL cL, .string cd]] w fun e w' => e = .returned (.bool (inB ty (types kd))) ∧ Below w.heap.size w w' := by
  by_cases h1 : kd = 1
  · subst h1
    have HL : Hid (types 1 = [⟨#[]⟩, ⟨#[117, 110, 97, 118, 97, 105, 108, 97, 98, 108, 101]⟩, ⟨#[115, 117, 98, 115, 99, 114, 105, 98, 101]⟩, ⟨#[115, 117, 98, 115, 99, 114, 105, 98, 101, 100]⟩, ⟨#[117, 110, 115, 117, 98, 115, 99, 114, 105, 98, 101]⟩, ⟨#[117, 110, 115, 117, 98, 115, 99, 114, 105, 98, 101, 100]⟩, ⟨#[112, 114, 111, 98, 101]⟩, ⟨#[101, 114, 114, 111, 114]⟩]) := rfl
    have HB0 : Hid (Below w.heap.size w ((w.alloc (.cells #[.int .i64 1, .string ty, .string fn, .string fd, .string fr, .string tn, .string td, .string tr, .string id, .string sh, .string st, .string bd, .slice aL nL cL, .string cd] 26)).alloc (.cells #[.string ⟨#[]⟩, .string ⟨#[117, 110, 97, 118, 97, 105, 108, 97, 98, 108, 101]⟩, .string ⟨#[115, 117, 98, 115, 99, 114, 105, 98, 101]⟩, .string ⟨#[115, 117, 98, 115, 99, 114, 105, 98, 101, 100]⟩, .string ⟨#[117, 110, 115, 117, 98, 115, 99, 114, 105, 98, 101]⟩, .string ⟨#[117, 110, 115, 117, 98, 115, 99, 114, 105, 98, 101, 100]⟩, .string ⟨#[112, 114, 111, 98, 101]⟩, .string ⟨#[101, 114, 114, 111, 114]⟩] 9))) := ((Below.refl _ w).alloc (Nat.le_refl _) _).alloc (by simp) _
    have HC : Hid (Calls Tryz.prog 48 #[.slice (some ⟨w.heap.size + 1, 0, none⟩) 8 8, .string ty] ((w.alloc (.cells #[.int .i64 1, .string ty, .string fn, .string fd, .string fr, .string tn, .string td, .string tr, .string id, .string sh, .string st, .string bd, .slice aL nL cL, .string cd] 26)).alloc (.cells #[.string ⟨#[]⟩, .string ⟨#[117, 110, 97, 118, 97, 105, 108, 97, 98, 108, 101]⟩, .string ⟨#[115, 117, 98, 115, 99, 114, 105, 98, 101]⟩, .string ⟨#[115, 117, 98, 115, 99, 114, 105, 98, 101, 100]⟩, .string ⟨#[117, 110, 115, 117, 98, 115, 99, 114, 105, 98, 101]⟩, .string ⟨#[117, 110, 115, 117, 98, 115, 99, 114, 105, 98, 101, 100]⟩, .string ⟨#[112, 114, 111, 98, 101]⟩, .string ⟨#[101, 114, 114, 111, 114]⟩] 9)) fun e w' => e = .returned (.bool (inB ty (types 1))) ∧ Below ((w.alloc (.cells #[.int .i64 1, .string ty, .string fn, .string fd, .string fr, .string tn, .string td, .string tr, .string id, .string sh, .string st, .string bd, .slice aL nL cL, .string cd] 26)).alloc (.cells #[.string ⟨#[]⟩, .string ⟨#[117, 110, 97, 118, 97, 105, 108, 97, 98, 108, 101]⟩, .string ⟨#[115, 117, 98, 115, 99, 114, 105, 98, 101]⟩, .string ⟨#[115, 117, 98, 115, 99, 114, 105, 98, 101, 100]⟩, .string ⟨#[117, 110, 115, 117, 98, 115, 99, 114, 105, 98, 101]⟩, .string ⟨#[117, 110, 115, 117, 98, 115, 99, 114, 105, 98, 101, 100]⟩, .string ⟨#[112, 114, 111, 98, 101]⟩, .string ⟨#[101, 114, 114, 111, 114]⟩] 9)).heap.size ((w.alloc (.cells #[.int .i64 1, .string ty, .string fn, .string fd, .string fr, .string tn, .string td, .string tr, .string id, .string sh, .string st, .string bd, .slice aL nL cL, .string cd] 26)).alloc (.cells #[.string ⟨#[]⟩, .string ⟨#[117, 110, 97, 118, 97, 105, 108, 97, 98, 108, 101]⟩, .string ⟨#[115, 117, 98, 115, 99, 114, 105, 98, 101]⟩, .string ⟨#[115, 117, 98, 115, 99, 114, 105, 98, 101, 100]⟩, .string ⟨#[117, 110, 115, 117, 98, 115, 99, 114, 105, 98, 101]⟩, .string ⟨#[117, 110, 115, 117, 98, 115, 99, 114, 105, 98, 101, 100]⟩, .string ⟨#[112, 114, 111, 98, 101]⟩, .string ⟨#[101, 114, 114, 111, 114]⟩] 9)) w') := by
      have hs := strs_new (w.alloc (.cells #[.int .i64 1, .string ty, .string fn, .string fd, .string fr, .string tn, .string td, .string tr, .string id, .string sh, .string st, .string bd, .slice aL nL cL, .string cd] 26)) [⟨#[]⟩, ⟨#[117, 110, 97, 118, 97, 105, 108, 97, 98, 108, 101]⟩, ⟨#[115, 117, 98, 115, 99, 114, 105, 98, 101]⟩, ⟨#[115, 117, 98, 115, 99, 114, 105, 98, 101, 100]⟩, ⟨#[117, 110, 115, 117, 98, 115, 99, 114, 105, 98, 101]⟩, ⟨#[117, 110, 115, 117, 98, 115, 99, 114, 105, 98, 101, 100]⟩, ⟨#[112, 114, 111, 98, 101]⟩, ⟨#[101, 114, 114, 111, 114]⟩] 9
      have e1 : (w.alloc (.cells #[.int .i64 1, .string ty, .string fn, .string fd, .string fr, .string tn, .string td, .string tr, .string id, .string sh, .string st, .string bd, .slice aL nL cL, .string cd] 26)).heap.size = w.heap.size + 1 := by simp
      rw [e1] at hs
      exact contains_str [⟨#[]⟩, ⟨#[117, 110, 97, 118, 97, 105, 108, 97, 98, 108, 101]⟩, ⟨#[115, 117, 98, 115, 99, 114, 105, 98, 101]⟩, ⟨#[115, 117, 98, 115, 99, 114, 105, 98, 101, 100]⟩, ⟨#[117, 110, 115, 117, 98, 115, 99, 114, 105, 98, 101]⟩, ⟨#[117, 110, 115, 117, 98, 115, 99, 114, 105, 98, 101, 100]⟩, ⟨#[112, 114, 111, 98, 101]⟩, ⟨#[101, 114, 114, 111, 114]⟩] ty _ 8 _ (by decide) hs
    generalize inB ty (types 1) = b at HC
    clear HL
    go_enter Tryz.func23, Tryz.ntmps23
    go_wp2_with fail
    refine HC.out.mono ?_
    rintro r w1 ⟨rfl, hb⟩
    have HB := Lib.hid (HB0.out.trans (hb.mono HB0.out.size))
    clear hb
    go_wp2_with fail
    go_ret
    exact ⟨rfl, HB.out⟩
  by_cases h2 : kd = 2
  · subst h2
    have HL : Hid (types 2 = [⟨#[]⟩, ⟨#[99, 104, 97, 116]⟩, ⟨#[110, 111, 114, 109, 97, 108]⟩, ⟨#[104, 101, 97, 100, 108, 105, 110, 101]⟩, ⟨#[101, 114, 114, 111, 114]⟩]) := rfl
    have HB0 : Hid (Below w.heap.size w ((w.alloc (.cells #[.int .i64 2, .string ty, .string fn, .string fd, .string fr, .string tn, .string td, .string tr, .string id, .string sh, .string st, .string bd, .slice aL nL cL, .string cd] 26)).alloc (.cells #[.string ⟨#[]⟩, .string ⟨#[99, 104, 97, 116]⟩, .string ⟨#[110, 111, 114, 109, 97, 108]⟩, .string ⟨#[104, 101, 97, 100, 108, 105, 110, 101]⟩, .string ⟨#[101, 114, 114, 111, 114]⟩] 9))) := ((Below.refl _ w).alloc (Nat.le_refl _) _).alloc (by simp) _
    have HC : Hid (Calls Tryz.prog 48 #[.slice (some ⟨w.heap.size + 1, 0, none⟩) 5 5, .string ty] ((w.alloc (.cells #[.int .i64 2, .string ty, .string fn, .string fd, .string fr, .string tn, .string td, .string tr, .string id, .string sh, .string st, .string bd, .slice aL nL cL, .string cd] 26)).alloc (.cells #[.string ⟨#[]⟩, .string ⟨#[99, 104, 97, 116]⟩, .string ⟨#[110, 111, 114, 109, 97, 108]⟩, .string ⟨#[104, 101, 97, 100, 108, 105, 110, 101]⟩, .string ⟨#[101, 114, 114, 111, 114]⟩] 9)) fun e w' => e = .returned (.bool (inB ty (types 2))) ∧ Below ((w.alloc (.cells #[.int .i64 2, .string ty, .string fn, .string fd, .string fr, .string tn, .string td, .string tr, .string id, .string sh, .string st, .string bd, .slice aL nL cL, .string cd] 26)).alloc (.cells #[.string ⟨#[]⟩, .string ⟨#[99, 104, 97, 116]⟩, .string ⟨#[110, 111, 114, 109, 97, 108]⟩, .string ⟨#[104, 101, 97, 100, 108, 105, 110, 101]⟩, .string ⟨#[101, 114, 114, 111, 114]⟩] 9)).heap.size ((w.alloc (.cells #[.int .i64 2, .string ty, .string fn, .string fd, .string fr, .string tn, .string td, .string tr, .string id, .string sh, .string st, .string bd, .slice aL nL cL, .string cd] 26)).alloc (.cells #[.string ⟨#[]⟩, .string ⟨#[99, 104, 97, 116]⟩, .string ⟨#[110, 111, 114, 109, 97, 108]⟩, .string ⟨#[104, 101, 97, 100, 108, 105, 110, 101]⟩, .string ⟨#[101, 114, 114, 111, 114]⟩] 9)) w') := by
      have hs := strs_new (w.alloc (.cells #[.int .i64 2, .string ty, .string fn, .string fd, .string fr, .string tn, .string td, .string tr, .string id, .string sh, .string st, .string bd, .slice aL nL cL, .string cd] 26)) [⟨#[]⟩, ⟨#[99, 104, 97, 116]⟩, ⟨#[110, 111, 114, 109, 97, 108]⟩, ⟨#[104, 101, 97, 100, 108, 105, 110, 101]⟩, ⟨#[101, 114, 114, 111, 114]⟩] 9
      have e1 : (w.alloc (.cells #[.int .i64 2, .string ty, .string fn, .string fd, .string fr, .string tn, .string td, .string tr, .string id, .string sh, .string st, .string bd, .slice aL nL cL, .string cd] 26)).heap.size = w.heap.size + 1 := by simp
      rw [e1] at hs
      exact contains_str [⟨#[]⟩, ⟨#[99, 104, 97, 116]⟩, ⟨#[110, 111, 114, 109, 97, 108]⟩, ⟨#[104, 101, 97, 100, 108, 105, 110, 101]⟩, ⟨#[101, 114, 114, 111, 114]⟩] ty _ 5 _ (by decide) hs
    generalize inB ty (types 2) = b at HC
    clear HL
    go_enter Tryz.func23, Tryz.ntmps23
    go_wp2_with fail
    refine HC.out.mono ?_
    rintro r w1 ⟨rfl, hb⟩
    have HB := Lib.hid (HB0.out.trans (hb.mono HB0.out.size))
    clear hb
    go_wp2_with fail
    go_ret
    exact ⟨rfl, HB.out⟩
  by_cases h3 : kd = 3
  · subst h3
    have HL : Hid (types 3 = [⟨#[103, 101, 116]⟩, ⟨#[115, 101, 116]⟩, ⟨#[114, 101, 115, 117, 108, 116]⟩, ⟨#[101, 114, 114, 111, 114]⟩]) := rfl
    have HB0 : Hid (Below w.heap.size w ((w.alloc (.cells #[.int .i64 3, .string ty, .string fn, .string fd, .string fr, .string tn, .string td, .string tr, .string id, .string sh, .string st, .string bd, .slice aL nL cL, .string cd] 26)).alloc (.cells #[.string ⟨#[103, 101, 116]⟩, .string ⟨#[115, 101, 116]⟩, .string ⟨#[114, 101, 115, 117, 108, 116]⟩, .string ⟨#[101, 114, 114, 111, 114]⟩] 9))) := ((Below.refl _ w).alloc (Nat.le_refl _) _).alloc (by simp) _
    have HC : Hid (Calls Tryz.prog 48 #[.slice (some ⟨w.heap.size + 1, 0, none⟩) 4 4, .string ty] ((w.alloc (.cells #[.int .i64 3, .string ty, .string fn, .string fd, .string fr, .string tn, .string td, .string tr, .string id, .string sh, .string st, .string bd, .slice aL nL cL, .string cd] 26)).alloc (.cells #[.string ⟨#[103, 101, 116]⟩, .string ⟨#[115, 101, 116]⟩, .string ⟨#[114, 101, 115, 117, 108, 116]⟩, .string ⟨#[101, 114, 114, 111, 114]⟩] 9)) fun e w' => e = .returned (.bool (inB ty (types 3))) ∧ Below ((w.alloc (.cells #[.int .i64 3, .string ty, .string fn, .string fd, .string fr, .string tn, .string td, .string tr, .string id, .string sh, .string st, .string bd, .slice aL nL cL, .string cd] 26)).alloc (.cells #[.string ⟨#[103, 101, 116]⟩, .string ⟨#[115, 101, 116]⟩, .string ⟨#[114, 101, 115, 117, 108, 116]⟩, .string ⟨#[101, 114, 114, 111, 114]⟩] 9)).heap.size ((w.alloc (.cells #[.int .i64 3, .string ty, .string fn, .string fd, .string fr, .string tn, .string td, .string tr, .string id, .string sh, .string st, .string bd, .slice aL nL cL, .string cd] 26)).alloc (.cells #[.string ⟨#[103, 101, 116]⟩, .string ⟨#[115, 101, 116]⟩, .string ⟨#[114, 101, 115, 117, 108, 116]⟩, .string ⟨#[101, 114, 114, 111, 114]⟩] 9)) w') := by
      have hs := strs_new (w.alloc (.cells #[.int .i64 3, .string ty, .string fn, .string fd, .string fr, .string tn, .string td, .string tr, .string id, .string sh, .string st, .string bd, .slice aL nL cL, .string cd] 26)) [⟨#[103, 101, 116]⟩, ⟨#[115, 101, 116]⟩, ⟨#[114, 101, 115, 117, 108, 116]⟩, ⟨#[101, 114, 114, 111, 114]⟩] 9
      have e1 : (w.alloc (.cells #[.int .i64 3, .string ty, .string fn, .string fd, .string fr, .string tn, .string td, .string tr, .string id, .string sh, .string st, .string bd, .slice aL nL cL, .string cd] 26)).heap.size = w.heap.size + 1 := by simp
      rw [e1] at hs
      exact contains_str [⟨#[103, 101, 116]⟩, ⟨#[115, 101, 116]⟩, ⟨#[114, 101, 115, 117, 108, 116]⟩, ⟨#[101, 114, 114, 111, 114]⟩] ty _ 4 _ (by decide) hs
    generalize inB ty (types 3) = b at HC
    clear HL
    go_enter Tryz.func23, Tryz.ntmps23
    go_wp2_with fail
    refine HC.out.mono ?_
    rintro r w1 ⟨rfl, hb⟩
    have HB := Lib.hid (HB0.out.trans (hb.mono HB0.out.size))
    clear hb
    go_wp2_with fail
    go_ret
    exact ⟨rfl, HB.out⟩
  have HE : Hid (inB ty (types kd) = false) := by show _ = _; unfold types; rw [if_neg h1, if_neg h2, if_neg h3]; rfl
  have k1 : (kd == 1) = false := beq_eq_false_iff_ne.2 h1
  have k2 : (kd == 2) = false := beq_eq_false_iff_ne.2 h2
  have k3 : (kd == 3) = false := beq_eq_false_iff_ne.2 h3
  have HB0 : Hid (Below w.heap.size w (w.alloc (.cells #[.int .i64 kd, .string ty, .string fn, .string fd, .string fr, .string tn, .string td, .string tr, .string id, .string sh, .string st, .string bd, .slice aL nL cL, .string cd] 26))) := st_box w _ _
  have HC := Lib.hid (fun W => contains_str [] ty none 0 W (by decide) (fun i h => by cases h))
  clear h1 h2 h3
  go_enter Tryz.func23, Tryz.ntmps23
  go_wp2_with fail
  refine (HC.out _).mono ?_
  rintro r w1 ⟨rfl, hb⟩
  have HB := Lib.hid (more HB0.out (Nat.le_refl _) hb)
  clear hb
  go_wp2_with fail
  go_ret
  exact ⟨by rw [HE.out]; rfl, HB.out⟩
/-- What hasTexts tells. -/
noncomputable def txsB (kd : Int) (ty id sh st bd : ByteArray) : Bool :=
  !(decide (kd = 3) && eqb id E0) && (txtB id 256 && (eqb sh E0 || (decide (kd = 1) && eqb ty E0) && showB sh) && (eqb st E0 || decide (kd = 1) && txtB st 4096) && (eqb bd E0 || decide (kd = 2) && txtB bd 4096))
set_option maxRecDepth 100000 in
set_option maxHeartbeats 40000000 in
theorem hasTexts_f (kd : Int) (ty fn fd fr tn td tr id sh st bd cd : ByteArray) (aL : Option Addr) (nL cL : Nat) (w : World) (h1 : id.size ≤ 1048576) (h2 : st.size ≤ 1048576) (h3 : bd.size ≤ 1048576) (hk : decide (kd = 3) = false) :
    Calls Tryz.prog 24 #[.agg #[.int .i64 kd, .string ty, .string fn, .string fd, .string fr, .string tn, .string td, .string tr, .string id, .string sh, .string st, .string bd, .slice aL nL cL, .string cd]] w fun e w' => e = .returned (.bool (txsB kd ty id sh st bd)) ∧ Below w.heap.size w w' := by
  have HB0 : Hid (Below w.heap.size w (w.alloc (.cells #[.int .i64 kd, .string ty, .string fn, .string fd, .string fr, .string tn, .string td, .string tr, .string id, .string sh, .string st, .string bd, .slice aL nL cL, .string cd] 26))) := st_box w _ _
  have HX0 := Lib.hid (box_new w #[.int .i64 kd, .string ty, .string fn, .string fd, .string fr, .string tn, .string td, .string tr, .string id, .string sh, .string st, .string bd, .slice aL nL cL, .string cd] 26)
  have CI := Lib.hid (fun W => stText_any id 256 W h1)
  have CM := Lib.hid (fun W => mayShow_any kd ty fn fd fr tn td tr id sh st bd cd aL nL cL W)
  have CW := Lib.hid (fun W => isShow_any sh W)
  have CP := Lib.hid (fun W => mayStatus_any kd ty fn fd fr tn td tr id sh st bd cd aL nL cL W)
  have CS := Lib.hid (fun W => stText_any st 4096 W h2)
  have CB := Lib.hid (fun W => mayBody_any kd ty fn fd fr tn td tr id sh st bd cd aL nL cL W)
  have CD := Lib.hid (fun W => stText_any bd 4096 W h3)
  unfold txsB
  have g3 : (kd == 3) = decide (kd = 3) := rfl
  have gs : sh.toList.isEmpty = eqb sh E0 := (eqb_E0 sh).symm
  have gt : st.toList.isEmpty = eqb st E0 := (eqb_E0 st).symm
  have gb : bd.toList.isEmpty = eqb bd E0 := (eqb_E0 bd).symm
  rw [hk] at g3 ⊢
  clear hk
  simp only [Bool.false_and, Bool.not_false, Bool.true_and]
  generalize eqb sh E0 = es at gs ⊢
  generalize eqb st E0 = et at gt ⊢
  generalize eqb bd E0 = eb at gb ⊢
  generalize txtB id 256 = ti at CI ⊢
  generalize txtB st 4096 = ts at CS ⊢
  generalize txtB bd 4096 = tb at CD ⊢
  generalize showB sh = ws at CW ⊢
  generalize (decide (kd = 1) && eqb ty E0) = ms at CM ⊢
  generalize decide (kd = 1) = p1 at CP ⊢
  generalize decide (kd = 2) = p2 at CB ⊢
  clear h1 h2 h3
  go_enter Tryz.func24, Tryz.ntmps24
  go_wp2_with fail
  refine (CI.out _).mono ?_
  rintro r wq1 ⟨rfl, hb⟩
  have HB1 := Lib.hid (more HB0.out (Nat.le_refl _) hb)
  have HX1 := Lib.hid ((hb.block _ (heap_lt HX0.out)).trans HX0.out)
  obtain ⟨x0, x1, x2, x3, x4, x5, x6, x7, x8, x9, x10, x11, x12, x13⟩ := bx14 HX1.out
  clear hb
  cases ti with
  | true =>
    cases es with
    | true =>
      cases et with
      | true =>
        cases eb with
        | true =>
          go_wp2_with fail
          go_ret
          exact ⟨rfl, HB1.out⟩
        | false =>
          go_wp2_with fail
          refine (CB.out _).mono ?_
          rintro r wq4 ⟨rfl, hb⟩
          clear x0 x1 x2 x3 x4 x5 x6 x7 x8 x9 x10 x11 x12 x13
          have HB4 := Lib.hid (more HB1.out (Nat.le_refl _) hb)
          have HX4 := Lib.hid ((hb.block _ (heap_lt HX1.out)).trans HX1.out)
          obtain ⟨x0, x1, x2, x3, x4, x5, x6, x7, x8, x9, x10, x11, x12, x13⟩ := bx14 HX4.out
          clear hb
          cases p2 with
          | true =>
            go_wp2_with fail
            refine (CD.out _).mono ?_
            rintro r wq5 ⟨rfl, hb⟩
            clear x0 x1 x2 x3 x4 x5 x6 x7 x8 x9 x10 x11 x12 x13
            have HB5 := Lib.hid (more HB4.out (Nat.le_refl _) hb)
            have HX5 := Lib.hid ((hb.block _ (heap_lt HX4.out)).trans HX4.out)
            obtain ⟨x0, x1, x2, x3, x4, x5, x6, x7, x8, x9, x10, x11, x12, x13⟩ := bx14 HX5.out
            clear hb
            cases tb with
            | true =>
              go_wp2_with fail
              go_ret
              exact ⟨rfl, HB5.out⟩
            | false =>
              go_wp2_with fail
              go_ret
              exact ⟨rfl, HB5.out⟩
          | false =>
            go_wp2_with fail
            go_ret
            exact ⟨rfl, HB4.out⟩
      | false =>
        go_wp2_with fail
        refine (CP.out _).mono ?_
        rintro r wq6 ⟨rfl, hb⟩
        clear x0 x1 x2 x3 x4 x5 x6 x7 x8 x9 x10 x11 x12 x13
        have HB6 := Lib.hid (more HB1.out (Nat.le_refl _) hb)
        have HX6 := Lib.hid ((hb.block _ (heap_lt HX1.out)).trans HX1.out)
        obtain ⟨x0, x1, x2, x3, x4, x5, x6, x7, x8, x9, x10, x11, x12, x13⟩ := bx14 HX6.out
        clear hb
        cases p1 with
        | true =>
          go_wp2_with fail
          refine (CS.out _).mono ?_
          rintro r wq7 ⟨rfl, hb⟩
          clear x0 x1 x2 x3 x4 x5 x6 x7 x8 x9 x10 x11 x12 x13
          have HB7 := Lib.hid (more HB6.out (Nat.le_refl _) hb)
          have HX7 := Lib.hid ((hb.block _ (heap_lt HX6.out)).trans HX6.out)
          obtain ⟨x0, x1, x2, x3, x4, x5, x6, x7, x8, x9, x10, x11, x12, x13⟩ := bx14 HX7.out
          clear hb
          cases ts with
          | true =>
            cases eb with
            | true =>
              go_wp2_with fail
              go_ret
              exact ⟨rfl, HB7.out⟩
            | false =>
              go_wp2_with fail
              refine (CB.out _).mono ?_
              rintro r wq8 ⟨rfl, hb⟩
              clear x0 x1 x2 x3 x4 x5 x6 x7 x8 x9 x10 x11 x12 x13
              have HB8 := Lib.hid (more HB7.out (Nat.le_refl _) hb)
              have HX8 := Lib.hid ((hb.block _ (heap_lt HX7.out)).trans HX7.out)
              obtain ⟨x0, x1, x2, x3, x4, x5, x6, x7, x8, x9, x10, x11, x12, x13⟩ := bx14 HX8.out
              clear hb
              cases p2 with
              | true =>
                go_wp2_with fail
                refine (CD.out _).mono ?_
                rintro r wq9 ⟨rfl, hb⟩
                clear x0 x1 x2 x3 x4 x5 x6 x7 x8 x9 x10 x11 x12 x13
                have HB9 := Lib.hid (more HB8.out (Nat.le_refl _) hb)
                have HX9 := Lib.hid ((hb.block _ (heap_lt HX8.out)).trans HX8.out)
                obtain ⟨x0, x1, x2, x3, x4, x5, x6, x7, x8, x9, x10, x11, x12, x13⟩ := bx14 HX9.out
                clear hb
                cases tb with
                | true =>
                  go_wp2_with fail
                  go_ret
                  exact ⟨rfl, HB9.out⟩
                | false =>
                  go_wp2_with fail
                  go_ret
                  exact ⟨rfl, HB9.out⟩
              | false =>
                go_wp2_with fail
                go_ret
                exact ⟨rfl, HB8.out⟩
          | false =>
            go_wp2_with fail
            go_ret
            exact ⟨rfl, HB7.out⟩
        | false =>
          go_wp2_with fail
          go_ret
          exact ⟨rfl, HB6.out⟩
    | false =>
      go_wp2_with fail
      refine (CM.out _).mono ?_
      rintro r wq2 ⟨rfl, hb⟩
      clear x0 x1 x2 x3 x4 x5 x6 x7 x8 x9 x10 x11 x12 x13
      have HB2 := Lib.hid (more HB1.out (Nat.le_refl _) hb)
      have HX2 := Lib.hid ((hb.block _ (heap_lt HX1.out)).trans HX1.out)
      obtain ⟨x0, x1, x2, x3, x4, x5, x6, x7, x8, x9, x10, x11, x12, x13⟩ := bx14 HX2.out
      clear hb
      cases ms with
      | true =>
        go_wp2_with fail
        refine (CW.out _).mono ?_
        rintro r wq3 ⟨rfl, rfl⟩
        cases ws with
        | true =>
          cases et with
          | true =>
            cases eb with
            | true =>
              go_wp2_with fail
              go_ret
              exact ⟨rfl, HB2.out⟩
            | false =>
              go_wp2_with fail
              refine (CB.out _).mono ?_
              rintro r wq10 ⟨rfl, hb⟩
              clear x0 x1 x2 x3 x4 x5 x6 x7 x8 x9 x10 x11 x12 x13
              have HB10 := Lib.hid (more HB2.out (Nat.le_refl _) hb)
              have HX10 := Lib.hid ((hb.block _ (heap_lt HX2.out)).trans HX2.out)
              obtain ⟨x0, x1, x2, x3, x4, x5, x6, x7, x8, x9, x10, x11, x12, x13⟩ := bx14 HX10.out
              clear hb
              cases p2 with
              | true =>
                go_wp2_with fail
                refine (CD.out _).mono ?_
                rintro r wq11 ⟨rfl, hb⟩
                clear x0 x1 x2 x3 x4 x5 x6 x7 x8 x9 x10 x11 x12 x13
                have HB11 := Lib.hid (more HB10.out (Nat.le_refl _) hb)
                have HX11 := Lib.hid ((hb.block _ (heap_lt HX10.out)).trans HX10.out)
                obtain ⟨x0, x1, x2, x3, x4, x5, x6, x7, x8, x9, x10, x11, x12, x13⟩ := bx14 HX11.out
                clear hb
                cases tb with
                | true =>
                  go_wp2_with fail
                  go_ret
                  exact ⟨rfl, HB11.out⟩
                | false =>
                  go_wp2_with fail
                  go_ret
                  exact ⟨rfl, HB11.out⟩
              | false =>
                go_wp2_with fail
                go_ret
                exact ⟨rfl, HB10.out⟩
          | false =>
            go_wp2_with fail
            refine (CP.out _).mono ?_
            rintro r wq12 ⟨rfl, hb⟩
            clear x0 x1 x2 x3 x4 x5 x6 x7 x8 x9 x10 x11 x12 x13
            have HB12 := Lib.hid (more HB2.out (Nat.le_refl _) hb)
            have HX12 := Lib.hid ((hb.block _ (heap_lt HX2.out)).trans HX2.out)
            obtain ⟨x0, x1, x2, x3, x4, x5, x6, x7, x8, x9, x10, x11, x12, x13⟩ := bx14 HX12.out
            clear hb
            cases p1 with
            | true =>
              go_wp2_with fail
              refine (CS.out _).mono ?_
              rintro r wq13 ⟨rfl, hb⟩
              clear x0 x1 x2 x3 x4 x5 x6 x7 x8 x9 x10 x11 x12 x13
              have HB13 := Lib.hid (more HB12.out (Nat.le_refl _) hb)
              have HX13 := Lib.hid ((hb.block _ (heap_lt HX12.out)).trans HX12.out)
              obtain ⟨x0, x1, x2, x3, x4, x5, x6, x7, x8, x9, x10, x11, x12, x13⟩ := bx14 HX13.out
              clear hb
              cases ts with
              | true =>
                cases eb with
                | true =>
                  go_wp2_with fail
                  go_ret
                  exact ⟨rfl, HB13.out⟩
                | false =>
                  go_wp2_with fail
                  refine (CB.out _).mono ?_
                  rintro r wq14 ⟨rfl, hb⟩
                  clear x0 x1 x2 x3 x4 x5 x6 x7 x8 x9 x10 x11 x12 x13
                  have HB14 := Lib.hid (more HB13.out (Nat.le_refl _) hb)
                  have HX14 := Lib.hid ((hb.block _ (heap_lt HX13.out)).trans HX13.out)
                  obtain ⟨x0, x1, x2, x3, x4, x5, x6, x7, x8, x9, x10, x11, x12, x13⟩ := bx14 HX14.out
                  clear hb
                  cases p2 with
                  | true =>
                    go_wp2_with fail
                    refine (CD.out _).mono ?_
                    rintro r wq15 ⟨rfl, hb⟩
                    clear x0 x1 x2 x3 x4 x5 x6 x7 x8 x9 x10 x11 x12 x13
                    have HB15 := Lib.hid (more HB14.out (Nat.le_refl _) hb)
                    have HX15 := Lib.hid ((hb.block _ (heap_lt HX14.out)).trans HX14.out)
                    obtain ⟨x0, x1, x2, x3, x4, x5, x6, x7, x8, x9, x10, x11, x12, x13⟩ := bx14 HX15.out
                    clear hb
                    cases tb with
                    | true =>
                      go_wp2_with fail
                      go_ret
                      exact ⟨rfl, HB15.out⟩
                    | false =>
                      go_wp2_with fail
                      go_ret
                      exact ⟨rfl, HB15.out⟩
                  | false =>
                    go_wp2_with fail
                    go_ret
                    exact ⟨rfl, HB14.out⟩
              | false =>
                go_wp2_with fail
                go_ret
                exact ⟨rfl, HB13.out⟩
            | false =>
              go_wp2_with fail
              go_ret
              exact ⟨rfl, HB12.out⟩
        | false =>
          go_wp2_with fail
          go_ret
          exact ⟨rfl, HB2.out⟩
      | false =>
        go_wp2_with fail
        go_ret
        exact ⟨rfl, HB2.out⟩
  | false =>
    go_wp2_with fail
    go_ret
    exact ⟨rfl, HB1.out⟩
set_option maxRecDepth 100000 in
set_option maxHeartbeats 40000000 in
theorem hasTexts_t (kd : Int) (ty fn fd fr tn td tr id sh st bd cd : ByteArray) (aL : Option Addr) (nL cL : Nat) (w : World) (h1 : id.size ≤ 1048576) (h2 : st.size ≤ 1048576) (h3 : bd.size ≤ 1048576) (hk : decide (kd = 3) = true) (he : eqb id E0 = false) :
    Calls Tryz.prog 24 #[.agg #[.int .i64 kd, .string ty, .string fn, .string fd, .string fr, .string tn, .string td, .string tr, .string id, .string sh, .string st, .string bd, .slice aL nL cL, .string cd]] w fun e w' => e = .returned (.bool (txsB kd ty id sh st bd)) ∧ Below w.heap.size w w' := by
  have HB0 : Hid (Below w.heap.size w (w.alloc (.cells #[.int .i64 kd, .string ty, .string fn, .string fd, .string fr, .string tn, .string td, .string tr, .string id, .string sh, .string st, .string bd, .slice aL nL cL, .string cd] 26))) := st_box w _ _
  have HX0 := Lib.hid (box_new w #[.int .i64 kd, .string ty, .string fn, .string fd, .string fr, .string tn, .string td, .string tr, .string id, .string sh, .string st, .string bd, .slice aL nL cL, .string cd] 26)
  have CI := Lib.hid (fun W => stText_any id 256 W h1)
  have CM := Lib.hid (fun W => mayShow_any kd ty fn fd fr tn td tr id sh st bd cd aL nL cL W)
  have CW := Lib.hid (fun W => isShow_any sh W)
  have CP := Lib.hid (fun W => mayStatus_any kd ty fn fd fr tn td tr id sh st bd cd aL nL cL W)
  have CS := Lib.hid (fun W => stText_any st 4096 W h2)
  have CB := Lib.hid (fun W => mayBody_any kd ty fn fd fr tn td tr id sh st bd cd aL nL cL W)
  have CD := Lib.hid (fun W => stText_any bd 4096 W h3)
  unfold txsB
  have g3 : (kd == 3) = decide (kd = 3) := rfl
  have gs : sh.toList.isEmpty = eqb sh E0 := (eqb_E0 sh).symm
  have gt : st.toList.isEmpty = eqb st E0 := (eqb_E0 st).symm
  have gb : bd.toList.isEmpty = eqb bd E0 := (eqb_E0 bd).symm
  have gi : id.toList.isEmpty = eqb id E0 := (eqb_E0 id).symm
  rw [he] at gi ⊢
  clear he
  rw [hk] at g3 ⊢
  clear hk
  simp only [Bool.and_false, Bool.not_false, Bool.true_and]
  generalize eqb sh E0 = es at gs ⊢
  generalize eqb st E0 = et at gt ⊢
  generalize eqb bd E0 = eb at gb ⊢
  generalize txtB id 256 = ti at CI ⊢
  generalize txtB st 4096 = ts at CS ⊢
  generalize txtB bd 4096 = tb at CD ⊢
  generalize showB sh = ws at CW ⊢
  generalize (decide (kd = 1) && eqb ty E0) = ms at CM ⊢
  generalize decide (kd = 1) = p1 at CP ⊢
  generalize decide (kd = 2) = p2 at CB ⊢
  clear h1 h2 h3
  go_enter Tryz.func24, Tryz.ntmps24
  go_wp2_with fail
  refine (CI.out _).mono ?_
  rintro r wq16 ⟨rfl, hb⟩
  have HB16 := Lib.hid (more HB0.out (Nat.le_refl _) hb)
  have HX16 := Lib.hid ((hb.block _ (heap_lt HX0.out)).trans HX0.out)
  obtain ⟨x0, x1, x2, x3, x4, x5, x6, x7, x8, x9, x10, x11, x12, x13⟩ := bx14 HX16.out
  clear hb
  cases ti with
  | true =>
    cases es with
    | true =>
      cases et with
      | true =>
        cases eb with
        | true =>
          go_wp2_with fail
          go_ret
          exact ⟨rfl, HB16.out⟩
        | false =>
          go_wp2_with fail
          refine (CB.out _).mono ?_
          rintro r wq19 ⟨rfl, hb⟩
          clear x0 x1 x2 x3 x4 x5 x6 x7 x8 x9 x10 x11 x12 x13
          have HB19 := Lib.hid (more HB16.out (Nat.le_refl _) hb)
          have HX19 := Lib.hid ((hb.block _ (heap_lt HX16.out)).trans HX16.out)
          obtain ⟨x0, x1, x2, x3, x4, x5, x6, x7, x8, x9, x10, x11, x12, x13⟩ := bx14 HX19.out
          clear hb
          cases p2 with
          | true =>
            go_wp2_with fail
            refine (CD.out _).mono ?_
            rintro r wq20 ⟨rfl, hb⟩
            clear x0 x1 x2 x3 x4 x5 x6 x7 x8 x9 x10 x11 x12 x13
            have HB20 := Lib.hid (more HB19.out (Nat.le_refl _) hb)
            have HX20 := Lib.hid ((hb.block _ (heap_lt HX19.out)).trans HX19.out)
            obtain ⟨x0, x1, x2, x3, x4, x5, x6, x7, x8, x9, x10, x11, x12, x13⟩ := bx14 HX20.out
            clear hb
            cases tb with
            | true =>
              go_wp2_with fail
              go_ret
              exact ⟨rfl, HB20.out⟩
            | false =>
              go_wp2_with fail
              go_ret
              exact ⟨rfl, HB20.out⟩
          | false =>
            go_wp2_with fail
            go_ret
            exact ⟨rfl, HB19.out⟩
      | false =>
        go_wp2_with fail
        refine (CP.out _).mono ?_
        rintro r wq21 ⟨rfl, hb⟩
        clear x0 x1 x2 x3 x4 x5 x6 x7 x8 x9 x10 x11 x12 x13
        have HB21 := Lib.hid (more HB16.out (Nat.le_refl _) hb)
        have HX21 := Lib.hid ((hb.block _ (heap_lt HX16.out)).trans HX16.out)
        obtain ⟨x0, x1, x2, x3, x4, x5, x6, x7, x8, x9, x10, x11, x12, x13⟩ := bx14 HX21.out
        clear hb
        cases p1 with
        | true =>
          go_wp2_with fail
          refine (CS.out _).mono ?_
          rintro r wq22 ⟨rfl, hb⟩
          clear x0 x1 x2 x3 x4 x5 x6 x7 x8 x9 x10 x11 x12 x13
          have HB22 := Lib.hid (more HB21.out (Nat.le_refl _) hb)
          have HX22 := Lib.hid ((hb.block _ (heap_lt HX21.out)).trans HX21.out)
          obtain ⟨x0, x1, x2, x3, x4, x5, x6, x7, x8, x9, x10, x11, x12, x13⟩ := bx14 HX22.out
          clear hb
          cases ts with
          | true =>
            cases eb with
            | true =>
              go_wp2_with fail
              go_ret
              exact ⟨rfl, HB22.out⟩
            | false =>
              go_wp2_with fail
              refine (CB.out _).mono ?_
              rintro r wq23 ⟨rfl, hb⟩
              clear x0 x1 x2 x3 x4 x5 x6 x7 x8 x9 x10 x11 x12 x13
              have HB23 := Lib.hid (more HB22.out (Nat.le_refl _) hb)
              have HX23 := Lib.hid ((hb.block _ (heap_lt HX22.out)).trans HX22.out)
              obtain ⟨x0, x1, x2, x3, x4, x5, x6, x7, x8, x9, x10, x11, x12, x13⟩ := bx14 HX23.out
              clear hb
              cases p2 with
              | true =>
                go_wp2_with fail
                refine (CD.out _).mono ?_
                rintro r wq24 ⟨rfl, hb⟩
                clear x0 x1 x2 x3 x4 x5 x6 x7 x8 x9 x10 x11 x12 x13
                have HB24 := Lib.hid (more HB23.out (Nat.le_refl _) hb)
                have HX24 := Lib.hid ((hb.block _ (heap_lt HX23.out)).trans HX23.out)
                obtain ⟨x0, x1, x2, x3, x4, x5, x6, x7, x8, x9, x10, x11, x12, x13⟩ := bx14 HX24.out
                clear hb
                cases tb with
                | true =>
                  go_wp2_with fail
                  go_ret
                  exact ⟨rfl, HB24.out⟩
                | false =>
                  go_wp2_with fail
                  go_ret
                  exact ⟨rfl, HB24.out⟩
              | false =>
                go_wp2_with fail
                go_ret
                exact ⟨rfl, HB23.out⟩
          | false =>
            go_wp2_with fail
            go_ret
            exact ⟨rfl, HB22.out⟩
        | false =>
          go_wp2_with fail
          go_ret
          exact ⟨rfl, HB21.out⟩
    | false =>
      go_wp2_with fail
      refine (CM.out _).mono ?_
      rintro r wq17 ⟨rfl, hb⟩
      clear x0 x1 x2 x3 x4 x5 x6 x7 x8 x9 x10 x11 x12 x13
      have HB17 := Lib.hid (more HB16.out (Nat.le_refl _) hb)
      have HX17 := Lib.hid ((hb.block _ (heap_lt HX16.out)).trans HX16.out)
      obtain ⟨x0, x1, x2, x3, x4, x5, x6, x7, x8, x9, x10, x11, x12, x13⟩ := bx14 HX17.out
      clear hb
      cases ms with
      | true =>
        go_wp2_with fail
        refine (CW.out _).mono ?_
        rintro r wq18 ⟨rfl, rfl⟩
        cases ws with
        | true =>
          cases et with
          | true =>
            cases eb with
            | true =>
              go_wp2_with fail
              go_ret
              exact ⟨rfl, HB17.out⟩
            | false =>
              go_wp2_with fail
              refine (CB.out _).mono ?_
              rintro r wq25 ⟨rfl, hb⟩
              clear x0 x1 x2 x3 x4 x5 x6 x7 x8 x9 x10 x11 x12 x13
              have HB25 := Lib.hid (more HB17.out (Nat.le_refl _) hb)
              have HX25 := Lib.hid ((hb.block _ (heap_lt HX17.out)).trans HX17.out)
              obtain ⟨x0, x1, x2, x3, x4, x5, x6, x7, x8, x9, x10, x11, x12, x13⟩ := bx14 HX25.out
              clear hb
              cases p2 with
              | true =>
                go_wp2_with fail
                refine (CD.out _).mono ?_
                rintro r wq26 ⟨rfl, hb⟩
                clear x0 x1 x2 x3 x4 x5 x6 x7 x8 x9 x10 x11 x12 x13
                have HB26 := Lib.hid (more HB25.out (Nat.le_refl _) hb)
                have HX26 := Lib.hid ((hb.block _ (heap_lt HX25.out)).trans HX25.out)
                obtain ⟨x0, x1, x2, x3, x4, x5, x6, x7, x8, x9, x10, x11, x12, x13⟩ := bx14 HX26.out
                clear hb
                cases tb with
                | true =>
                  go_wp2_with fail
                  go_ret
                  exact ⟨rfl, HB26.out⟩
                | false =>
                  go_wp2_with fail
                  go_ret
                  exact ⟨rfl, HB26.out⟩
              | false =>
                go_wp2_with fail
                go_ret
                exact ⟨rfl, HB25.out⟩
          | false =>
            go_wp2_with fail
            refine (CP.out _).mono ?_
            rintro r wq27 ⟨rfl, hb⟩
            clear x0 x1 x2 x3 x4 x5 x6 x7 x8 x9 x10 x11 x12 x13
            have HB27 := Lib.hid (more HB17.out (Nat.le_refl _) hb)
            have HX27 := Lib.hid ((hb.block _ (heap_lt HX17.out)).trans HX17.out)
            obtain ⟨x0, x1, x2, x3, x4, x5, x6, x7, x8, x9, x10, x11, x12, x13⟩ := bx14 HX27.out
            clear hb
            cases p1 with
            | true =>
              go_wp2_with fail
              refine (CS.out _).mono ?_
              rintro r wq28 ⟨rfl, hb⟩
              clear x0 x1 x2 x3 x4 x5 x6 x7 x8 x9 x10 x11 x12 x13
              have HB28 := Lib.hid (more HB27.out (Nat.le_refl _) hb)
              have HX28 := Lib.hid ((hb.block _ (heap_lt HX27.out)).trans HX27.out)
              obtain ⟨x0, x1, x2, x3, x4, x5, x6, x7, x8, x9, x10, x11, x12, x13⟩ := bx14 HX28.out
              clear hb
              cases ts with
              | true =>
                cases eb with
                | true =>
                  go_wp2_with fail
                  go_ret
                  exact ⟨rfl, HB28.out⟩
                | false =>
                  go_wp2_with fail
                  refine (CB.out _).mono ?_
                  rintro r wq29 ⟨rfl, hb⟩
                  clear x0 x1 x2 x3 x4 x5 x6 x7 x8 x9 x10 x11 x12 x13
                  have HB29 := Lib.hid (more HB28.out (Nat.le_refl _) hb)
                  have HX29 := Lib.hid ((hb.block _ (heap_lt HX28.out)).trans HX28.out)
                  obtain ⟨x0, x1, x2, x3, x4, x5, x6, x7, x8, x9, x10, x11, x12, x13⟩ := bx14 HX29.out
                  clear hb
                  cases p2 with
                  | true =>
                    go_wp2_with fail
                    refine (CD.out _).mono ?_
                    rintro r wq30 ⟨rfl, hb⟩
                    clear x0 x1 x2 x3 x4 x5 x6 x7 x8 x9 x10 x11 x12 x13
                    have HB30 := Lib.hid (more HB29.out (Nat.le_refl _) hb)
                    have HX30 := Lib.hid ((hb.block _ (heap_lt HX29.out)).trans HX29.out)
                    obtain ⟨x0, x1, x2, x3, x4, x5, x6, x7, x8, x9, x10, x11, x12, x13⟩ := bx14 HX30.out
                    clear hb
                    cases tb with
                    | true =>
                      go_wp2_with fail
                      go_ret
                      exact ⟨rfl, HB30.out⟩
                    | false =>
                      go_wp2_with fail
                      go_ret
                      exact ⟨rfl, HB30.out⟩
                  | false =>
                    go_wp2_with fail
                    go_ret
                    exact ⟨rfl, HB29.out⟩
              | false =>
                go_wp2_with fail
                go_ret
                exact ⟨rfl, HB28.out⟩
            | false =>
              go_wp2_with fail
              go_ret
              exact ⟨rfl, HB27.out⟩
        | false =>
          go_wp2_with fail
          go_ret
          exact ⟨rfl, HB17.out⟩
      | false =>
        go_wp2_with fail
        go_ret
        exact ⟨rfl, HB17.out⟩
  | false =>
    go_wp2_with fail
    go_ret
    exact ⟨rfl, HB16.out⟩
set_option maxRecDepth 100000 in
set_option maxHeartbeats 4000000 in
theorem hasTexts_any (kd : Int) (ty fn fd fr tn td tr id sh st bd cd : ByteArray) (aL : Option Addr) (nL cL : Nat) (w : World) (h1 : id.size ≤ 1048576) (h2 : st.size ≤ 1048576) (h3 : bd.size ≤ 1048576) :
    Calls Tryz.prog 24 #[.agg #[.int .i64 kd, .string ty, .string fn, .string fd, .string fr, .string tn, .string td, .string tr, .string id, .string sh, .string st, .string bd, .slice aL nL cL, .string cd]] w fun e w' => e = .returned (.bool (txsB kd ty id sh st bd)) ∧ Below w.heap.size w w' := by
  by_cases hbad : decide (kd = 3) = true ∧ eqb id E0 = true
  · obtain ⟨hk, he⟩ := hbad
    have HB0 : Hid (Below w.heap.size w (w.alloc (.cells #[.int .i64 kd, .string ty, .string fn, .string fd, .string fr, .string tn, .string td, .string tr, .string id, .string sh, .string st, .string bd, .slice aL nL cL, .string cd] 26))) := st_box w _ _
    have g3 : (kd == 3) = decide (kd = 3) := rfl
    have gi : id.toList.isEmpty = eqb id E0 := (eqb_E0 id).symm
    unfold txsB
    rw [hk] at g3 ⊢
    rw [he] at gi ⊢
    clear hk he h1 h2 h3
    go_enter Tryz.func24, Tryz.ntmps24
    go_wp2_with fail
    go_ret
    exact ⟨rfl, HB0.out⟩
  cases hk : decide (kd = 3) with
  | false => exact hasTexts_f kd ty fn fd fr tn td tr id sh st bd cd aL nL cL w h1 h2 h3 hk
  | true => exact hasTexts_t kd ty fn fd fr tn td tr id sh st bd cd aL nL cL w h1 h2 h3 hk (by rw [Bool.eq_false_iff]; exact fun h => hbad ⟨hk, h⟩)
/-- What hasLoad tells. -/
noncomputable def lodB (kd : Int) (ty : ByteArray) (l : List El) : Bool := decide ((loadsOf kd ty).1 ≤ l.length) && decide (l.length ≤ (loadsOf kd ty).2) && !(l.any fun e => ownB e || !chkB e)
set_option maxRecDepth 100000 in
set_option maxHeartbeats 4000000 in
theorem hasLoad_any (l : List El) (kd : Int) (ty fn fd fr tn td tr id sh st bd cd : ByteArray) (aL : Option Addr) (nL cL : Nat) (w : World) (B : Nat) (hn : nL = l.length) (hK : KsIn B w aL l) (hB : B ≤ w.heap.size) (hw : wts l ≤ 20000) :
    Calls Tryz.prog 26 #[.agg #[.int .i64 kd, .string ty, .string fn, .string fd, .string fr, .string tn, .string td, .string tr, .string id, .string sh, .string st, .string bd, .slice aL nL cL, .string cd]] w fun e w' => e = .returned (.bool (lodB kd ty l)) ∧ Below w.heap.size w w' := by
  have HB0 : Hid (Below w.heap.size w (w.alloc (.cells #[.int .i64 kd, .string ty, .string fn, .string fd, .string fr, .string tn, .string td, .string tr, .string id, .string sh, .string st, .string bd, .slice aL nL cL, .string cd] 26))) := st_box w _ _
  have HX0 := Lib.hid (box_new w #[.int .i64 kd, .string ty, .string fn, .string fd, .string fr, .string tn, .string td, .string tr, .string id, .string sh, .string st, .string bd, .slice aL nL cL, .string cd] 26)
  have CL := Lib.hid (fun W => loads_any kd ty fn fd fr tn td tr id sh st bd cd aL nL cL W)
  have hl : l.length ≤ 20000 := by have := wts_len l; omega
  have HC : Hid (∀ W, Below w.heap.size w W → Calls Tryz.prog 56 #[.slice aL nL cL, .func (.func 57) #[] #[]] W fun e w' => e = .returned (.bool (l.any fun x => ownB x || !chkB x)) ∧ Below W.heap.size W w') := by
    intro W hb
    rw [hn]
    exact elems_any l aL cL B W hl (fun k hk => by have := wts_mem hk; omega) (hK.below (hb.mono hB)) (Nat.le_trans hB hb.size)
  unfold lodB
  clear hK hB hw
  generalize (l.any fun x => ownB x || !chkB x) = bad at HC ⊢
  rw [← hn]
  rw [← hn] at hl
  clear hn
  generalize hp : loadsOf kd ty = p at CL ⊢
  have hp2 : p.1 ≤ 4 ∧ p.2 ≤ 4 := by
    subst hp
    unfold loadsOf
    split
    · decide
    · split
      · decide
      · split <;> decide
  obtain ⟨least, most⟩ := p
  simp only at CL hp2 ⊢
  clear hp
  by_cases h1 : nL < least
  · have d1 : decide (least ≤ nL) = false := decide_eq_false (by omega)
    have f1 : ((nL : Int) < least) := by omega
    rw [d1]
    clear d1
    go_enter Tryz.func26, Tryz.ntmps26
    go_wp2_with fail
    refine (CL.out _).mono ?_
    rintro r w1 ⟨rfl, hb⟩
    have HB := Lib.hid (more HB0.out (Nat.le_refl _) hb)
    obtain ⟨x0, x1, x2, x3, x4, x5, x6, x7, x8, x9, x10, x11, x12, x13⟩ := bx14 ((hb.block _ (heap_lt HX0.out)).trans HX0.out)
    clear hb
    go_wp2_with fail
    go_ret
    exact ⟨rfl, HB.out⟩
  · have d1 : decide (least ≤ nL) = true := decide_eq_true (by omega)
    have f1 : ¬ ((nL : Int) < least) := by omega
    rw [d1]
    clear d1
    by_cases h2 : most < nL
    · have d2 : decide (nL ≤ most) = false := decide_eq_false (by omega)
      have f2 : ((most : Int) < nL) := by omega
      rw [d2]
      clear d2
      go_enter Tryz.func26, Tryz.ntmps26
      go_wp2_with fail
      refine (CL.out _).mono ?_
      rintro r w1 ⟨rfl, hb⟩
      have HB := Lib.hid (more HB0.out (Nat.le_refl _) hb)
      obtain ⟨x0, x1, x2, x3, x4, x5, x6, x7, x8, x9, x10, x11, x12, x13⟩ := bx14 ((hb.block _ (heap_lt HX0.out)).trans HX0.out)
      clear hb
      go_wp2_with fail
      go_ret
      exact ⟨rfl, HB.out⟩
    · have d2 : decide (nL ≤ most) = true := decide_eq_true (by omega)
      have f2 : ¬ ((most : Int) < nL) := by omega
      rw [d2]
      clear d2
      cases bad <;>
      · go_enter Tryz.func26, Tryz.ntmps26
        go_wp2_with fail
        refine (CL.out _).mono ?_
        rintro r w1 ⟨rfl, hb⟩
        have HB := Lib.hid (more HB0.out (Nat.le_refl _) hb)
        obtain ⟨x0, x1, x2, x3, x4, x5, x6, x7, x8, x9, x10, x11, x12, x13⟩ := bx14 ((hb.block _ (heap_lt HX0.out)).trans HX0.out)
        clear hb
        go_wp2_with fail
        refine (HC.out _ HB.out).mono ?_
        rintro r w2 ⟨rfl, hb⟩
        have HB2 := Lib.hid (more HB.out (Nat.le_refl _) hb)
        clear hb
        go_wp2_with fail
        go_ret
        exact ⟨rfl, HB2.out⟩
end Go.Proofs.YtccpdfcmhggleaaGreatDoor
