/- Contracts of whole stanzas; the laws' num, ask, small. Conditions: those of each theorem's head. -/
import Derived.Test.YtccpdfcmhggleaaGreatDoorSp
import Derived.Test.YtccpdfcmhggleaaGreatDoorSq
import Derived.Test.YtccpdfcmhggleaaGreatDoorSr
namespace Go.Proofs.YtccpdfcmhggleaaGreatDoor
open Go.RowKit Go.Lib Go.Shelf Tg St

theorem writeS (s : S) (a : Option Addr) (c B : Nat) (w : World) (hK : KsIn B w a s.ld) (hB : B ≤ w.heap.size) (hok : condB s = true) (hw : wtS s ≤ 18030) :
    Calls Tryz.prog 12 #[.agg (stC s a c)] w fun r w' => ∃ v, r = .returned v ∧ InS (fun b => w.heap.size ≤ b) w' (wr s) v ∧ Below w.heap.size w w' := by
  obtain ⟨kd, ty, ⟨fn, fd, fr⟩, ⟨tn, td, tr⟩, id, sh, st, bd, ld, cd⟩ := s
  have hws : ty.size + id.size + sh.size + st.size + bd.size + cd.size + fn.size + fd.size + fr.size + tn.size + td.size + tr.size + wts ld ≤ 18030 := hw
  have hcd : cd.size ≤ 1000 := by
    unfold condB at hok
    split at hok
    · have := cond_size hok; simp only at this; omega
    · have h := eqb_iff.1 hok
      simp only at h
      rw [h]; decide
  have t1 := txt_size ⟨fn, fd, fr⟩
  have t2 := txt_size ⟨tn, td, tr⟩
  simp only [Ad.txt] at t1 t2
  refine (write_any ld B kd ty fn fd fr tn td tr id sh st bd cd a ld.length c w (by omega) (by omega) (by omega) (by omega) (by omega) (by omega) ?_ rfl hK hB (by omega) (by omega) (by omega) (by omega) hcd).mono ?_
  · intro s hs
    simp only [List.mem_cons, List.not_mem_nil, or_false] at hs
    rcases hs with rfl | rfl | rfl | rfl | rfl | rfl | rfl | rfl
    · decide
    · omega
    · decide
    · omega
    · decide
    · omega
    · decide
    · omega
  · rintro r w' ⟨a1, c1, a2, c2, rfl, hin, hb⟩
    exact ⟨_, rfl, hin, hb⟩
theorem checkS (s : S) (a : Option Addr) (c B : Nat) (w : World) (hK : KsIn B w a s.ld) (hB : B ≤ w.heap.size) (hw : wtS s ≤ 18900 + s.cd.size) (hcd : s.cd.size ≤ 100000) :
    Calls Tryz.prog 10 #[.agg (stC s a c)] w fun e w' => e = .returned (.int .i64 (cdS (okS s))) ∧ Below w.heap.size w w' := by
  obtain ⟨kd, ty, ⟨fn, fd, fr⟩, ⟨tn, td, tr⟩, id, sh, st, bd, ld, cd⟩ := s
  exact stCheck_any ld B kd ty fn fd fr tn td tr id sh st bd cd a c w hK hB hw hcd
theorem errorS (s : S) (cond : ByteArray) (a : Option Addr) (c : Nat) (w : World) (hw : wtS s ≤ 18000 + s.cd.size) (hc : cond.size ≤ 100000) :
    Calls Tryz.prog 14 #[.agg (stC s a c), .string cond] w (AnsP (er s cond) w) := by
  obtain ⟨kd, ty, ⟨fn, fd, fr⟩, ⟨tn, td, tr⟩, id, sh, st, bd, ld, cd⟩ := s
  exact error_any ld kd ty fn fd fr tn td tr id sh st bd cd cond a ld.length c w hw hc
theorem resultS (s : S) (a : Option Addr) (c : Nat) (w : World) (hw : wtS s ≤ 18000 + s.cd.size) :
    Calls Tryz.prog 15 #[.agg (stC s a c), .slice none 0 0] w (AnsP (rs s []) w) := by
  obtain ⟨kd, ty, ⟨fn, fd, fr⟩, ⟨tn, td, tr⟩, id, sh, st, bd, ld, cd⟩ := s
  exact result_any [] ld 0 none 0 kd ty fn fd fr tn td tr id sh st bd cd a ld.length c w (fun i h => absurd h (Nat.not_lt_zero _)) (Nat.zero_le _) (by decide) hw
theorem sameS (s : S) (a a' : Option Addr) (c c' B : Nat) (w : World) (hK : KsIn B w a s.ld) (hK' : KsIn B w a' s.ld) (hB : B ≤ w.heap.size) (hl : s.ld.length ≤ 20000) :
    Calls Tryz.prog 13 #[.agg (stC s a c), .agg (stC s a' c')] w fun r w' => r = .returned (.bool true) ∧ Below w.heap.size w w' := by
  obtain ⟨kd, ty, ⟨fn, fd, fr⟩, ⟨tn, td, tr⟩, id, sh, st, bd, ld, cd⟩ := s
  exact same9_yes ld B kd ty fn fd fr tn td tr id sh st bd cd a c a' c' w hK hK' hB hl
theorem stSameS (s : S) (a a' : Option Addr) (c c' B : Nat) (w : World) (hK : KsIn B w a s.ld) (hK' : KsIn B w a' s.ld) (hB : B ≤ w.heap.size) (hl : s.ld.length ≤ 20000) :
    Calls Tryz.prog 20 #[.agg (stC s a c), .agg (stC s a' c')] w fun r w' => r = .returned (.bool true) ∧ Below w.heap.size w w' := by
  obtain ⟨kd, ty, ⟨fn, fd, fr⟩, ⟨tn, td, tr⟩, id, sh, st, bd, ld, cd⟩ := s
  exact stSame_yes ld B kd ty fn fd fr tn td tr id sh st bd cd a c a' c' w hK hK' hB hl
/-! ### num, ask, small -/
/-- What ask gives. -/
def AskP (w : World) (r : Ending) (w' : World) : Prop := ∃ a, r = .returned (.agg #[.int .i64 3, .string ⟨#[103, 101, 116]⟩, .string ⟨#[97]⟩, .string ⟨#[98]⟩, .string ⟨#[99]⟩, .string ⟨#[]⟩, .string ⟨#[100]⟩, .string ⟨#[]⟩, .string ⟨#[49]⟩, .string ⟨#[]⟩, .string ⟨#[]⟩, .string ⟨#[]⟩, .slice a 1 1, .string ⟨#[]⟩]) ∧ KsS (fun b => w.heap.size ≤ b) w' a [EQ] ∧ Below w.heap.size w w'
theorem ask_eq (a : Option Addr) (c : Nat) : #[.int .i64 3, .string ⟨#[103, 101, 116]⟩, .string ⟨#[97]⟩, .string ⟨#[98]⟩, .string ⟨#[99]⟩, .string ⟨#[]⟩, .string ⟨#[100]⟩, .string ⟨#[]⟩, .string ⟨#[49]⟩, .string ⟨#[]⟩, .string ⟨#[]⟩, .string ⟨#[]⟩, .slice a 1 c, .string ⟨#[]⟩] = stC askS a c := rfl
set_option maxRecDepth 100000 in
set_option maxHeartbeats 4000000 in
theorem ask_any (w : World) : Calls Tryz.prog 19 #[] w (AskP w) := by
  have HB0 : Hid (Below w.heap.size w (w.alloc (.cells #[.int .i64 0, .string ⟨#[]⟩, .string ⟨#[]⟩, .string ⟨#[]⟩, .string ⟨#[]⟩, .string ⟨#[]⟩, .string ⟨#[]⟩, .string ⟨#[]⟩, .string ⟨#[]⟩, .string ⟨#[]⟩, .string ⟨#[]⟩, .string ⟨#[]⟩, .slice none 0 0, .string ⟨#[]⟩] 26))) := (Below.refl _ w).alloc (Nat.le_refl _) _
  have HX0 := Lib.hid (box_new w #[.int .i64 0, .string ⟨#[]⟩, .string ⟨#[]⟩, .string ⟨#[]⟩, .string ⟨#[]⟩, .string ⟨#[]⟩, .string ⟨#[]⟩, .string ⟨#[]⟩, .string ⟨#[]⟩, .string ⟨#[]⟩, .string ⟨#[]⟩, .string ⟨#[]⟩, .slice none 0 0, .string ⟨#[]⟩] 26)
  go_enter Tryz.func19, Tryz.ntmps19
  go_upto_region 1 with fail
  generalize w.alloc (.cells #[.int .i64 0, .string ⟨#[]⟩, .string ⟨#[]⟩, .string ⟨#[]⟩, .string ⟨#[]⟩, .string ⟨#[]⟩, .string ⟨#[]⟩, .string ⟨#[]⟩, .string ⟨#[]⟩, .string ⟨#[]⟩, .string ⟨#[]⟩, .string ⟨#[]⟩, .slice none 0 0, .string ⟨#[]⟩] 26) = w0 at HB0 HX0 ⊢
  have HB1 := Lib.hid (HB0.out.alloc HB0.out.size (.cells #[.string ⟨#[113]⟩, .string ⟨#[113, 117, 101, 114, 121]⟩, .slice none 0 0, .string ⟨#[]⟩, .slice none 0 0] 29))
  have HX1 := Lib.hid ((Below.heap_alloc w0 (.cells #[.string ⟨#[113]⟩, .string ⟨#[113, 117, 101, 114, 121]⟩, .slice none 0 0, .string ⟨#[]⟩, .slice none 0 0] 29) _ (heap_lt HX0.out)).trans HX0.out)
  have HE1 := Lib.hid (box_new w0 #[.string ⟨#[113]⟩, .string ⟨#[113, 117, 101, 114, 121]⟩, .slice none 0 0, .string ⟨#[]⟩, .slice none 0 0] 29)
  have hlt := heap_lt HX0.out
  obtain ⟨x0, x1, x2, x3, x4, x5, x6, x7, x8, x9, x10, x11, x12, x13⟩ := bx14 HX0.out
  have f0 := Lib.frozen_of_heap HX0.out 0
  have f1 := Lib.frozen_of_heap HX0.out 1
  have f2 := Lib.frozen_of_heap HX0.out 2
  have f3 := Lib.frozen_of_heap HX0.out 3
  have f4 := Lib.frozen_of_heap HX0.out 4
  have f5 := Lib.frozen_of_heap HX0.out 5
  have f6 := Lib.frozen_of_heap HX0.out 6
  have f7 := Lib.frozen_of_heap HX0.out 7
  have f8 := Lib.frozen_of_heap HX0.out 8
  have f9 := Lib.frozen_of_heap HX0.out 9
  have f10 := Lib.frozen_of_heap HX0.out 10
  have f11 := Lib.frozen_of_heap HX0.out 11
  have f12 := Lib.frozen_of_heap HX0.out 12
  have f13 := Lib.frozen_of_heap HX0.out 13
  go_wp2_with fail
  obtain ⟨wz, hwz, hz1, hz2, hz3⟩ := st14 (vs := #[.int .i64 3, .string ⟨#[103, 101, 116]⟩, .string ⟨#[97]⟩, .string ⟨#[98]⟩, .string ⟨#[99]⟩, .string ⟨#[]⟩, .string ⟨#[100]⟩, .string ⟨#[]⟩, .string ⟨#[49]⟩, .string ⟨#[]⟩, .string ⟨#[]⟩, .string ⟨#[]⟩, .slice (some ⟨w0.heap.size, 0, none⟩) 1 1, .string ⟨#[]⟩]) HX0.out HB0.out (Nat.le_refl _) (.int .i64 3) (.string ⟨#[103, 101, 116]⟩) (.string ⟨#[97]⟩) (.string ⟨#[98]⟩) (.string ⟨#[99]⟩) (.string ⟨#[]⟩) (.string ⟨#[100]⟩) (.string ⟨#[]⟩) (.string ⟨#[49]⟩) (.string ⟨#[]⟩) (.string ⟨#[]⟩) (.string ⟨#[]⟩) (.slice (some ⟨w0.heap.size, 0, none⟩) 1 1) (.string ⟨#[]⟩) rfl rfl
  have hsz : wz.heap.size = w0.heap.size := by rw [hwz]; simp [World.setCell]
  rw [← hwz]
  obtain ⟨q0, q1, q2, q3, q4, q5, q6, q7, q8, q9, q10, q11, q12, q13⟩ := bx14 ((Below.heap_alloc wz (.cells #[.string ⟨#[113]⟩, .string ⟨#[113, 117, 101, 114, 121]⟩, .slice none 0 0, .string ⟨#[]⟩, .slice none 0 0] 29) _ (heap_lt hz1)).trans hz1)
  refine bodyPost_ret (v := .agg #[.int .i64 3, .string ⟨#[103, 101, 116]⟩, .string ⟨#[97]⟩, .string ⟨#[98]⟩, .string ⟨#[99]⟩, .string ⟨#[]⟩, .string ⟨#[100]⟩, .string ⟨#[]⟩, .string ⟨#[49]⟩, .string ⟨#[]⟩, .string ⟨#[]⟩, .string ⟨#[]⟩, .slice (some ⟨w0.heap.size, 0, none⟩) 1 1, .string ⟨#[]⟩]) (by simp [results, Tryz.results19, go_sem, q0, q1, q2, q3, q4, q5, q6, q7, q8, q9, q10, q11, q12, q13]) rfl ?_
  refine ⟨_, rfl, fun i hi => ?_, hz3.alloc hz3.size _⟩
  obtain rfl : i = 0 := by simpa using hi
  have hbx := box_new wz #[.string ⟨#[113]⟩, .string ⟨#[113, 117, 101, 114, 121]⟩, .slice none 0 0, .string ⟨#[]⟩, .slice none 0 0] 29
  rw [hsz] at hbx
  obtain ⟨r0, r1, r2, r3, r4⟩ := bx5 hbx
  exact ⟨w0.heap.size, 0, _, _, _, _, _, rfl, HB0.out.size, ⟨r0, r1, r2, r3, r4⟩, ins_text _ _ _ _ _ (by decide) (by decide) (by decide)⟩
set_option maxRecDepth 100000 in
set_option maxHeartbeats 4000000 in
theorem small_any (ld : List El) (B : Nat) (kd : Int) (ty fn fd fr tn td tr id sh st bd cd : ByteArray) (aL : Option Addr) (cL : Nat) (w : World) (hK : KsIn B w aL ld) (hB : B ≤ w.heap.size) (h1 : ty.size ≤ 140737488351232) (h2 : fn.size ≤ 140737488351232) (h3 : fd.size ≤ 140737488351232) (h4 : fr.size ≤ 140737488351232) (h5 : tn.size ≤ 140737488351232) (h6 : td.size ≤ 140737488351232) (h7 : tr.size ≤ 140737488351232) (h8 : id.size ≤ 140737488351232) (h9 : sh.size ≤ 140737488351232) (h10_ : st.size ≤ 140737488351232) (h11 : bd.size ≤ 140737488351232) (h12 : cd.size ≤ 140737488351232) :
    Calls Tryz.prog 6 #[.agg #[.int .i64 kd, .string ty, .string fn, .string fd, .string fr, .string tn, .string td, .string tr, .string id, .string sh, .string st, .string bd, .slice aL ld.length cL, .string cd]] w fun r w' => (∃ b : Bool, r = .returned (.bool b) ∧ (b = true → ld.length ≤ 10 ∧ wtS ⟨kd, ty, ⟨fn, fd, fr⟩, ⟨tn, td, tr⟩, id, sh, st, bd, ld, cd⟩ ≤ 12000)) ∧ Below w.heap.size w w' := by
  have HB0 : Hid (Below w.heap.size w (w.alloc (.cells #[.int .i64 kd, .string ty, .string fn, .string fd, .string fr, .string tn, .string td, .string tr, .string id, .string sh, .string st, .string bd, .slice aL ld.length cL, .string cd] 26))) := (Below.refl _ w).alloc (Nat.le_refl _) _
  have HX0 := Lib.hid (box_new w #[.int .i64 kd, .string ty, .string fn, .string fd, .string fr, .string tn, .string td, .string tr, .string id, .string sh, .string st, .string bd, .slice aL ld.length cL, .string cd] 26)
  obtain ⟨x0, x1, x2, x3, x4, x5, x6, x7, x8, x9, x10, x11, x12, x13⟩ := bx14 HX0.out
  by_cases h10 : ld.length ≤ 10
  · have CW := Lib.hid (fun (W : World) (hb : Below w.heap.size w W) => rWeight_any ld B kd ty fn fd fr tn td tr id sh st bd cd aL cL W (hK.below (hb.mono hB)) (Nat.le_trans hB hb.size) h10 h1 h2 h3 h4 h5 h6 h7 h8 h9 h10_ h11 h12)
    clear hK hB h1 h2 h3 h4 h5 h6 h7 h8 h9 h10_ h11 h12
    generalize wtS ⟨kd, ty, ⟨fn, fd, fr⟩, ⟨tn, td, tr⟩, id, sh, st, bd, ld, cd⟩ = m at CW ⊢
    have k10 : (ld.length : Int) ≤ 10 := by omega
    have HL := Lib.hid h10
    go_enter Tryz.func6, Tryz.ntmps6
    go_wp2_with fail
    refine (CW.out _ HB0.out).mono ?_
    rintro r w1 ⟨⟨n, rfl, hn⟩, hb⟩
    have HN : Hid (n ≤ 12000 → (m : Int) = n) := hn
    have HB1 := Lib.hid (more HB0.out (Nat.le_refl _) hb)
    clear hn hb
    by_cases hn2 : n ≤ 12000
    · go_wp2_with fail
      go_ret
      exact ⟨⟨true, by simp, fun _ => ⟨HL.out, by have := HN.out hn2; omega⟩⟩, HB1.out⟩
    · go_wp2_with fail
      go_ret
      exact ⟨⟨false, by simp [hn2], fun h => by cases h⟩, HB1.out⟩
  · have k10 : ¬ (ld.length : Int) ≤ 10 := by omega
    clear hK hB h1 h2 h3 h4 h5 h6 h7 h8 h9 h10_ h11 h12
    go_enter Tryz.func6, Tryz.ntmps6
    go_wp2_with fail
    go_ret
    exact ⟨rfl, HB0.out⟩
end Go.Proofs.YtccpdfcmhggleaaGreatDoor
