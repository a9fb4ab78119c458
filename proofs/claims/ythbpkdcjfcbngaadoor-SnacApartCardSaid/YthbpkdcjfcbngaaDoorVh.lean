/- Contracts: num, live of the laws. Condition: the table of widths holds what the program's text lays. -/
import Derived.Test.YthbpkdcjfcbngaaDoorVg
namespace Go.Proofs.YthbpkdcjfcbngaaDoor
open Go.RowKit Go.Lib

theorem lnum_any (n : Int) (w : World) : Calls Tryd.prog 12 #[.int .i64 n] w (Pure (.int .i64 n) w) := by
  go_enter Tryd.func12, Tryd.ntmps12
  go_wp2_with fail
  go_ret
  exact ⟨rfl, rfl⟩
/-- What a law's walk leaves. -/
def OkL (w : World) (e : Ending) (w' : World) : Prop := e = .returned (.bool true) ∧ Below w.heap.size w w'
def lvA : ByteArray := ⟨#[0, 4, 0, 7, 0, 0, 0, 0, 0, 1, 120]⟩
theorem live_a : chk 4 7 0 1 ⟨#[120]⟩ = 0 ∧ putS 4 7 0 1 ⟨#[120]⟩ = lvA := by
  have e : chk 4 7 0 1 ⟨#[120]⟩ = 0 := by decide +kernel
  refine ⟨e, ?_⟩
  rw [(put_ok e).1]
  exact By.bytes_ext (by decide +kernel)
theorem live_b : prs lvA = ⟨4, 7, 0, 1, ⟨#[120]⟩⟩ ∧ prsE lvA = 0 := by
  have h := prs_of (f := 4) (s := 7) (g := 0) (r := 1) (b := ⟨#[120]⟩) (by decide +kernel) (by decide)
  rw [← (put_ok live_a.1).1, live_a.2] at h
  exact h
theorem live_c : chk (-1) 0 0 0 ⟨#[]⟩ = 2 := by decide +kernel
set_option maxRecDepth 100000 in
set_option maxHeartbeats 8000000 in
theorem live_any (w : World) (hG : Gd w) : Calls Tryd.prog 7 #[] w (OkL w) := by
  have HG := Lib.hid hG.all
  clear hG
  have CA : Hid (∀ W, Gd W → Calls Tryd.prog 8 #[.agg #[.int .i64 4, .int .i64 7, .int .i64 0, .int .i64 1, .string ⟨#[120]⟩]] W (Gives (.tuple #[.string lvA, .int .i64 0]) W)) := fun W hg => by
    have h := put_any 4 7 0 1 ⟨#[120]⟩ W (by decide) hg
    rw [live_a.1, live_a.2] at h
    exact h
  have CB : Hid (∀ W, Gd W → Calls Tryd.prog 10 #[.string lvA] W (Gives (.tuple #[.agg #[.int .i64 4, .int .i64 7, .int .i64 0, .int .i64 1, .string ⟨#[120]⟩], .int .i64 0]) W)) := fun W hg => by
    have h := parse_any lvA W (by decide) hg
    unfold PsP at h
    rw [live_b.1, live_b.2] at h
    exact h
  have CC : Hid (∀ W, Gd W → Calls Tryd.prog 10 #[.string (lvA.extract 0 9)] W (Gives (.tuple #[.agg #[.int .i64 0, .int .i64 0, .int .i64 0, .int .i64 0, .string ⟨#[]⟩], .int .i64 130]) W)) := fun W hg => by
    have hz : (lvA.extract 0 9).size = 9 := cut_size lvA 0 9 (by decide)
    have h := parse_any (lvA.extract 0 9) W (by omega) hg
    unfold PsP at h
    rw [(prs_no (b := lvA.extract 0 9) (by omega)).1, (prs_no (b := lvA.extract 0 9) (by omega)).2] at h
    exact h
  have CD : Hid (∀ W, Gd W → Calls Tryd.prog 13 #[.agg #[.int .i64 (-1), .int .i64 0, .int .i64 0, .int .i64 0, .string ⟨#[]⟩]] W (Gives (.int .i64 2) W)) := fun W hg => by
    have h := check_any (-1) 0 0 0 ⟨#[]⟩ W (by decide) hg
    rw [live_c] at h
    exact h
  have CE : Hid (∀ W, Calls Tryd.prog 15 #[.int .i64 4, .int .i64 6] W (Pure (.int .i64 2) W)) := fun W => class_any 4 6 W
  have CF : Hid (∀ W, Calls Tryd.prog 15 #[.int .i64 1, .int .i64 2] W (Pure (.int .i64 1) W)) := fun W => class_any 1 2 W
  have hzA : lvA.size = 11 := rfl
  have heA : (lvA.toList == [0, 4, 0, 7, 0, 0, 0, 0, 0, 1, 120]) = true := by rw [ByteArray.toList_eq]; rfl
  have HB0 : Hid (Below w.heap.size w w) := Below.refl _ _
  generalize lvA = A at CA CB CC hzA heA
  go_enter Tryd.func7, Tryd.ntmps7
  go_wp2_with fail
  refine (CA.out _ (HG.out _ HB0.out)).mono ?_
  rintro e w1 ⟨rfl, hb⟩
  have HB1 := Lib.hid (HB0.out.trans (hb.mono HB0.out.size))
  clear hb CA
  go_wp2_with fail
  refine (CB.out _ (HG.out _ HB1.out)).mono ?_
  rintro e w2 ⟨rfl, hb⟩
  have HB2 := Lib.hid (HB1.out.trans (hb.mono HB1.out.size))
  clear hb CB
  have HX2 := Lib.hid (box_new w2 #[.int .i64 4, .int .i64 7, .int .i64 0, .int .i64 1, .string ⟨#[120]⟩] 23)
  have HB3 := Lib.hid (HB2.out.alloc HB2.out.size (.cells #[.int .i64 4, .int .i64 7, .int .i64 0, .int .i64 1, .string ⟨#[120]⟩] 23))
  go_wp2_with fail
  refine (CC.out _ (HG.out _ HB3.out)).mono ?_
  rintro e w3 ⟨rfl, hb⟩
  have HX3 := Lib.hid ((hb.block _ (heap_lt HX2.out)).trans HX2.out)
  have HB4 := Lib.hid (HB3.out.trans (hb.mono HB3.out.size))
  clear hb CC HX2
  have HX4 := Lib.hid ((Below.heap_alloc w3 (.cells #[.int .i64 0, .int .i64 0, .int .i64 0, .int .i64 0, .string ⟨#[]⟩] 23) _ (heap_lt HX3.out)).trans HX3.out)
  have HB5 := Lib.hid (HB4.out.alloc HB4.out.size (.cells #[.int .i64 0, .int .i64 0, .int .i64 0, .int .i64 0, .string ⟨#[]⟩] 23))
  generalize w2.heap.size = P at HX4 ⊢
  obtain ⟨d0, d1, d2, d3, d4⟩ := bx5 HX4.out
  clear HX3 HX4 HB3 HB4 HB2 HB1
  go_wp2_with fail
  refine (lnum_any _ _).mono ?_
  rintro e wz ⟨rfl, hw⟩
  have hw := hw.symm
  subst hw
  go_wp2_with fail
  refine (lnum_any _ _).mono ?_
  rintro e wz ⟨rfl, hw⟩
  have hw := hw.symm
  subst hw
  go_wp2_with fail
  clear d0 d1 d2 d3 d4
  refine (lnum_any _ _).mono ?_
  rintro e wz ⟨rfl, hw⟩
  have hw := hw.symm
  subst hw
  go_wp2_with fail
  refine (CD.out _ (HG.out _ HB5.out)).mono ?_
  rintro e w5 ⟨rfl, hb⟩
  have HB6 := Lib.hid (HB5.out.trans (hb.mono HB5.out.size))
  clear hb CD HB5
  go_wp2_with fail
  refine (lnum_any _ _).mono ?_
  rintro e wz ⟨rfl, hw⟩
  have hw := hw.symm
  subst hw
  go_wp2_with fail
  refine (CE.out _).mono ?_
  rintro e wz ⟨rfl, hw⟩
  have hw := hw.symm
  subst hw
  go_wp2_with fail
  refine (CF.out _).mono ?_
  rintro e wz ⟨rfl, hw⟩
  have hw := hw.symm
  subst hw
  go_wp2_with fail
  go_ret
  exact ⟨rfl, HB6.out⟩
end Go.Proofs.YthbpkdcjfcbngaaDoor
