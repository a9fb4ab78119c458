/- PayloadDigits' walk. Condition: the laid variables hold what the program's text lays. -/
import Derived.Test.YtlklmoohoobjjaaDoorOd
namespace Go.Proofs.YtlklmoohoobjjaaDoor
open Go.RowKit Go.Lib Go.Shelf Tg

def OkD (w : World) (r : Ending) (w' : World) : Prop := r = .returned (.bool true) ∧ Below w.heap.size w w'
set_option maxRecDepth 100000 in
set_option maxHeartbeats 8000000 in
theorem digits_lt (n : Int) (w : World) (h0 : -9223372036854775808 ≤ n) (hn : n < 0) (hG : Gd w) :
    Calls Tryd.prog 3 #[.int .i64 n] w (OkD w) := by
  have HG := Lib.hid (fun w' hb => hG.below (w' := w') hb)
  have CLV := Lib.hid (fun (W : World) (hb : Below w.heap.size w W) => live10_any W (HG.out W hb))
  have CLA := Lib.hid (last_open n w h0 (by omega) hG (digits_full n))
  rw [digits_neg hn] at CLA
  clear hG
  go_enter Tryd.func3, Tryd.ntmps3
  go_wp2_with fail
  refine CLA.out.mono ?_
  rintro r w1 ⟨a1, c1, a2, c2, rfl, hat, hb⟩
  have HB1 := Lib.hid hb
  have CAT := Lib.hid (rAttr_any ⟨#[106, 97, 98, 98, 101, 114, 58, 105, 113, 58, 108, 97, 115, 116]⟩ ⟨#[113, 117, 101, 114, 121]⟩ ⟨#[]⟩ ⟨#[115, 101, 99, 111, 110, 100, 115]⟩ [(⟨#[115, 101, 99, 111, 110, 100, 115]⟩, ⟨#[48]⟩)] a1 a2 c1 0 c2 w1.heap.size w1 hat (Nat.le_refl _) (by decide))
  clear hb hat CLA
  go_wp2_with fail
  refine CAT.out.mono ?_
  rintro r2 w2 ⟨rfl, hb⟩
  have HB2 := Lib.hid (more HB1.out (Nat.le_refl _) hb)
  have e48 : attrV [(⟨#[115, 101, 99, 111, 110, 100, 115]⟩, ⟨#[48]⟩)] ⟨#[115, 101, 99, 111, 110, 100, 115]⟩ = (⟨#[48]⟩ : ByteArray) := by simp [attrV]
  rw [e48]
  clear hb CAT HB1 e48
  go_wp2_with fail
  refine (CLV.out _ HB2.out).mono ?_
  rintro r3 w3 ⟨rfl, hb⟩
  have HB3 := Lib.hid (more HB2.out (Nat.le_refl _) hb)
  clear hb
  go_wp2_with fail
  go_ret
  exact ⟨rfl, HB3.out⟩
set_option maxRecDepth 100000 in
set_option maxHeartbeats 8000000 in
theorem digits_ge (u : Nat) (w : World) (hu : u ≤ 9223372036854775807) (hG : Gd w) :
    Calls Tryd.prog 3 #[.int .i64 u] w (OkD w) := by
  have HG := Lib.hid (fun w' hb => hG.below (w' := w') hb)
  have CLV := Lib.hid (fun (W : World) (hb : Below w.heap.size w W) => live10_any W (HG.out W hb))
  have CLA := Lib.hid (last_open u w (by omega) (by omega) hG (digits_full u))
  obtain ⟨S, hS, p1, p19, hD, hH, hZ⟩ := digits_is u hu
  rw [hS] at CLA
  have HD := Lib.hid hD
  have HH := Lib.hid hH
  have HZ := Lib.hid hZ
  have g0 : ¬ ((u : Int) < 0) := by omega
  clear hG hS hD hH hZ
  go_enter Tryd.func3, Tryd.ntmps3
  go_wp2_with fail
  refine CLA.out.mono ?_
  rintro r w1 ⟨a1, c1, a2, c2, rfl, hat, hb⟩
  have HB1 := Lib.hid hb
  have CAT := Lib.hid (rAttr_any ⟨#[106, 97, 98, 98, 101, 114, 58, 105, 113, 58, 108, 97, 115, 116]⟩ ⟨#[113, 117, 101, 114, 121]⟩ ⟨#[]⟩ ⟨#[115, 101, 99, 111, 110, 100, 115]⟩ [(⟨#[115, 101, 99, 111, 110, 100, 115]⟩, S)] a1 a2 c1 0 c2 w1.heap.size w1 hat (Nat.le_refl _) (by show 1 ≤ maxLen; decide))
  clear hb hat CLA
  go_wp2_with fail
  refine CAT.out.mono ?_
  rintro r2 w2 ⟨rfl, hb⟩
  have HB2 := Lib.hid (more HB1.out (Nat.le_refl _) hb)
  have e48 : attrV [(⟨#[115, 101, 99, 111, 110, 100, 115]⟩, S)] ⟨#[115, 101, 99, 111, 110, 100, 115]⟩ = S := by simp [attrV]
  rw [e48]
  clear hb CAT HB1 e48
  go_wp2_with fail
  go_loopw [4, 5] (fun m i wr => ∃ k : Nat, i = .int .i64 k ∧ m = .int .i64 (upTo u S.size k : Nat) ∧ k ≤ S.size ∧ Hid (Below w.heap.size w wr)) (fun _ i _ => S.size - (RowKit.intOf i).toNat)
  case atStart => exact ⟨0, rfl, (by rw [HZ.out]; rfl), Nat.zero_le _, HB2.out⟩
  case round =>
    clear HB2
    obtain ⟨k, rfl, rfl, hk, HB⟩ := hrel
    by_cases hlt : k < S.size
    · have hbk := HD.out k hlt
      have hst := upTo_succ u S.size k hlt
      have hle := upTo_le u S.size (k + 1)
      have hx : u / 10 ^ (S.size - 1 - k) % 10 < 10 := Nat.mod_lt _ (by decide)
      have HE : Hid (upTo u S.size (k + 1) = 10 * upTo u S.size k + u / 10 ^ (S.size - 1 - k) % 10) := hst
      rw [hst] at hle
      generalize u / 10 ^ (S.size - 1 - k) % 10 = x at hbk hle hx HE
      generalize upTo u S.size k = m at hle HE ⊢
      clear hst HZ
      have q1 : ((k : Int) < S.size) := by omega
      have q2 : (0 : Int) ≤ k := by omega
      have q3 : (m : Int) ≤ (9223372036854775807 - x) / 10 := by omega
      go_wp2_with fail
      go_roundw
      case rel => exact ⟨k + 1, by go_num, by rw [HE.out]; go_num, by omega, HB.out⟩
      case measure => simp [RowKit.intOf]; omega
    · obtain rfl : k = S.size := by omega
      rw [upTo_all]
      have p0 : 0 < S.size := by omega
      have hb0 := HH.out p0
      obtain ⟨e1, e2, e3⟩ := nil_ne (a := S) (fun h => by have := Lib.size_eq S; rw [h] at this; have h5 : S.size = 0 := this; omega)
      by_cases h1 : S.size = 1
      · clear hb0
        go_wp2_with fail
        refine (CLV.out _ HB.out).mono ?_
        rintro r3 w3 ⟨rfl, hb⟩
        have HB3 := Lib.hid (more HB.out (Nat.le_refl _) hb)
        clear hb
        go_wp2_with fail
        go_ret
        exact ⟨rfl, HB3.out⟩
      · have hb1 := hb0 h1
        clear hb0
        go_wp2_with fail
        refine (CLV.out _ HB.out).mono ?_
        rintro r3 w3 ⟨rfl, hb⟩
        have HB3 := Lib.hid (more HB.out (Nat.le_refl _) hb)
        clear hb
        go_wp2_with fail
        go_ret
        have hr : (((S.size : Int) == 1) || (((S[0]'p0).toNat : Int) != 48)) = true := by
          rw [Bool.or_eq_true]; right; rw [bne_iff_ne]; omega
        refine ⟨?_, HB3.out⟩
        show Ending.returned (.bool _) = _
        rw [hr]
theorem payloadDigits_walk (n : Int) (w : World) (h : (Lit.int .i64 n).wf = true) (hG : Gd w) :
    Calls Tryd.prog 3 #[.int .i64 n] w (OkD w) := by
  have h0 : -9223372036854775808 ≤ n ∧ n ≤ 9223372036854775807 := by
    have e1 : IntKind.i64.min = -9223372036854775808 := by decide
    have e2 : IntKind.i64.max = 9223372036854775807 := by decide
    simp [Lit.wf] at h
    omega
  by_cases hn : n < 0
  · exact digits_lt n w h0.1 hn hG
  · obtain ⟨u, rfl⟩ : ∃ u : Nat, n = u := ⟨n.toNat, by omega⟩
    exact digits_ge u w (by omega) hG
end Go.Proofs.YtlklmoohoobjjaaDoor
