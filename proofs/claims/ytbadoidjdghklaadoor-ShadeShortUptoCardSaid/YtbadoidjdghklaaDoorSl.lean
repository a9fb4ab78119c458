/- live, and the walks of the laws ShadeStatuses, ShadeTexts, ShadeBack, ShadeShort, ShadeBits. Conditions: the listed variables hold what the program's text lays. -/
import Derived.Test.YtbadoidjdghklaaDoorSi
import Derived.Test.YtbadoidjdghklaaDoorSk
namespace Go.Proofs.YtbadoidjdghklaaDoor
open Go.RowKit Go.Lib Go.Shelf Sg Sh

/-- The listed variables are as their texts lay them. -/
def Gs (w : World) : Prop := Gd w ∧ Ge w
theorem Gs.below {w w' : World} (h : Gs w) (hb : Below w.heap.size w w') : Gs w' := ⟨h.1.below hb, h.2.below hb⟩
theorem i64_b {n : Int} (h : (Lit.int .i64 n).wf = true) : -9223372036854775808 ≤ n ∧ n < 9223372036854775808 := by
  simp [Lit.wf, IntKind.min, IntKind.max, IntKind.signed, IntKind.bits] at h
  omega
theorem fr1 : toH [97, 60, 98, 10] 100 = [97, 38, 108, 116, 59, 98, 60, 66, 82, 62] := by decide +kernel
theorem fr2 : frH [60, 66, 62, 97, 60, 47, 66, 62, 60, 98, 114, 62, 98, 38, 97, 109, 112, 59] = [97, 10, 98, 38] := by decide +kernel
/-- A law's answer: true, and what was there stays. -/
def Tr (w : World) (e : Ending) (w' : World) : Prop := e = .returned (.bool true) ∧ Below w.heap.size w w'
set_option maxRecDepth 100000 in
set_option maxHeartbeats 8000000 in
theorem live_any (w : World) (hG : Gs w) : Calls Tryd.prog 8 #[] w (Tr w) := by
  have HG := Lib.hid hG
  have HB0 := Lib.hid (Below.refl w.heap.size w)
  have S1 : Hid (∀ W, Calls Tryd.prog 9 #[.int .i64 33] W fun e w' => e = .returned (.tuple #[.string ⟨#[97, 119, 97, 121]⟩, .bool true]) ∧ Below W.heap.size W w') := fun W => show_any 33 W (by omega)
  have S2 : Hid (∀ W, Calls Tryd.prog 9 #[.int .i64 256] W fun e w' => e = .returned (.tuple #[.string ⟨#[]⟩, .bool false]) ∧ Below W.heap.size W w') := fun W => show_any 256 W (by omega)
  have S3 : Hid (∀ W, Gs W → Calls Tryd.prog 17 #[.string ⟨#[97, 60, 98, 10]⟩, .int .i64 100] W fun e w' => e = .returned (.string ⟨#[97, 38, 108, 116, 59, 98, 60, 66, 82, 62]⟩) ∧ Below W.heap.size W w') := fun W h => by
    have := toHtml_any ⟨#[97, 60, 98, 10]⟩ 100 W h.1 (by decide) (by omega) (by omega)
    rw [show (⟨#[97, 60, 98, 10]⟩ : ByteArray).data.toList = [97, 60, 98, 10] from rfl, fr1] at this
    exact this
  have S4 : Hid (∀ W, Gs W → Calls Tryd.prog 19 #[.string ⟨#[60, 66, 62, 97, 60, 47, 66, 62, 60, 98, 114, 62, 98, 38, 97, 109, 112, 59]⟩] W fun e w' => e = .returned (.string ⟨#[97, 10, 98, 38]⟩) ∧ Below W.heap.size W w') := fun W h => by
    have := fromHtml_any ⟨#[60, 66, 62, 97, 60, 47, 66, 62, 60, 98, 114, 62, 98, 38, 97, 109, 112, 59]⟩ W h.2 (by decide)
    rw [show (⟨#[60, 66, 62, 97, 60, 47, 66, 62, 60, 98, 114, 62, 98, 38, 97, 109, 112, 59]⟩ : ByteArray).data.toList = [60, 66, 62, 97, 60, 47, 66, 62, 60, 98, 114, 62, 98, 38, 97, 109, 112, 59] from rfl, fr2] at this
    exact this
  have S5 : Hid (∀ W, Calls Tryd.prog 11 #[.string ⟨#[100, 110, 100]⟩] W fun e w' => e = .returned (.int .i64 2) ∧ w' = W) := fun W => stat_2 W
  have S6 : Hid (∀ W, Calls Tryd.prog 13 #[.int .i64 2] W fun e w' => e = .returned (.int .i64 120) ∧ w' = W) := fun W => sec_any 2 W (by omega) (by omega)
  have S7 : Hid (∀ W, Calls Tryd.prog 15 #[.int .i64 125] W fun e w' => e = .returned (.int .i64 2) ∧ w' = W) := fun W => min_any 125 W (by omega) (by omega)
  go_enter Tryd.func8, Tryd.ntmps8
  go_wp2_with fail
  refine (S1.out _).mono ?_
  rintro r1 w1 ⟨rfl, hb⟩
  have HB1 := Lib.hid (HB0.out.trans (hb.mono HB0.out.size))
  clear hb
  go_wp2_with fail
  refine (S2.out _).mono ?_
  rintro r2 w2 ⟨rfl, hb⟩
  have HB2 := Lib.hid (HB1.out.trans (hb.mono HB1.out.size))
  clear hb
  go_wp2_with fail
  refine (S5.out _).mono ?_
  rintro r3 w3 ⟨rfl, hw⟩
  have hw := hw.symm
  subst hw
  go_wp2_with fail
  refine (S3.out _ (HG.out.below HB2.out)).mono ?_
  rintro r4 w4 ⟨rfl, hb⟩
  have HB4 := Lib.hid (HB2.out.trans (hb.mono HB2.out.size))
  clear hb
  go_wp2_with fail
  refine (S4.out _ (HG.out.below HB4.out)).mono ?_
  rintro r5 w5 ⟨rfl, hb⟩
  have HB5 := Lib.hid (HB4.out.trans (hb.mono HB4.out.size))
  clear hb
  go_wp2_with fail
  refine (S6.out _).mono ?_
  rintro r6 w6 ⟨rfl, hw⟩
  have hw := hw.symm
  subst hw
  go_wp2_with fail
  refine (S7.out _).mono ?_
  rintro r7 w7 ⟨rfl, hw⟩
  have hw := hw.symm
  subst hw
  go_wp2_with fail
  go_ret
  exact ⟨rfl, HB5.out⟩
/-- Beyond the law's bounds it asks live alone. -/
theorem eq_self (X : ByteArray) : (X.toList == X.toList) = true := beq_self_eq_true _
set_option maxRecDepth 100000 in
set_option maxHeartbeats 8000000 in
theorem statuses_walk (st : Int) (sh : ByteArray) (n : Int) (w : World) (h1 : (Lit.int .i64 st).wf = true) (h3 : (Lit.int .i64 n).wf = true) (hG : Gs w) : Calls Tryd.prog 3 #[.int .i64 st, .string sh, .int .i64 n] w (Tr w) := by
  obtain ⟨a1, a2⟩ := i64_b h1
  obtain ⟨a3, a4⟩ := i64_b h3
  have HG := Lib.hid hG
  have HB0 := Lib.hid (Below.refl w.heap.size w)
  have LV := Lib.hid live_any
  by_cases hl : sh.size ≤ 5000
  · have S1 := Lib.hid (fun W => show_any st W a2)
    have S2 := Lib.hid (fun W => rShow_any st W a2)
    have S3 := Lib.hid (fun W => stat_any sh W)
    have S4 := Lib.hid (fun W => rStat_any sh W)
    have S5 := Lib.hid (fun W => sec_any n W a3 a4)
    have S6 := Lib.hid (fun W => rSec_any n W a3 a4)
    have S7 := Lib.hid (fun W => min_any n W a3 a4)
    have S8 := Lib.hid (fun W => rMin_any n W a3 a4)
    unfold ShowP at S1 S2
    have q := eq_self (mk (showI st))
    generalize mk (showI st) = A at S1 S2 q
    generalize statL sh.data.toList = B at S3 S4
    generalize secI n = C at S5 S6
    generalize minI n = D at S7 S8
    have q1 : ¬ (5000 : Int) < (sh.size : Int) := by omega
    clear h1 h3 hl
    cases isI st
    · go_enter Tryd.func3, Tryd.ntmps3
      go_wp2_with fail
      refine (S1.out _).mono ?_
      rintro r1 w1 ⟨rfl, hb⟩
      have HB1 := Lib.hid (HB0.out.trans (hb.mono HB0.out.size))
      clear hb
      go_wp2_with fail
      refine (S2.out _).mono ?_
      rintro r2 w2 ⟨rfl, hb⟩
      have HB2 := Lib.hid (HB1.out.trans (hb.mono HB1.out.size))
      clear hb
      go_wp2_with fail
      refine (S3.out _).mono ?_
      rintro r3 w3 ⟨rfl, hw⟩
      have hw := hw.symm
      subst hw
      go_wp2_with fail
      refine (S4.out _).mono ?_
      rintro r4 w4 ⟨rfl, hw⟩
      have hw := hw.symm
      subst hw
      go_wp2_with fail
      refine (S5.out _).mono ?_
      rintro r5 w5 ⟨rfl, hw⟩
      have hw := hw.symm
      subst hw
      go_wp2_with fail
      refine (S6.out _).mono ?_
      rintro r6 w6 ⟨rfl, hw⟩
      have hw := hw.symm
      subst hw
      go_wp2_with fail
      refine (S7.out _).mono ?_
      rintro r7 w7 ⟨rfl, hw⟩
      have hw := hw.symm
      subst hw
      go_wp2_with fail
      refine (S8.out _).mono ?_
      rintro r8 w8 ⟨rfl, hw⟩
      have hw := hw.symm
      subst hw
      go_wp2_with fail
      refine (LV.out _ (HG.out.below HB2.out)).mono ?_
      rintro r9 w9 ⟨rfl, hb⟩
      have HB9 := Lib.hid (HB2.out.trans (hb.mono HB2.out.size))
      clear hb
      go_wp2_with fail
      go_ret
      exact ⟨rfl, HB9.out⟩
    · go_enter Tryd.func3, Tryd.ntmps3
      go_wp2_with fail
      refine (S1.out _).mono ?_
      rintro r1 w1 ⟨rfl, hb⟩
      have HB1 := Lib.hid (HB0.out.trans (hb.mono HB0.out.size))
      clear hb
      go_wp2_with fail
      refine (S2.out _).mono ?_
      rintro r2 w2 ⟨rfl, hb⟩
      have HB2 := Lib.hid (HB1.out.trans (hb.mono HB1.out.size))
      clear hb
      go_wp2_with fail
      refine (S3.out _).mono ?_
      rintro r3 w3 ⟨rfl, hw⟩
      have hw := hw.symm
      subst hw
      go_wp2_with fail
      refine (S4.out _).mono ?_
      rintro r4 w4 ⟨rfl, hw⟩
      have hw := hw.symm
      subst hw
      go_wp2_with fail
      refine (S5.out _).mono ?_
      rintro r5 w5 ⟨rfl, hw⟩
      have hw := hw.symm
      subst hw
      go_wp2_with fail
      refine (S6.out _).mono ?_
      rintro r6 w6 ⟨rfl, hw⟩
      have hw := hw.symm
      subst hw
      go_wp2_with fail
      refine (S7.out _).mono ?_
      rintro r7 w7 ⟨rfl, hw⟩
      have hw := hw.symm
      subst hw
      go_wp2_with fail
      refine (S8.out _).mono ?_
      rintro r8 w8 ⟨rfl, hw⟩
      have hw := hw.symm
      subst hw
      go_wp2_with fail
      refine (LV.out _ (HG.out.below HB2.out)).mono ?_
      rintro r9 w9 ⟨rfl, hb⟩
      have HB9 := Lib.hid (HB2.out.trans (hb.mono HB2.out.size))
      clear hb
      go_wp2_with fail
      go_ret
      exact ⟨rfl, HB9.out⟩
  · have q1 : (5000 : Int) < (sh.size : Int) := by omega
    clear h1 h3 hl
    go_enter Tryd.func3, Tryd.ntmps3
    go_wp2_with fail
    refine (LV.out _ (HG.out.below HB0.out)).mono ?_
    rintro r1 w1 ⟨rfl, hb⟩
    have HB1 := Lib.hid (HB0.out.trans (hb.mono HB0.out.size))
    clear hb
    go_wp2_with fail
    go_ret
    exact ⟨rfl, HB1.out⟩
set_option maxRecDepth 100000 in
set_option maxHeartbeats 8000000 in
theorem texts_walk (s : ByteArray) (most : Int) (w : World) (h2 : (Lit.int .i64 most).wf = true) (hG : Gs w) : Calls Tryd.prog 4 #[.string s, .int .i64 most] w (Tr w) := by
  obtain ⟨a1, a2⟩ := i64_b h2
  have HG := Lib.hid hG
  have HB0 := Lib.hid (Below.refl w.heap.size w)
  have LV := Lib.hid live_any
  by_cases hl : s.size ≤ 5000
  · have S1 := Lib.hid (fun W (h : Gs W) => toHtml_any s (min most 1099511627776) W h.1 (by omega) (by omega) (by omega))
    have S2 := Lib.hid (fun W => rToHtml_any s (min most 1099511627776) W (by omega) (by omega) (by omega))
    have S3 := Lib.hid (fun W (h : Gs W) => fromHtml_any s W h.2 (by omega))
    have S4 := Lib.hid (fun W => rFromHtml_any s W (by omega))
    have qa := eq_self (mk (toH s.data.toList (min most 1099511627776)))
    generalize mk (toH s.data.toList (min most 1099511627776)) = A at S1 S2 qa
    have qb := eq_self (mk (frH s.data.toList))
    generalize mk (frH s.data.toList) = B at S3 S4 qb
    have q1 : ¬ (5000 : Int) < (s.size : Int) := by omega
    clear h2 hl
    go_enter Tryd.func4, Tryd.ntmps4
    go_wp2_with fail
    refine (S1.out _ (HG.out.below HB0.out)).mono ?_
    rintro r1 w1 ⟨rfl, hb⟩
    have HB1 := Lib.hid (HB0.out.trans (hb.mono HB0.out.size))
    clear hb
    go_wp2_with fail
    refine (S2.out _).mono ?_
    rintro r2 w2 ⟨rfl, hb⟩
    have HB2 := Lib.hid (HB1.out.trans (hb.mono HB1.out.size))
    clear hb
    go_wp2_with fail
    refine (S3.out _ (HG.out.below HB2.out)).mono ?_
    rintro r3 w3 ⟨rfl, hb⟩
    have HB3 := Lib.hid (HB2.out.trans (hb.mono HB2.out.size))
    clear hb
    go_wp2_with fail
    refine (S4.out _).mono ?_
    rintro r4 w4 ⟨rfl, hb⟩
    have HB4 := Lib.hid (HB3.out.trans (hb.mono HB3.out.size))
    clear hb
    go_wp2_with fail
    refine (LV.out _ (HG.out.below HB4.out)).mono ?_
    rintro r5 w5 ⟨rfl, hb⟩
    have HB5 := Lib.hid (HB4.out.trans (hb.mono HB4.out.size))
    clear hb
    go_wp2_with fail
    go_ret
    exact ⟨rfl, HB5.out⟩
  · have q1 : (5000 : Int) < (s.size : Int) := by omega
    clear h2 hl
    go_enter Tryd.func4, Tryd.ntmps4
    go_wp2_with fail
    refine (LV.out _ (HG.out.below HB0.out)).mono ?_
    rintro r1 w1 ⟨rfl, hb⟩
    have HB1 := Lib.hid (HB0.out.trans (hb.mono HB0.out.size))
    clear hb
    go_wp2_with fail
    go_ret
    exact ⟨rfl, HB1.out⟩
theorem bt_more (n k : Nat) : bt (n + 512 * k) 8 = bt n 8 ∧ bt (n + 512 * k) 1 = bt n 1 ∧ bt (n + 512 * k) 4 = bt n 4 ∧ bt (n + 512 * k) 2 = bt n 2 ∧ bt (n + 512 * k) 0 = bt n 0 ∧ bt (n + 512 * k) 5 = bt n 5 := by
  have e : ∀ j, (n + 512 * k) / 2 ^ j % 2 = n / 2 ^ j % 2 → bt (n + 512 * k) j = bt n j := fun j h => by unfold bt; rw [h]
  refine ⟨e 8 ?_, e 1 ?_, e 4 ?_, e 2 ?_, e 0 ?_, e 5 ?_⟩ <;> simp only [Nat.reducePow] <;> omega
theorem show_more (n k : Nat) : showT (n + 512 * k) = showT n := by
  obtain ⟨h8, h1, h4, h2, h0, h5⟩ := bt_more n k
  unfold showT
  rw [h8, h1, h4, h2, h0, h5]
theorem bt8_small {n : Nat} (h : n ≤ 511) : bt n 8 = decide (256 ≤ n) := by
  unfold bt
  by_cases e : 256 ≤ n
  · rw [show n / 2 ^ 8 % 2 = 1 by simp only [Nat.reducePow]; omega, decide_eq_true e]; rfl
  · rw [show n / 2 ^ 8 % 2 = 0 by simp only [Nat.reducePow]; omega, decide_eq_false e]; rfl
/-- What is shown is one of five; but for the empty one its status is not 0. -/
theorem show_five (n : Nat) : (showT n = [] ∨ showT n = [97, 119, 97, 121] ∨ showT n = [99, 104, 97, 116] ∨ showT n = [100, 110, 100] ∨ showT n = [120, 97]) := by
  unfold showT
  repeat' split
  all_goals simp
set_option maxRecDepth 100000 in
set_option maxHeartbeats 8000000 in
theorem bits_out (st ot : Int) (w : World) (hG : Gs w) (q : (decide (st < 0) || decide ((511 : Int) < st) || decide (ot < 0) || decide ((1048576 : Int) < ot)) = true) : Calls Tryd.prog 7 #[.int .i64 st, .int .i64 ot] w (Tr w) := by
  have HG := Lib.hid hG
  have HB0 := Lib.hid (Below.refl w.heap.size w)
  have LV := Lib.hid live_any
  cases b1 : decide (st < 0)
  · cases b2 : decide ((511 : Int) < st)
    · cases b3 : decide (ot < 0)
      · cases b4 : decide ((1048576 : Int) < ot)
        · rw [b1, b2, b3, b4] at q; cases q
        · clear q
          go_enter Tryd.func7, Tryd.ntmps7
          go_wp2_with fail
          refine (LV.out _ (HG.out.below HB0.out)).mono ?_
          rintro r1 w1 ⟨rfl, hb⟩
          have HB1 := Lib.hid (HB0.out.trans (hb.mono HB0.out.size))
          clear hb
          go_wp2_with fail
          go_ret
          exact ⟨rfl, HB1.out⟩
      · clear q
        go_enter Tryd.func7, Tryd.ntmps7
        go_wp2_with fail
        refine (LV.out _ (HG.out.below HB0.out)).mono ?_
        rintro r1 w1 ⟨rfl, hb⟩
        have HB1 := Lib.hid (HB0.out.trans (hb.mono HB0.out.size))
        clear hb
        go_wp2_with fail
        go_ret
        exact ⟨rfl, HB1.out⟩
    · clear q
      go_enter Tryd.func7, Tryd.ntmps7
      go_wp2_with fail
      refine (LV.out _ (HG.out.below HB0.out)).mono ?_
      rintro r1 w1 ⟨rfl, hb⟩
      have HB1 := Lib.hid (HB0.out.trans (hb.mono HB0.out.size))
      clear hb
      go_wp2_with fail
      go_ret
      exact ⟨rfl, HB1.out⟩
  · clear q
    go_enter Tryd.func7, Tryd.ntmps7
    go_wp2_with fail
    refine (LV.out _ (HG.out.below HB0.out)).mono ?_
    rintro r1 w1 ⟨rfl, hb⟩
    have HB1 := Lib.hid (HB0.out.trans (hb.mono HB0.out.size))
    clear hb
    go_wp2_with fail
    go_ret
    exact ⟨rfl, HB1.out⟩
set_option maxRecDepth 100000 in
set_option maxHeartbeats 8000000 in
theorem bits_in (n k : Nat) (w : World) (hn : n ≤ 511) (hk : k ≤ 1048576) (hG : Gs w) : Calls Tryd.prog 7 #[.int .i64 (n : Int), .int .i64 (k : Int)] w (Tr w) := by
  have HG := Lib.hid hG
  have HB0 := Lib.hid (Below.refl w.heap.size w)
  have LV := Lib.hid live_any
  have S1 := Lib.hid (fun W => show_any (n : Int) W (by omega))
  have S2 := Lib.hid (fun W => show_any ((n : Int) + 512 * (k : Int)) W (by omega))
  have S3 : Hid (∀ W, Calls Tryd.prog 9 #[.int .i64 ((n : Int) % 256 + 256)] W (ShowP ((n : Int) % 256 + 256) W)) := fun W => show_any _ W (by omega)
  have e2 : showI ((n : Int) + 512 * (k : Int)) = showT n ∧ isI ((n : Int) + 512 * (k : Int)) = !bt n 8 := by
    rw [show (n : Int) + 512 * (k : Int) = ((n + 512 * k : Nat) : Int) by omega, (showI_nat _).1, (showI_nat _).2, show_more, (bt_more n k).1]
    exact ⟨rfl, rfl⟩
  have e3 : showI ((n : Int) % 256 + 256) = [] ∧ isI ((n : Int) % 256 + 256) = false := by
    rw [show (n : Int) % 256 + 256 = ((n % 256 + 256 : Nat) : Int) by omega, (showI_nat _).1, (showI_nat _).2]
    have : bt (n % 256 + 256) 8 = true := by rw [bt8_small (by omega)]; exact decide_eq_true (by omega)
    unfold showT
    rw [this]
    exact ⟨rfl, rfl⟩
  unfold ShowP at S1 S2 S3
  rw [(showI_nat n).1, (showI_nat n).2, bt8_small hn] at S1
  rw [e2.1, e2.2, bt8_small hn] at S2
  rw [e3.1, e3.2] at S3
  have H5 := show_five n
  have hst := Lib.hid (fun W => stat_any (mk (showT n)) W)
  rw [mk_list] at hst
  have hoff : bt n 8 = true → showT n = [] := fun h => by unfold showT; rw [h]; rfl
  rw [bt8_small hn] at hoff
  clear e2 e3
  have d0 : ((n : Int) / 512) = 0 := by omega
  have d1 : (n : Int).tdiv 512 = 0 := by rw [Int.tdiv_eq_ediv_of_nonneg (by omega)]; exact d0
  have d2 : (n : Int).tmod 256 = (n : Int) % 256 := Int.tmod_eq_emod_of_nonneg (by omega)
  by_cases h : 256 ≤ n
  · rw [hoff (decide_eq_true h)] at S1 S2 hst
    rw [decide_eq_true h] at S1 S2
    have b1 : decide ((n : Int) < 256) = false := by rw [decide_eq_false_iff_not]; omega
    have b2 : ¬ (n : Int) < 256 := by omega
    clear H5 hoff h
    have S1 : Hid (∀ W, Calls Tryd.prog 9 #[.int .i64 ((n : Int))] W fun e w' => e = .returned (.tuple #[.string ⟨#[]⟩, .bool false]) ∧ Below W.heap.size W w') := S1
    have S2 : Hid (∀ W, Calls Tryd.prog 9 #[.int .i64 ((n : Int) + 512 * (k : Int))] W fun e w' => e = .returned (.tuple #[.string ⟨#[]⟩, .bool false]) ∧ Below W.heap.size W w') := S2
    have S3 : Hid (∀ W, Calls Tryd.prog 9 #[.int .i64 ((n : Int) % 256 + 256)] W fun e w' => e = .returned (.tuple #[.string ⟨#[]⟩, .bool false]) ∧ Below W.heap.size W w') := S3
    have hst : Hid (∀ W, Calls Tryd.prog 11 #[.string ⟨#[]⟩] W fun e w' => e = .returned (.int .i64 0) ∧ w' = W) := hst
    go_enter Tryd.func7, Tryd.ntmps7
    go_wp2_with fail
    refine (S1.out _).mono ?_
    rintro r1 w1 ⟨rfl, hb⟩
    have HB1 := Lib.hid (HB0.out.trans (hb.mono HB0.out.size))
    clear hb
    go_wp2_with fail
    refine (S2.out _).mono ?_
    rintro r2 w2 ⟨rfl, hb⟩
    have HB2 := Lib.hid (HB1.out.trans (hb.mono HB1.out.size))
    clear hb
    go_wp2_with fail
    refine (S3.out _).mono ?_
    rintro r3 w3 ⟨rfl, hb⟩
    have HB3 := Lib.hid (HB2.out.trans (hb.mono HB2.out.size))
    clear hb
    go_wp2_with fail
    refine (LV.out _ (HG.out.below HB3.out)).mono ?_
    rintro r4 w4 ⟨rfl, hb⟩
    have HB4 := Lib.hid (HB3.out.trans (hb.mono HB3.out.size))
    clear hb
    go_wp2_with fail
    go_ret
    exact ⟨rfl, HB4.out⟩
  · rw [decide_eq_false h] at S1 S2
    have b1 : decide ((n : Int) < 256) = true := by rw [decide_eq_true_iff]; omega
    have b2 : (n : Int) < 256 := by omega
    clear hoff h
    rcases H5 with e | e | e | e | e <;> rw [e] at S1 S2 hst
    · have S1 : Hid (∀ W, Calls Tryd.prog 9 #[.int .i64 ((n : Int))] W fun e w' => e = .returned (.tuple #[.string ⟨#[]⟩, .bool true]) ∧ Below W.heap.size W w') := S1
      have S2 : Hid (∀ W, Calls Tryd.prog 9 #[.int .i64 ((n : Int) + 512 * (k : Int))] W fun e w' => e = .returned (.tuple #[.string ⟨#[]⟩, .bool true]) ∧ Below W.heap.size W w') := S2
      have S3 : Hid (∀ W, Calls Tryd.prog 9 #[.int .i64 ((n : Int) % 256 + 256)] W fun e w' => e = .returned (.tuple #[.string ⟨#[]⟩, .bool false]) ∧ Below W.heap.size W w') := S3
      have hst : Hid (∀ W, Calls Tryd.prog 11 #[.string ⟨#[]⟩] W fun e w' => e = .returned (.int .i64 0) ∧ w' = W) := hst
      go_enter Tryd.func7, Tryd.ntmps7
      go_wp2_with fail
      refine (S1.out _).mono ?_
      rintro r1 w1 ⟨rfl, hb⟩
      have HB1 := Lib.hid (HB0.out.trans (hb.mono HB0.out.size))
      clear hb
      go_wp2_with fail
      refine (S2.out _).mono ?_
      rintro r2 w2 ⟨rfl, hb⟩
      have HB2 := Lib.hid (HB1.out.trans (hb.mono HB1.out.size))
      clear hb
      go_wp2_with fail
      refine (S3.out _).mono ?_
      rintro r3 w3 ⟨rfl, hb⟩
      have HB3 := Lib.hid (HB2.out.trans (hb.mono HB2.out.size))
      clear hb
      go_wp2_with fail
      refine (LV.out _ (HG.out.below HB3.out)).mono ?_
      rintro r4 w4 ⟨rfl, hb⟩
      have HB4 := Lib.hid (HB3.out.trans (hb.mono HB3.out.size))
      clear hb
      go_wp2_with fail
      go_ret
      exact ⟨rfl, HB4.out⟩
    · have S1 : Hid (∀ W, Calls Tryd.prog 9 #[.int .i64 ((n : Int))] W fun e w' => e = .returned (.tuple #[.string ⟨#[97, 119, 97, 121]⟩, .bool true]) ∧ Below W.heap.size W w') := S1
      have S2 : Hid (∀ W, Calls Tryd.prog 9 #[.int .i64 ((n : Int) + 512 * (k : Int))] W fun e w' => e = .returned (.tuple #[.string ⟨#[97, 119, 97, 121]⟩, .bool true]) ∧ Below W.heap.size W w') := S2
      have S3 : Hid (∀ W, Calls Tryd.prog 9 #[.int .i64 ((n : Int) % 256 + 256)] W fun e w' => e = .returned (.tuple #[.string ⟨#[]⟩, .bool false]) ∧ Below W.heap.size W w') := S3
      have hst : Hid (∀ W, Calls Tryd.prog 11 #[.string ⟨#[97, 119, 97, 121]⟩] W fun e w' => e = .returned (.int .i64 1) ∧ w' = W) := hst
      go_enter Tryd.func7, Tryd.ntmps7
      go_wp2_with fail
      refine (S1.out _).mono ?_
      rintro r1 w1 ⟨rfl, hb⟩
      have HB1 := Lib.hid (HB0.out.trans (hb.mono HB0.out.size))
      clear hb
      go_wp2_with fail
      refine (S2.out _).mono ?_
      rintro r2 w2 ⟨rfl, hb⟩
      have HB2 := Lib.hid (HB1.out.trans (hb.mono HB1.out.size))
      clear hb
      go_wp2_with fail
      refine (S3.out _).mono ?_
      rintro r3 w3 ⟨rfl, hb⟩
      have HB3 := Lib.hid (HB2.out.trans (hb.mono HB2.out.size))
      clear hb
      go_wp2_with fail
      refine (hst.out _).mono ?_
      rintro r4 w4 ⟨rfl, hw⟩
      have hw := hw.symm
      subst hw
      go_wp2_with fail
      refine (LV.out _ (HG.out.below HB3.out)).mono ?_
      rintro r5 w5 ⟨rfl, hb⟩
      have HB5 := Lib.hid (HB3.out.trans (hb.mono HB3.out.size))
      clear hb
      go_wp2_with fail
      go_ret
      exact ⟨rfl, HB5.out⟩
    · have S1 : Hid (∀ W, Calls Tryd.prog 9 #[.int .i64 ((n : Int))] W fun e w' => e = .returned (.tuple #[.string ⟨#[99, 104, 97, 116]⟩, .bool true]) ∧ Below W.heap.size W w') := S1
      have S2 : Hid (∀ W, Calls Tryd.prog 9 #[.int .i64 ((n : Int) + 512 * (k : Int))] W fun e w' => e = .returned (.tuple #[.string ⟨#[99, 104, 97, 116]⟩, .bool true]) ∧ Below W.heap.size W w') := S2
      have S3 : Hid (∀ W, Calls Tryd.prog 9 #[.int .i64 ((n : Int) % 256 + 256)] W fun e w' => e = .returned (.tuple #[.string ⟨#[]⟩, .bool false]) ∧ Below W.heap.size W w') := S3
      have hst : Hid (∀ W, Calls Tryd.prog 11 #[.string ⟨#[99, 104, 97, 116]⟩] W fun e w' => e = .returned (.int .i64 32) ∧ w' = W) := hst
      go_enter Tryd.func7, Tryd.ntmps7
      go_wp2_with fail
      refine (S1.out _).mono ?_
      rintro r1 w1 ⟨rfl, hb⟩
      have HB1 := Lib.hid (HB0.out.trans (hb.mono HB0.out.size))
      clear hb
      go_wp2_with fail
      refine (S2.out _).mono ?_
      rintro r2 w2 ⟨rfl, hb⟩
      have HB2 := Lib.hid (HB1.out.trans (hb.mono HB1.out.size))
      clear hb
      go_wp2_with fail
      refine (S3.out _).mono ?_
      rintro r3 w3 ⟨rfl, hb⟩
      have HB3 := Lib.hid (HB2.out.trans (hb.mono HB2.out.size))
      clear hb
      go_wp2_with fail
      refine (hst.out _).mono ?_
      rintro r4 w4 ⟨rfl, hw⟩
      have hw := hw.symm
      subst hw
      go_wp2_with fail
      refine (LV.out _ (HG.out.below HB3.out)).mono ?_
      rintro r5 w5 ⟨rfl, hb⟩
      have HB5 := Lib.hid (HB3.out.trans (hb.mono HB3.out.size))
      clear hb
      go_wp2_with fail
      go_ret
      exact ⟨rfl, HB5.out⟩
    · have S1 : Hid (∀ W, Calls Tryd.prog 9 #[.int .i64 ((n : Int))] W fun e w' => e = .returned (.tuple #[.string ⟨#[100, 110, 100]⟩, .bool true]) ∧ Below W.heap.size W w') := S1
      have S2 : Hid (∀ W, Calls Tryd.prog 9 #[.int .i64 ((n : Int) + 512 * (k : Int))] W fun e w' => e = .returned (.tuple #[.string ⟨#[100, 110, 100]⟩, .bool true]) ∧ Below W.heap.size W w') := S2
      have S3 : Hid (∀ W, Calls Tryd.prog 9 #[.int .i64 ((n : Int) % 256 + 256)] W fun e w' => e = .returned (.tuple #[.string ⟨#[]⟩, .bool false]) ∧ Below W.heap.size W w') := S3
      have hst : Hid (∀ W, Calls Tryd.prog 11 #[.string ⟨#[100, 110, 100]⟩] W fun e w' => e = .returned (.int .i64 2) ∧ w' = W) := hst
      go_enter Tryd.func7, Tryd.ntmps7
      go_wp2_with fail
      refine (S1.out _).mono ?_
      rintro r1 w1 ⟨rfl, hb⟩
      have HB1 := Lib.hid (HB0.out.trans (hb.mono HB0.out.size))
      clear hb
      go_wp2_with fail
      refine (S2.out _).mono ?_
      rintro r2 w2 ⟨rfl, hb⟩
      have HB2 := Lib.hid (HB1.out.trans (hb.mono HB1.out.size))
      clear hb
      go_wp2_with fail
      refine (S3.out _).mono ?_
      rintro r3 w3 ⟨rfl, hb⟩
      have HB3 := Lib.hid (HB2.out.trans (hb.mono HB2.out.size))
      clear hb
      go_wp2_with fail
      refine (hst.out _).mono ?_
      rintro r4 w4 ⟨rfl, hw⟩
      have hw := hw.symm
      subst hw
      go_wp2_with fail
      refine (LV.out _ (HG.out.below HB3.out)).mono ?_
      rintro r5 w5 ⟨rfl, hb⟩
      have HB5 := Lib.hid (HB3.out.trans (hb.mono HB3.out.size))
      clear hb
      go_wp2_with fail
      go_ret
      exact ⟨rfl, HB5.out⟩
    · have S1 : Hid (∀ W, Calls Tryd.prog 9 #[.int .i64 ((n : Int))] W fun e w' => e = .returned (.tuple #[.string ⟨#[120, 97]⟩, .bool true]) ∧ Below W.heap.size W w') := S1
      have S2 : Hid (∀ W, Calls Tryd.prog 9 #[.int .i64 ((n : Int) + 512 * (k : Int))] W fun e w' => e = .returned (.tuple #[.string ⟨#[120, 97]⟩, .bool true]) ∧ Below W.heap.size W w') := S2
      have S3 : Hid (∀ W, Calls Tryd.prog 9 #[.int .i64 ((n : Int) % 256 + 256)] W fun e w' => e = .returned (.tuple #[.string ⟨#[]⟩, .bool false]) ∧ Below W.heap.size W w') := S3
      have hst : Hid (∀ W, Calls Tryd.prog 11 #[.string ⟨#[120, 97]⟩] W fun e w' => e = .returned (.int .i64 4) ∧ w' = W) := hst
      go_enter Tryd.func7, Tryd.ntmps7
      go_wp2_with fail
      refine (S1.out _).mono ?_
      rintro r1 w1 ⟨rfl, hb⟩
      have HB1 := Lib.hid (HB0.out.trans (hb.mono HB0.out.size))
      clear hb
      go_wp2_with fail
      refine (S2.out _).mono ?_
      rintro r2 w2 ⟨rfl, hb⟩
      have HB2 := Lib.hid (HB1.out.trans (hb.mono HB1.out.size))
      clear hb
      go_wp2_with fail
      refine (S3.out _).mono ?_
      rintro r3 w3 ⟨rfl, hb⟩
      have HB3 := Lib.hid (HB2.out.trans (hb.mono HB2.out.size))
      clear hb
      go_wp2_with fail
      refine (hst.out _).mono ?_
      rintro r4 w4 ⟨rfl, hw⟩
      have hw := hw.symm
      subst hw
      go_wp2_with fail
      refine (LV.out _ (HG.out.below HB3.out)).mono ?_
      rintro r5 w5 ⟨rfl, hb⟩
      have HB5 := Lib.hid (HB3.out.trans (hb.mono HB3.out.size))
      clear hb
      go_wp2_with fail
      go_ret
      exact ⟨rfl, HB5.out⟩
theorem bits_walk (st ot : Int) (w : World) (_h1 : (Lit.int .i64 st).wf = true) (_h2 : (Lit.int .i64 ot).wf = true) (hG : Gs w) : Calls Tryd.prog 7 #[.int .i64 st, .int .i64 ot] w (Tr w) := by
  cases q : (decide (st < 0) || decide ((511 : Int) < st) || decide (ot < 0) || decide ((1048576 : Int) < ot))
  · simp only [Bool.or_eq_false_iff, decide_eq_false_iff_not] at q
    obtain ⟨⟨⟨q1, q2⟩, q3⟩, q4⟩ := q
    obtain ⟨n, rfl⟩ : ∃ n : Nat, st = n := ⟨st.toNat, by omega⟩
    obtain ⟨k, rfl⟩ : ∃ k : Nat, ot = k := ⟨ot.toNat, by omega⟩
    exact bits_in n k w (by omega) (by omega) hG
  · exact bits_out st ot w hG q
end Go.Proofs.YtbadoidjdghklaaDoor
