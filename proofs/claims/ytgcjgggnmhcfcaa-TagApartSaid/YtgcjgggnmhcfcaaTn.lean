/- Contracts of tag.mayBegin, mayFollow, isName, isAttrName, isText, isSpace: whether a text may be a name, a space. Condition: the text has at most 1048576 bytes. -/
import Derived.Test.YtgcjgggnmhcfcaaTe
namespace Go.Proofs.Ytgcjgggnmhcfcaa
open Go.RowKit Go.Lib Go.Shelf Tg

theorem mayBegin_any (c : Nat) (w : World) :
    Calls Try.prog 38 #[.int .u8 c] w fun e w' => e = .returned (.bool (bgn c)) ∧ w = w' := by
  have k1 : decide ((97 : Int) ≤ (c : Int)) = decide (97 ≤ c) := by rw [decide_eq_decide]; omega
  have k2 : decide ((c : Int) ≤ 122) = decide (c ≤ 122) := by rw [decide_eq_decide]; omega
  have k3 : decide ((65 : Int) ≤ (c : Int)) = decide (65 ≤ c) := by rw [decide_eq_decide]; omega
  have k4 : decide ((c : Int) ≤ 90) = decide (c ≤ 90) := by rw [decide_eq_decide]; omega
  have k5 : ((c : Int) == 95) = (c == 95) := by rw [Bool.eq_iff_iff]; simp only [beq_iff_eq]; omega
  have E : Hid (bgn c = ((decide (97 ≤ c) && decide (c ≤ 122)) || (decide (65 ≤ c) && decide (c ≤ 90)) || c == 95)) := rfl
  generalize decide (97 ≤ c) = b1 at k1 E
  generalize decide (c ≤ 122) = b2 at k2 E
  generalize decide (65 ≤ c) = b3 at k3 E
  generalize decide (c ≤ 90) = b4 at k4 E
  generalize (c == 95) = b5 at k5 E
  cases b1 <;> cases b2 <;> cases b3 <;> cases b4 <;> cases b5 <;>
  · go_enter Try.func38, Try.ntmps38
    go_wp2
    go_ret
    exact ⟨by rw [E.out]; rfl, rfl⟩
theorem mayFollow_any (c : Nat) (w : World) :
    Calls Try.prog 39 #[.int .u8 c] w fun e w' => e = .returned (.bool (fol c)) ∧ w = w' := by
  have k1 : decide ((48 : Int) ≤ (c : Int)) = decide (48 ≤ c) := by rw [decide_eq_decide]; omega
  have k2 : decide ((c : Int) ≤ 57) = decide (c ≤ 57) := by rw [decide_eq_decide]; omega
  have k3 : ((c : Int) == 45) = (c == 45) := by rw [Bool.eq_iff_iff]; simp only [beq_iff_eq]; omega
  have k4 : ((c : Int) == 46) = (c == 46) := by rw [Bool.eq_iff_iff]; simp only [beq_iff_eq]; omega
  have E : Hid (fol c = ((decide (48 ≤ c) && decide (c ≤ 57)) || c == 45 || c == 46)) := rfl
  generalize decide (48 ≤ c) = b1 at k1 E
  generalize decide (c ≤ 57) = b2 at k2 E
  generalize (c == 45) = b3 at k3 E
  generalize (c == 46) = b4 at k4 E
  cases b1 <;> cases b2 <;> cases b3 <;> cases b4 <;>
  · go_enter Try.func39, Try.ntmps39
    go_wp2
    go_ret
    exact ⟨by rw [E.out]; rfl, rfl⟩
/-- A byte of a name. -/
def nmb (c : Nat) : Bool := bgn c || fol c
theorem all_take {l : List UInt8} {p : UInt8 → Bool} {k : Nat} (h : k < l.length) : (l.take (k + 1)).all p = ((l.take k).all p && p l[k]) := by
  rw [List.take_succ_eq_append_getElem h, List.all_append]; simp
set_option maxRecDepth 100000 in
set_option maxHeartbeats 4000000 in
theorem isName_any (s : ByteArray) (w : World) (hs : s.size ≤ 1048576) :
    Calls Try.prog 27 #[.string s] w fun e w' => e = .returned (.bool (nameB s.data.toList)) ∧ w = w' := by
  have hl := By.len_size s
  have E : Hid (nameB s.data.toList = (!s.data.toList.isEmpty && decide (s.data.toList.length ≤ 64) && bgn (Sg.nb s.data.toList 0) && s.data.toList.all fun c => bgn c.toNat || fol c.toNat)) := rfl
  by_cases h0 : s.size = 0
  · obtain rfl := By.empty_of h0
    clear hl h0 hs
    go_enter Try.func27, Try.ntmps27
    go_wp2
    go_ret
    exact ⟨rfl, rfl⟩
  have hne := By.nonempty h0
  have he : s.data.toList.isEmpty = false := by rw [← ByteArray.toList_eq]; exact hne
  rw [he, hl] at E
  by_cases h64 : 64 < s.size
  · have d64 : decide ((64 : Int) < s.size) = true := by simp; omega
    have E2 : Hid (nameB s.data.toList = false) := by show _ = _; rw [E.out, decide_eq_false (by omega)]; rfl
    clear hl he h0 h64 E
    go_enter Try.func27, Try.ntmps27
    go_wp2
    go_ret
    exact ⟨by rw [E2.out]; rfl, rfl⟩
  have d64 : decide ((64 : Int) < s.size) = false := by simp; omega
  rw [decide_eq_true (show s.size ≤ 64 by omega)] at E
  have i0 : (0 : Int) < s.size := by omega
  have p0 : 0 < s.size := by omega
  have hb := By.byte_nb s 0 p0
  have hnb : By.nb s.data.toList 0 = Sg.nb s.data.toList 0 := rfl
  rw [hnb] at hb
  have MB := Lib.hid (fun W => mayBegin_any (Sg.nb s.data.toList 0) W)
  generalize Sg.nb s.data.toList 0 = y at hb MB E
  cases hbg : bgn y with
  | false =>
    have E2 : Hid (nameB s.data.toList = false) := by show _ = _; rw [E.out, hbg]; rfl
    rw [hbg] at MB
    clear hl he h0 h64 E hbg hnb
    go_enter Try.func27, Try.ntmps27
    go_wp2_with fail
    refine (MB.out _).mono ?_
    rintro r w' ⟨rfl, rfl⟩
    go_wp2_with fail
    go_ret
    exact ⟨by rw [E2.out]; rfl, rfl⟩
  | true =>
    have E2 : Hid (nameB s.data.toList = s.data.toList.all fun c => bgn c.toNat || fol c.toNat) := by show _ = _; rw [E.out, hbg]; rfl
    rw [hbg] at MB
    have HL := Lib.hid hl
    clear hl he h0 h64 E hbg hnb
    go_enter Try.func27, Try.ntmps27
    go_wp2_with fail
    refine (MB.out _).mono ?_
    rintro r w' ⟨rfl, rfl⟩
    go_wp2_with fail
    go_loop [19] (fun i => ∃ k : Nat, i = .int .i64 k ∧ k ≤ s.size ∧ Hid ((s.data.toList.take k).all (fun c => bgn c.toNat || fol c.toNat) = true)) (fun i => s.size - (RowKit.intOf i).toNat)
    case atStart => exact ⟨0, rfl, Nat.zero_le _, rfl⟩
    case round =>
      obtain ⟨k, rfl, hk, HA⟩ := hrel
      by_cases hlt : k < s.size
      · have hbk := By.byte_nb s k hlt
        have hlt2 : k < s.data.toList.length := by rw [HL.out]; exact hlt
        have hgk : (s.data.toList[k]'hlt2).toNat = By.nb s.data.toList k := by
          unfold By.nb
          rw [List.getD_eq_getElem?_getD, List.getElem?_eq_getElem hlt2]; rfl
        have HT := Lib.hid (all_take (p := fun c => bgn c.toNat || fol c.toNat) hlt2)
        have MB := Lib.hid (fun W => mayBegin_any (By.nb s.data.toList k) W)
        have MF := Lib.hid (fun W => mayFollow_any (By.nb s.data.toList k) W)
        have HM : Hid (s.data.toList[k]'hlt2 ∈ s.data.toList) := List.getElem_mem hlt2
        have HG : Hid ((bgn (s.data.toList[k]'hlt2).toNat || fol (s.data.toList[k]'hlt2).toNat) = (bgn (By.nb s.data.toList k) || fol (By.nb s.data.toList k))) := by show _ = _; rw [hgk]
        clear hgk
        generalize By.nb s.data.toList k = z at hbk MB MF HG
        generalize bgn z = b1 at MB HG
        generalize fol z = b2 at MF HG
        cases b1
        · cases b2
          · have E3 : Hid (nameB s.data.toList = false) := by
              show _ = _
              rw [E2.out, Bool.eq_false_iff]
              intro h
              have := List.all_eq_true.1 h _ HM.out
              rw [HG.out] at this
              cases this
            clear hlt2 HM HG HT
            go_wp2_with fail
            refine (MB.out _).mono ?_
            rintro r w' ⟨rfl, rfl⟩
            go_wp2_with fail
            refine (MF.out _).mono ?_
            rintro r w' ⟨rfl, rfl⟩
            go_wp2_with fail
            go_ret
            exact ⟨by rw [E3.out]; rfl, rfl⟩
          · have HA2 : Hid ((s.data.toList.take (k + 1)).all (fun c => bgn c.toNat || fol c.toNat) = true) := by
              show _ = _
              rw [HT.out, HA.out, HG.out]; rfl
            clear hlt2 HM HG HT
            go_wp2_with fail
            refine (MB.out _).mono ?_
            rintro r w' ⟨rfl, rfl⟩
            go_wp2_with fail
            refine (MF.out _).mono ?_
            rintro r w' ⟨rfl, rfl⟩
            go_wp2_with fail
            go_round
            case rel => exact ⟨k + 1, by go_num, by omega, HA2.out⟩
            case measure => simp [RowKit.intOf]; omega
        · have HA2 : Hid ((s.data.toList.take (k + 1)).all (fun c => bgn c.toNat || fol c.toNat) = true) := by
            show _ = _
            rw [HT.out, HA.out, HG.out]; rfl
          clear hlt2 HM HG HT
          go_wp2_with fail
          refine (MB.out _).mono ?_
          rintro r w' ⟨rfl, rfl⟩
          go_wp2_with fail
          go_round
          case rel => exact ⟨k + 1, by go_num, by omega, HA2.out⟩
          case measure => simp [RowKit.intOf]; omega
      · have E3 : Hid (nameB s.data.toList = true) := by
          have := HA.out
          rw [List.take_of_length_le (by rw [HL.out]; omega)] at this
          show _ = _
          rw [E2.out, this]
        go_wp2_with fail
        go_ret
        exact ⟨by rw [E3.out]; rfl, rfl⟩
theorem isText_any (s : ByteArray) (w : World) (hs : s.size ≤ 1048576) :
    Calls Try.prog 29 #[.string s] w fun e w' => e = .returned (.bool (isTx s.data.toList)) ∧ Below w.heap.size w w' := by
  by_cases h : ∃ cs, Sg.IsT s.data.toList cs
  · obtain ⟨cs, h⟩ := h
    have E : Hid (isTx s.data.toList = true) := (isTx_iff _).2 ⟨cs, h⟩
    have H := Lib.hid (fun W => check_yes s W hs h)
    clear h hs
    go_enter Try.func29, Try.ntmps29
    go_wp2_with fail
    refine (H.out _).mono ?_
    rintro r w' ⟨rfl, hb⟩
    have HB := Lib.hid hb
    clear hb
    go_wp2_with fail
    go_ret
    exact ⟨by rw [E.out]; rfl, HB.out⟩
  · have E : Hid (isTx s.data.toList = false) := by show _ = _; rw [Bool.eq_false_iff, ne_eq, isTx_iff]; exact h
    have H := Lib.hid (fun W => check_no s W hs fun cs hc => h ⟨cs, hc⟩)
    clear h hs
    go_enter Try.func29, Try.ntmps29
    go_wp2_with fail
    refine (H.out _).mono ?_
    rintro r w' ⟨rfl, hb⟩
    have HB := Lib.hid hb
    clear hb
    go_wp2_with fail
    go_ret
    exact ⟨by rw [E.out]; rfl, HB.out⟩
theorem isSpace_any (s : ByteArray) (w : World) (hs : s.size ≤ 1048576) :
    Calls Try.prog 28 #[.string s] w fun e w' => e = .returned (.bool (spaceB s.data.toList)) ∧ Below w.heap.size w w' := by
  have hl := By.len_size s
  have HB0 : Hid (Below w.heap.size w w) := Below.refl _ _
  have E : Hid (spaceB s.data.toList = (!s.data.toList.isEmpty && decide (s.data.toList.length ≤ 256) && isTx s.data.toList)) := rfl
  by_cases h0 : s.size = 0
  · obtain rfl := By.empty_of h0
    have E2 : Hid (spaceB (⟨#[]⟩ : ByteArray).data.toList = false) := E.out.trans (by simp)
    clear hl h0 hs E
    go_enter Try.func28, Try.ntmps28
    go_wp2
    go_ret
    exact ⟨by rw [E2.out]; rfl, HB0.out⟩
  have hne := By.nonempty h0
  have hne2 : (s.toList != []) = true := by
    rw [bne_iff_ne]; intro h; rw [h] at hne; cases hne
  have he : s.data.toList.isEmpty = false := by rw [← ByteArray.toList_eq]; exact hne
  rw [he, hl] at E
  by_cases h64 : s.size ≤ 256
  · have d64 : decide ((s.size : Int) ≤ 256) = true := by simp; omega
    have E2 : Hid (spaceB s.data.toList = isTx s.data.toList) := by show _ = _; rw [E.out, decide_eq_true h64]; rfl
    have H := Lib.hid (fun W => isText_any s W hs)
    generalize isTx s.data.toList = b at H E2
    clear hl he h0 h64 E
    go_enter Try.func28, Try.ntmps28
    go_wp2_with fail
    refine (H.out _).mono ?_
    rintro r w' ⟨rfl, hb⟩
    have HB := Lib.hid hb
    clear hb
    go_wp2_with fail
    go_ret
    exact ⟨by rw [E2.out]; rfl, HB.out⟩
  · have d64 : decide ((s.size : Int) ≤ 256) = false := by simp; omega
    have E2 : Hid (spaceB s.data.toList = false) := by show _ = _; rw [E.out, decide_eq_false h64]; rfl
    clear hl he h0 h64 E
    go_enter Try.func28, Try.ntmps28
    go_wp2
    go_ret
    exact ⟨by rw [E2.out]; rfl, HB0.out⟩
theorem isAttrName_any (s : ByteArray) (w : World) (hs : s.size ≤ 1048576) :
    Calls Try.prog 30 #[.string s] w fun e w' => e = .returned (.bool (attrNameB s.data.toList)) ∧ w = w' := by
  have E : Hid (attrNameB s.data.toList = (s.data.toList == xlang || (!(s.data.toList == xmlns) && nameB s.data.toList))) := rfl
  have N := Lib.hid (fun W => isName_any s W hs)
  by_cases h1 : s.data.toList = xlang
  · obtain rfl : s = ⟨#[120, 109, 108, 58, 108, 97, 110, 103]⟩ := bytes_eq h1
    have E2 : Hid (attrNameB (⟨#[120, 109, 108, 58, 108, 97, 110, 103]⟩ : ByteArray).data.toList = true) := by show _ = _; decide
    clear E N h1 hs
    go_enter Try.func30, Try.ntmps30
    go_wp2_with fail
    go_ret
    exact ⟨by rw [E2.out]; rfl, rfl⟩
  by_cases h2 : s.data.toList = xmlns
  · obtain rfl : s = ⟨#[120, 109, 108, 110, 115]⟩ := bytes_eq h2
    have E2 : Hid (attrNameB (⟨#[120, 109, 108, 110, 115]⟩ : ByteArray).data.toList = false) := by show _ = _; decide
    clear E N h1 h2 hs
    go_enter Try.func30, Try.ntmps30
    go_wp2_with fail
    go_ret
    exact ⟨by rw [E2.out]; rfl, rfl⟩
  have n1 : ¬ s.toList = [120, 109, 108, 58, 108, 97, 110, 103] := by rw [ByteArray.toList_eq]; exact h1
  have n2 : ¬ s.toList = [120, 109, 108, 110, 115] := by rw [ByteArray.toList_eq]; exact h2
  have m1 : (s.toList == [120, 109, 108, 58, 108, 97, 110, 103]) = false := by rw [beq_eq_false_iff_ne]; exact n1
  have m2 : (s.toList == [120, 109, 108, 110, 115]) = false := by rw [beq_eq_false_iff_ne]; exact n2
  have E2 : Hid (attrNameB s.data.toList = nameB s.data.toList) := by
    show _ = _
    rw [E.out, show (s.data.toList == xlang) = false from by simpa using h1, show (s.data.toList == xmlns) = false from by simpa using h2]; rfl
  generalize nameB s.data.toList = b at N E2
  clear E h1 h2 hs
  go_enter Try.func30, Try.ntmps30
  go_wp2_with fail
  refine (N.out _).mono ?_
  rintro r w' ⟨rfl, rfl⟩
  go_wp2_with fail
  go_ret
  exact ⟨by rw [E2.out]; rfl, rfl⟩
end Go.Proofs.Ytgcjgggnmhcfcaa
