/- The law of quotes: a quote has no mark and no byte 9, A, D; a text without them stays; two, one behind the other, are quoted so. Condition: none (texts of more than 20000 bytes together are answered by the first line alone); each text is within the form's own reach. -/
import Derived.Test.YtgcjgggnmhcfcaaTz
namespace Go.Proofs.Ytgcjgggnmhcfcaa
open Go.RowKit Go.Lib Go.Shelf Tg

theorem any_take {l : List UInt8} {p : UInt8 → Bool} {k : Nat} (h : k < l.length) : (l.take (k + 1)).any p = ((l.take k).any p || p l[k]) := by
  rw [List.take_succ_eq_append_getElem h, List.any_append]; simp
theorem at_u {l : List UInt8} {k : Nat} (h : k < l.length) : l[k] = By.u (By.nb l k) := by
  unfold By.nb
  rw [List.getD_eq_getElem?_getD, List.getElem?_eq_getElem h]
  exact (By.nat_u _).symm
/-- What the first loop keeps. -/
def MkR (s : ByteArray) (b i : Value) : Prop := ∃ (k : Nat) (m : Bool), i = .int .i64 k ∧ b = .bool m ∧ k ≤ s.size ∧ Hid ((s.data.toList.take k).any sp8 = m)
theorem q_not {l : List UInt8} {k : Nat} (h : k < (q l).length) : By.nb (q l) k ≠ 60 ∧ By.nb (q l) k ≠ 62 ∧ By.nb (q l) k ≠ 39 ∧ By.nb (q l) k ≠ 34 ∧ By.nb (q l) k ≠ 9 ∧ By.nb (q l) k ≠ 10 ∧ By.nb (q l) k ≠ 13 := by
  have hm : (q l)[k] ∈ q l := List.getElem_mem h
  obtain ⟨a, b, c, d, e, f, g⟩ := q_no hm
  rw [at_u h] at a b c d e f g
  refine ⟨?_, ?_, ?_, ?_, ?_, ?_, ?_⟩ <;> (intro e0; rw [e0] at a b c d e f g; first | exact a rfl | exact b rfl | exact c rfl | exact d rfl | exact e rfl | exact f rfl | exact g rfl)
set_option maxRecDepth 100000 in
set_option maxHeartbeats 8000000 in
theorem tagMarks_walk (s t : ByteArray) (w : World) (hs : s.size ≤ 140737488351232) (ht : t.size ≤ 140737488351232) :
    Calls Try.prog 4 #[.string s, .string t] w fun e w' => e = .returned (.bool true) ∧ Below w.heap.size w w' := by
  have HL := Lib.hid (fun W => live_any W)
  by_cases hbig : 20000 < s.size + t.size
  · have f0 : decide ((20000 : Int) < (s.size : Int) + (t.size : Int)) = true := by simp; omega
    clear hbig
    go_enter Try.func4, Try.ntmps4
    go_wp2_with fail
    refine (HL.out _).mono ?_
    rintro r w1 ⟨rfl, hb⟩
    have HB := Lib.hid hb
    clear hb
    go_wp2_with fail
    go_ret
    exact ⟨rfl, HB.out⟩
  have f0 : decide ((20000 : Int) < (s.size : Int) + (t.size : Int)) = false := by simp; omega
  have hs2 : s.size ≤ 20000 := by omega
  have ht2 : t.size ≤ 20000 := by omega
  have Q1 := Lib.hid (fun W => quote_any s W (by omega))
  have Q2 := Lib.hid (fun W => quote_any t W (by omega))
  have Q3 : Hid (∀ W, Calls Try.prog 11 #[.string (s ++ t)] W fun e w' => e = .returned (.string (⟨(q s.data.toList).toArray⟩ ++ ⟨(q t.data.toList).toArray⟩)) ∧ Below W.heap.size W w') := by
    intro W
    have hz : (s ++ t).size ≤ 1048576 := by rw [Lib.size_eq, By.append_list, List.length_append, len_size, len_size]; omega
    have hq : (⟨(q (s ++ t).data.toList).toArray⟩ : ByteArray) = ⟨(q s.data.toList).toArray⟩ ++ ⟨(q t.data.toList).toArray⟩ := bytes_eq (by rw [By.append_list, mk_list, mk_list, mk_list, By.append_list, q_append])
    have := quote_any (s ++ t) W hz
    rwa [hq] at this
  have hqs := (q_len s.data.toList).2
  have hqt := (q_len t.data.toList).2
  rw [len_size] at hqs hqt
  have hz1 : (⟨(q s.data.toList).toArray⟩ : ByteArray).size ≤ 120000 := by rw [mk_size]; omega
  have hz2 : (⟨(q t.data.toList).toArray⟩ : ByteArray).size ≤ 120000 := by rw [mk_size]; omega
  have HQ := Lib.hid (mk_list (q s.data.toList))
  have HSAME : Hid ((s.data.toList.any sp8 = false → (⟨(q s.data.toList).toArray⟩ : ByteArray) = s) ∧ (s.data.toList.any sp8 = true → (⟨(q s.data.toList).toArray⟩ : ByteArray) ≠ s)) := by
    constructor
    · intro h
      exact bytes_eq (by rw [mk_list, (q_same _).2 h])
    · intro h e
      have h2 := congrArg (fun b : ByteArray => b.data.toList) e
      simp only at h2
      rw [mk_list, q_same, h] at h2
      cases h2
  have HLS := Lib.hid (By.len_size s)
  have HNOT : Hid (∀ k, k < (⟨(q s.data.toList).toArray⟩ : ByteArray).size → By.nb (⟨(q s.data.toList).toArray⟩ : ByteArray).data.toList k ≠ 60 ∧ By.nb (⟨(q s.data.toList).toArray⟩ : ByteArray).data.toList k ≠ 62 ∧ By.nb (⟨(q s.data.toList).toArray⟩ : ByteArray).data.toList k ≠ 39 ∧ By.nb (⟨(q s.data.toList).toArray⟩ : ByteArray).data.toList k ≠ 34 ∧ By.nb (⟨(q s.data.toList).toArray⟩ : ByteArray).data.toList k ≠ 9 ∧ By.nb (⟨(q s.data.toList).toArray⟩ : ByteArray).data.toList k ≠ 10 ∧ By.nb (⟨(q s.data.toList).toArray⟩ : ByteArray).data.toList k ≠ 13) := by
    intro k hk
    rw [mk_size] at hk
    rw [mk_list]
    exact q_not hk
  generalize (⟨(q s.data.toList).toArray⟩ : ByteArray) = tq at Q1 Q3 hz1 HQ HSAME HNOT
  generalize (⟨(q t.data.toList).toArray⟩ : ByteArray) = tt at Q2 Q3 hz2
  have HLQ := Lib.hid (By.len_size tq)
  clear hbig hqs hqt HQ
  go_enter Try.func4, Try.ntmps4
  go_wp2_with fail
  refine (Q1.out _).mono ?_
  rintro r w1 ⟨rfl, hb⟩
  have HB1 := Lib.hid hb
  clear hb Q1
  go_wp2_with fail
  go_loop [6, 7] (fun b i => MkR s b i) (fun _ i => s.size - (RowKit.intOf i).toNat)
  case atStart => exact ⟨0, false, rfl, rfl, Nat.zero_le _, rfl⟩
  case round =>
    obtain ⟨k, m, rfl, rfl, hk, HM⟩ := hrel
    by_cases hlt : k < s.size
    · have hbk := By.byte_nb s k hlt
      have hlt2 : k < s.data.toList.length := by rw [HLS.out]; exact hlt
      have HA := Lib.hid (any_take (p := sp8) hlt2)
      have HU := Lib.hid (at_u hlt2)
      have y256 := By.nb_lt s.data.toList k
      cases m with
      | true =>
        have HM2 : Hid ((s.data.toList.take (k + 1)).any sp8 = true) := by show _ = _; rw [HA.out, HM.out]; rfl
        generalize By.nb s.data.toList k = y at hbk y256 HU
        clear HA HU hlt2
        go_wp2_with fail
        go_round
        case rel => exact ⟨k + 1, true, by go_num, rfl, by omega, HM2.out⟩
        case measure => simp [RowKit.intOf]; omega
      | false =>
        generalize By.nb s.data.toList k = y at hbk y256 HU
        rcases sp8_cases y y256 with h8 | hno
        · have HM2 : Hid ((s.data.toList.take (k + 1)).any sp8 = true) := by
            show _ = _
            rw [HA.out, HU.out]
            rcases h8 with rfl | rfl | rfl | rfl | rfl | rfl | rfl | rfl <;> simp [sp8, By.u]
          clear HA HU hlt2 y256
          rcases h8 with rfl | rfl | rfl | rfl | rfl | rfl | rfl | rfl
          all_goals
            go_wp2_with fail
            go_round
            case rel => exact ⟨k + 1, true, by go_num, rfl, by omega, HM2.out⟩
            case measure => simp [RowKit.intOf]; omega
        · have HM2 : Hid ((s.data.toList.take (k + 1)).any sp8 = false) := by show _ = _; rw [HA.out, HM.out, HU.out, hno]; rfl
          have hn : ∀ j : Nat, sp8 (By.u j) = true → ((y : Int) == (j : Int)) = false := by
            intro j hj
            rw [beq_eq_false_iff_ne]
            intro e
            have : y = j := by omega
            rw [this, hj] at hno
            cases hno
          have b38 : ((y : Int) == 38) = false := hn 38 (by decide)
          have b60 : ((y : Int) == 60) = false := hn 60 (by decide)
          have b62 : ((y : Int) == 62) = false := hn 62 (by decide)
          have b39 : ((y : Int) == 39) = false := hn 39 (by decide)
          have b34 : ((y : Int) == 34) = false := hn 34 (by decide)
          have b9 : ((y : Int) == 9) = false := hn 9 (by decide)
          have b10 : ((y : Int) == 10) = false := hn 10 (by decide)
          have b13 : ((y : Int) == 13) = false := hn 13 (by decide)
          clear HA HU hlt2 hn hno
          go_wp2_with fail
          go_round
          case rel => exact ⟨k + 1, false, by go_num, rfl, by omega, HM2.out⟩
          case measure => simp [RowKit.intOf]; omega
    · have HM2 : Hid (s.data.toList.any sp8 = m) := by
        have := HM.out
        rwa [List.take_of_length_le (by rw [HLS.out]; omega)] at this
      clear HM
      go_wp2_with fail
      go_loop [9] (fun i => ∃ j : Nat, i = .int .i64 j ∧ j ≤ tq.size) (fun i => tq.size - (RowKit.intOf i).toNat)
      case atStart => exact ⟨0, rfl, Nat.zero_le _⟩
      case round =>
        obtain ⟨j, rfl, hj⟩ := hrel
        by_cases hjl : j < tq.size
        · have hbk := By.byte_nb tq j hjl
          obtain ⟨n60, n62, n39, n34, n9, n10, n13⟩ := HNOT.out j hjl
          generalize By.nb tq.data.toList j = z at hbk n60 n62 n39 n34 n9 n10 n13
          have b60 : ((z : Int) == 60) = false := by rw [beq_eq_false_iff_ne]; omega
          have b62 : ((z : Int) == 62) = false := by rw [beq_eq_false_iff_ne]; omega
          have b39 : ((z : Int) == 39) = false := by rw [beq_eq_false_iff_ne]; omega
          have b34 : ((z : Int) == 34) = false := by rw [beq_eq_false_iff_ne]; omega
          have b9 : ((z : Int) == 9) = false := by rw [beq_eq_false_iff_ne]; omega
          have b10 : ((z : Int) == 10) = false := by rw [beq_eq_false_iff_ne]; omega
          have b13 : ((z : Int) == 13) = false := by rw [beq_eq_false_iff_ne]; omega
          clear n60 n62 n39 n34 n9 n10 n13
          go_wp2_with fail
          go_round
          case rel => exact ⟨j + 1, by go_num, by omega⟩
          case measure => simp [RowKit.intOf]; omega
        · cases m with
          | true =>
            have hne := HSAME.out.2 HM2.out
            have e1 : (tq.toList == s.toList) = false := by
              rw [beq_eq_false_iff_ne, ByteArray.toList_eq, ByteArray.toList_eq]
              exact fun e => hne (bytes_eq e)
            clear hne HSAME HM2
            go_wp2_with fail
            refine (Q3.out _).mono ?_
            rintro r w2 ⟨rfl, hb⟩
            have HB2 := Lib.hid (more HB1.out (Nat.le_refl _) hb)
            clear hb
            go_wp2_with fail
            refine (Q2.out _).mono ?_
            rintro r w3 ⟨rfl, hb⟩
            have HB3 := Lib.hid (more HB2.out (Nat.le_refl _) hb)
            clear hb
            go_wp2_with fail
            refine (HL.out _).mono ?_
            rintro r w4 ⟨rfl, hb⟩
            have HB4 := Lib.hid (more HB3.out (Nat.le_refl _) hb)
            clear hb
            go_wp2_with fail
            go_ret
            exact ⟨rfl, HB4.out⟩
          | false =>
            obtain rfl := HSAME.out.1 HM2.out
            clear HSAME HM2
            go_wp2_with fail
            refine (Q3.out _).mono ?_
            rintro r w2 ⟨rfl, hb⟩
            have HB2 := Lib.hid (more HB1.out (Nat.le_refl _) hb)
            clear hb
            go_wp2_with fail
            refine (Q2.out _).mono ?_
            rintro r w3 ⟨rfl, hb⟩
            have HB3 := Lib.hid (more HB2.out (Nat.le_refl _) hb)
            clear hb
            go_wp2_with fail
            refine (HL.out _).mono ?_
            rintro r w4 ⟨rfl, hb⟩
            have HB4 := Lib.hid (more HB3.out (Nat.le_refl _) hb)
            clear hb
            go_wp2_with fail
            go_ret
            exact ⟨rfl, HB4.out⟩
end Go.Proofs.Ytgcjgggnmhcfcaa
