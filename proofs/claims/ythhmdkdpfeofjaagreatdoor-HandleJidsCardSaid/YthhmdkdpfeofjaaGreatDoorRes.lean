/- Contracts of the document's own Escape, Unescape and Is for layer 2. Condition: the text has at most 1048576 bytes. -/
import Derived.Test.YthhmdkdpfeofjaaGreatDoorRat
namespace Go.Proofs.YthhmdkdpfeofjaaGreatDoor
open Go.RowKit Go.Lib By Esc

set_option maxRecDepth 100000 in
theorem rEscape_bad (s : ByteArray) (w : World) (hs : s.size ≤ 1048576) (h : bad s.data.toList = true) :
    Calls Tryz.prog 17 #[.string s] w fun e w' => e = .returned (.tuple #[.string ⟨#[]⟩, .int .i64 20]) ∧ Below w.heap.size w w' := by
  have HW : Hid (Below w.heap.size w w) := Below.refl _ _
  have hl := len_size s
  by_cases h0 : s.size = 0
  · obtain rfl := empty_of h0
    clear hl h h0
    go_enter Tryz.func17, Tryz.ntmps17
    go_wp2_with fail
    go_ret2
    exact ⟨rfl, HW.out⟩
  · have hne := nonempty h0
    have p0 : 0 < s.size := by omega
    have i0 : (0 : Int) < s.size := by omega
    have hb := byte_nb s 0 p0
    unfold bad at h
    rw [show s.data.toList.isEmpty = false by rw [← ByteArray.toList_eq]; exact hne, Bool.false_or, hl] at h
    by_cases h1 : nb s.data.toList 0 = 32
    · rw [h1] at hb
      clear hl h h0 h1
      go_enter Tryz.func17, Tryz.ntmps17
      go_wp2_with fail
      go_ret2
      exact ⟨rfl, HW.out⟩
    · have h2 : nb s.data.toList (s.size - 1) = 32 := by simpa [h1] using h
      have pl : s.size - 1 < s.size := by omega
      have hb2 := byte_nb s (s.size - 1) pl
      rw [h2] at hb2
      have e1 : ((s.size : Int) - 1).toNat = s.size - 1 := by omega
      generalize nb s.data.toList 0 = y at hb h1
      have f1 : ((y : Int) == 32) = false := by rw [beq_eq_false_iff_ne]; omega
      clear hl h h0 h1 h2
      go_enter Tryz.func17, Tryz.ntmps17
      go_wp2_with fail
      go_ret2
      exact ⟨rfl, HW.out⟩
set_option maxRecDepth 100000 in
theorem rgood_parts {s : ByteArray} (h : bad s.data.toList = false) : s.toList.isEmpty = false ∧ 0 < s.size ∧ nb s.data.toList 0 ≠ 32 ∧ nb s.data.toList (s.size - 1) ≠ 32 := by
  obtain ⟨h0, h1, h2⟩ := bad_false h
  rw [len_size] at h2
  have h3 : ¬ s.size = 0 := fun e => h0 (by rw [empty_of e])
  exact ⟨nonempty h3, by omega, h1, h2⟩
set_option maxRecDepth 100000 in
/-- Behind the table's nine bytes: what they tell of a byte. -/
theorem dtx_size {k : Nat} (h : k < 10) : (dtx k).size = 2 := by
  have : k = 0 ∨ k = 1 ∨ k = 2 ∨ k = 3 ∨ k = 4 ∨ k = 5 ∨ k = 6 ∨ k = 7 ∨ k = 8 ∨ k = 9 := by omega
  rcases this with rfl | rfl | rfl | rfl | rfl | rfl | rfl | rfl | rfl | rfl <;> rfl
set_option maxRecDepth 100000 in
theorem kN_last (y j : Nat) (h : bl.getD j 0 = y) : kN y (j + 1) = j := by unfold kN; rw [if_pos h]
set_option maxRecDepth 100000 in
theorem kN_pass (y j : Nat) (h : bl.getD j 0 ≠ y) : kN y (j + 1) = kN y j := by rw [kN, if_neg h]

set_option maxRecDepth 100000 in
set_option maxHeartbeats 4000000 in
theorem rEscape_good (s : ByteArray) (w : World) (hs : s.size ≤ 1048576) (h : bad s.data.toList = false) :
    Calls Tryz.prog 17 #[.string s] w fun e w' => e = .returned (.tuple #[.string ⟨(E s.data.toList).toArray⟩, .int .i64 0]) ∧ Below w.heap.size w w' := by
  obtain ⟨hne, p0, h1, h2⟩ := rgood_parts h
  have hl := len_size s
  have HW : Hid (Below w.heap.size w w) := Below.refl _ _
  have i0 : (0 : Int) < s.size := by omega
  have hb := byte_nb s 0 p0
  have pl : s.size - 1 < s.size := by omega
  have hb2 := byte_nb s (s.size - 1) pl
  have e1 : ((s.size : Int) - 1).toNat = s.size - 1 := by omega
  generalize nb s.data.toList 0 = y at hb h1
  generalize nb s.data.toList (s.size - 1) = z at hb2 h2
  have f1 : ((y : Int) == 32) = false := by rw [beq_eq_false_iff_ne]; omega
  have f2 : ((z : Int) == 32) = false := by rw [beq_eq_false_iff_ne]; omega
  have HL := Lib.hid hl
  have HE := Lib.hid (E_len s.data.toList)
  clear hl h h1 h2
  go_enter Tryz.func17, Tryz.ntmps17
  go_wp2_with fail
  go_loopw [4, 5] (fun o i wr => ∃ (k : Nat) (O : ByteArray), o = .string O ∧ i = .int .i64 k ∧ k ≤ s.size ∧ Hid (O.data.toList ++ E (s.data.toList.drop k) = E s.data.toList) ∧ Hid (Below w.heap.size w wr)) (fun _ i _ => s.size - (RowKit.intOf i).toNat)
  case atStart => exact ⟨0, ⟨#[]⟩, rfl, rfl, by omega, (by show _ = _; simp), HW.out⟩
  case round =>
    obtain ⟨k, O, rfl, rfl, hk, HO, HB⟩ := hrel
    by_cases hlt : k < s.size
    · obtain ⟨b, hdr, hnb⟩ := drop_cons s.data.toList k (by rw [HL.out]; exact hlt)
      have hbk := byte_nb s k hlt
      have ho := HO.out
      rw [hdr, E] at ho
      have HO1 := Lib.hid ho
      have HDR := Lib.hid hdr
      have hOm : O.size ≤ 4194304 := by
        have h1 := congrArg List.length ho
        have h2 := HE.out
        simp only [List.length_append] at h1
        rw [HL.out] at h2
        rw [Lib.size_eq]
        omega
      have x256 := nat_lt b
      rw [hnb] at hbk
      have hx : b.toNat = b.toNat := rfl
      clear ho hdr hnb hx
      have HAt := Lib.hid (rAt_any (s.extract k s.size) · (by rw [ByteArray.size_extract]; omega))
      have HX : Hid ((s.extract k s.size).data.toList = b :: s.data.toList.drop (k + 1)) := (extract_drop s k).trans HDR.out
      generalize hxb : b.toNat = x at hbk x256
      have HXB := Lib.hid hxb
      clear hxb
      go_wp2_with fail
      refine (bytes_any _).mono ?_
      rintro r w2 ⟨rfl, rfl⟩
      go_wp2_with fail
      go_loopw [6, 8] (fun kk j wr2 => ∃ n : Nat, j = .int .i64 n ∧ n ≤ 9 ∧ kk = .int .i64 (kN x n) ∧ Hid (Below w.heap.size w wr2)) (fun _ j _ => 9 - (RowKit.intOf j).toNat)
      case atStart => exact ⟨0, rfl, by omega, rfl, HB.out⟩
      case round =>
        obtain ⟨n, rfl, hn, rfl, HB2⟩ := hrel
        by_cases hn9 : n < 9
        · have hBS := BS_size
          have q0 : n < BS.size := by rw [hBS]; omega
          have hv := (byte_nb BS n q0).trans (BS_nb n)
          by_cases e : bl.getD n 0 = x
          · have HK := Lib.hid (kN_last x n e)
            rw [e] at hv
            generalize kN x n = kk
            clear e
            go_wp2_with fail
            go_quiet (fail)
            go_wp2_with fail
            exact ⟨⟨n + 1, by go_num, by omega, by rw [HK.out], HB2.out.trans ((below_drewN _ _).mono HB2.out.size)⟩, by simp [RowKit.intOf]; omega⟩
          · have HK := Lib.hid (kN_pass x n e)
            generalize bl.getD n 0 = v at hv e
            have f : ((v : Int) == (x : Int)) = false := by rw [beq_eq_false_iff_ne]; omega
            generalize hkk : kN x n = kk at HK
            clear e hkk
            go_wp2_with fail
            go_quiet (fail)
            go_wp2_with fail
            exact ⟨⟨n + 1, by go_num, by omega, by rw [HK.out], HB2.out.trans ((below_drewN _ _).mono HB2.out.size)⟩, by simp [RowKit.intOf]; omega⟩
        · obtain rfl : n = 9 := by omega
          have hxb := HXB.out
          by_cases hat : atK (b :: s.data.toList.drop (k + 1)) < 10
          · have HP : Hid (O.data.toList ++ 92 :: dgs.getD 9 [] ++ E (s.data.toList.drop (k + 1)) = E s.data.toList) := by
              show _ = _
              rw [← HO1.out, pc_at hat]
              simp
            have HI : Hid (atI (s.extract k s.size).data.toList = (atK (b :: s.data.toList.drop (k + 1)) : Int)) := by
              show _ = _
              rw [HX.out]; unfold atI; rw [if_pos hat]
            generalize atK (b :: s.data.toList.drop (k + 1)) = a at HI hat
            have fa : decide (0 ≤ (a : Int)) = true := by simp
            generalize kN x 9 = kk
            clear hxb hat
            go_wp2_with fail
            refine (HAt.out _).mono ?_
            rintro r w2 ⟨rfl, hb2⟩
            rw [HI.out]
            have HB3 := Lib.hid (HB2.out.trans (hb2.mono HB2.out.size))
            clear hb2
            go_wp2_with fail
            refine (digits_any _).mono ?_
            rintro r w3 ⟨B, rfl, hc3, hb3⟩
            have HB4 := Lib.hid (HB3.out.trans (hb3.mono HB3.out.size))
            have hc := hc3 9 (by omega)
            have hds := dtx_size (k := 9) (by omega)
            clear hb3 hc3
            go_wp2_with fail
            exact ⟨⟨k + 1, _, rfl, by go_num, by omega, by show _ = _; rw [← HP.out]; simp [dtx], HB4.out⟩, by simp [RowKit.intOf]; omega⟩
          · have he := at_no hat
            have HI : Hid (atI (s.extract k s.size).data.toList = -1) := by
              show _ = _
              rw [HX.out]; unfold atI; rw [if_neg hat]
            cases hbar : bar x with
            | true =>
              obtain ⟨k', e1, e2, e3⟩ := kN_bar hbar
              have HP : Hid (O.data.toList ++ 92 :: dgs.getD k' [] ++ E (s.data.toList.drop (k + 1)) = E s.data.toList) := by
                show _ = _
                rw [← HO1.out, pc_bar (by rw [hxb]; exact hbar), hxb, e3]
                simp
              have fa : decide (0 ≤ (k' : Int)) = true := by simp
              rw [e1]
              clear e1 e3 hbar he hat hxb
              go_wp2_with fail
              refine (HAt.out _).mono ?_
              rintro r w2 ⟨rfl, hb2⟩
              rw [HI.out]
              have HB3 := Lib.hid (HB2.out.trans (hb2.mono HB2.out.size))
              clear hb2
              go_wp2_with fail
              refine (digits_any _).mono ?_
              rintro r w3 ⟨B, rfl, hc3, hb3⟩
              have HB4 := Lib.hid (HB3.out.trans (hb3.mono HB3.out.size))
              have hc := hc3 k' (by omega)
              have hds := dtx_size (k := k') (by omega)
              clear hb3 hc3
              go_wp2_with fail
              exact ⟨⟨k + 1, _, rfl, by go_num, by omega, by show _ = _; rw [← HP.out]; simp [dtx], HB4.out⟩, by simp [RowKit.intOf]; omega⟩
            | false =>
              have hcut : (s.extract k (k + 1)).data.toList = [b] := by
                rw [extract_cut]
                have hlt2 : k < s.data.toList.length := by rw [HL.out]; exact hlt
                have e4 : (s.data.toList.take (k + 1)).drop k = (s.data.toList.drop k).take 1 := by rw [List.drop_take]; congr 1; omega
                rw [e4, HDR.out]
                rfl
              have HP : Hid ((O ++ s.extract k (k + 1)).data.toList ++ E (s.data.toList.drop (k + 1)) = E s.data.toList) := by
                show _ = _
                rw [← HO1.out, pc_plain (by rw [hxb]; exact hbar) he, append_list, hcut]
                simp
              rw [kN_plain hbar]
              clear hbar he hat hxb hcut
              go_wp2_with fail
              refine (HAt.out _).mono ?_
              rintro r w2 ⟨rfl, hb2⟩
              rw [HI.out]
              have HB3 := Lib.hid (HB2.out.trans (hb2.mono HB2.out.size))
              clear hb2
              go_wp2_with fail
              exact ⟨⟨k + 1, _, rfl, by go_num, by omega, HP.out, HB3.out⟩, by simp [RowKit.intOf]; omega⟩
    · obtain rfl : k = s.size := by omega
      have ho := HO.out
      rw [← HL.out, List.drop_length, E, List.append_nil] at ho
      have HO2 := Lib.hid ho
      clear ho
      go_wp2_with fail
      go_ret2
      exact ⟨by rw [← HO2.out]; rfl, HB.out⟩

end Go.Proofs.YthhmdkdpfeofjaaGreatDoor
