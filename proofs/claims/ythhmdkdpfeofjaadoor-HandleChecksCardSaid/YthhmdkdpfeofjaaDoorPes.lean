/- Contracts of escape's Escape, Unescape and Is: what each call returns, whatever the text. Condition: the text has at most 1048576 bytes. -/
import Derived.Test.YthhmdkdpfeofjaaDoorFes
namespace Go.Proofs.YthhmdkdpfeofjaaDoor
open Go.RowKit Go.Lib By Esc

theorem shr4 : ∀ x : Fin 256, (x.val : Int) / 16 = ((x.val / 16 : Nat) : Int) := by decide +kernel
theorem and15 : ∀ x : Fin 256, bits BinOp.and IntKind.u8 ((x.val : Nat) : Int) 15 = ((x.val % 16 : Nat) : Int) := by decide +kernel
theorem dig_at {k : Nat} (h : k < 16) : ∃ h2 : k < (⟨#[48, 49, 50, 51, 52, 53, 54, 55, 56, 57, 97, 98, 99, 100, 101, 102]⟩ : ByteArray).size, ((⟨#[48, 49, 50, 51, 52, 53, 54, 55, 56, 57, 97, 98, 99, 100, 101, 102]⟩ : ByteArray)[k]'h2).toNat = dg k :=
  ⟨h, (byte_nb DIG k h).trans (DIG_nb ⟨k, h⟩)⟩
/-- Escape refuses nothing, or a blank at an end. -/
theorem escape_bad (s : ByteArray) (w : World) (hs : s.size ≤ 1048576) (h : bad s.data.toList = true) :
    Calls Tryd.prog 24 #[.string s] w fun e w' => e = .returned (.tuple #[.string ⟨#[]⟩, .int .i64 20]) ∧ Below w.heap.size w w' := by
  have HW : Hid (Below w.heap.size w w) := Below.refl _ _
  have hl := len_size s
  by_cases h0 : s.size = 0
  · obtain rfl := empty_of h0
    clear hl h h0
    go_enter Tryd.func24, Tryd.ntmps24
    go_wp2_with fail
    go_ret2
    exact ⟨rfl, HW.out⟩
  · have hne := nonempty h0
    have p0 : 0 < s.size := by omega
    have i0 : (0 : Int) < s.size := by omega
    have hb := byte_nb s 0 p0
    unfold bad at h
    rw [show s.data.toList.isEmpty = false by rw [← ByteArray.toList_eq]; exact hne, Bool.false_or, hl] at h
    by_cases h1 : nb s.data.toList 0 = 32
    · rw [h1] at hb
      clear hl h h0 h1
      go_enter Tryd.func24, Tryd.ntmps24
      go_wp2_with fail
      go_ret2
      exact ⟨rfl, HW.out⟩
    · have h2 : nb s.data.toList (s.size - 1) = 32 := by simpa [h1] using h
      have pl : s.size - 1 < s.size := by omega
      have hb2 := byte_nb s (s.size - 1) pl
      rw [h2] at hb2
      have e1 : ((s.size : Int) - 1).toNat = s.size - 1 := by omega
      generalize nb s.data.toList 0 = y at hb h1
      have f1 : ((y : Int) == 32) = false := by rw [beq_eq_false_iff_ne]; omega
      clear hl h h0 h1 h2
      go_enter Tryd.func24, Tryd.ntmps24
      go_wp2_with fail
      go_ret2
      exact ⟨rfl, HW.out⟩
theorem good_parts {s : ByteArray} (h : bad s.data.toList = false) : s.toList.isEmpty = false ∧ 0 < s.size ∧ nb s.data.toList 0 ≠ 32 ∧ nb s.data.toList (s.size - 1) ≠ 32 := by
  obtain ⟨h0, h1, h2⟩ := bad_false h
  rw [len_size] at h2
  have h3 : ¬ s.size = 0 := fun e => h0 (by rw [empty_of e])
  exact ⟨nonempty h3, by omega, h1, h2⟩
set_option maxRecDepth 100000 in
set_option maxHeartbeats 4000000 in
theorem escape_good (s : ByteArray) (w : World) (hs : s.size ≤ 1048576) (h : bad s.data.toList = false) :
    Calls Tryd.prog 24 #[.string s] w fun e w' => e = .returned (.tuple #[.string ⟨(E s.data.toList).toArray⟩, .int .i64 0]) ∧ Below w.heap.size w w' := by
  obtain ⟨hne, p0, h1, h2⟩ := good_parts h
  have hl := len_size s
  have i0 : (0 : Int) < s.size := by omega
  have hb := byte_nb s 0 p0
  have pl : s.size - 1 < s.size := by omega
  have hb2 := byte_nb s (s.size - 1) pl
  have e1 : ((s.size : Int) - 1).toNat = s.size - 1 := by omega
  generalize nb s.data.toList 0 = y at hb h1
  generalize nb s.data.toList (s.size - 1) = z at hb2 h2
  have f1 : ((y : Int) == 32) = false := by rw [beq_eq_false_iff_ne]; omega
  have f2 : ((z : Int) == 32) = false := by rw [beq_eq_false_iff_ne]; omega
  have HL := Lib.hid hl
  have HE := Lib.hid (E_len s.data.toList)
  clear hl h h1 h2
  go_enter Tryd.func24, Tryd.ntmps24
  go_wp2_with fail
  refine (bd_grow s.size w (by omega)).mono ?_
  rintro r w1 ⟨rfl, hd1, hb1⟩
  have HD1 := Lib.hid hd1
  have HB1 := Lib.hid hb1
  clear hd1 hb1
  go_wp2_with fail
  go_loopw [26] (fun i wr => ∃ (k : Nat) (out : List UInt8), i = .int .i64 k ∧ k ≤ s.size ∧ Hid (out ++ E (s.data.toList.drop k) = E s.data.toList) ∧ Hid (Bd w.heap.size w.heap.size out wr) ∧ Hid (Below w.heap.size w wr)) (fun i _ => s.size - (RowKit.intOf i).toNat)
  case atStart => exact ⟨0, [], rfl, by omega, (by show _ = _; simp), HD1.out, HB1.out⟩
  case round =>
    obtain ⟨k, out, rfl, hk, HO, HD, HB⟩ := hrel
    by_cases hlt : k < s.size
    · obtain ⟨b, hdr, hnb⟩ := drop_cons s.data.toList k (by rw [HL.out]; exact hlt)
      have hbk := byte_nb s k hlt
      have ho := HO.out
      have hlen := congrArg List.length ho
      rw [hdr, E] at ho hlen
      simp only [List.length_append] at hlen
      have hpl := pc_len b (s.data.toList.drop (k + 1))
      have hE := HE.out
      rw [HL.out] at hE
      have hmax : out.length + 3 ≤ 4194304 := by omega
      have x256 := nat_lt b
      rw [hnb] at hbk
      clear hE hpl hlen
      by_cases hesc : (bar b.toNat || (esc (b :: s.data.toList.drop (k + 1))).isSome) = true
      · have HO2 : Hid ((((out ++ [u 92]) ++ [u (dg (b.toNat / 16))]) ++ [u (dg (b.toNat % 16))]) ++ E (s.data.toList.drop (k + 1)) = E s.data.toList) := by
          show _ = _
          rw [← ho, pc, if_pos hesc]
          simp [show u 92 = 92 from rfl]
        have h16 : b.toNat / 16 < 16 := by omega
        have h16b : b.toNat % 16 < 16 := by omega
        have d1 := dg_range h16
        have d2 := dg_range h16b
        obtain ⟨q1, g1⟩ := dig_at h16
        obtain ⟨q2, g2⟩ := dig_at h16b
        have fa := and15 ⟨b.toNat, x256⟩
        simp only at fa
        by_cases hbar : bar b.toNat = true
        · have HBr := Lib.hid hbar
          clear hbar hesc ho hdr hnb
          generalize b.toNat = x at *
          go_wp2_with fail
          refine (isBarred_any x _).mono ?_
          rintro r w2 ⟨rfl, hb2⟩
          rw [HBr.out]
          have HD2 := Lib.hid (HD.out.below hb2)
          have HB2 := Lib.hid (HB.out.trans (hb2.mono HB.out.size))
          clear hb2
          go_wp2_with fail
          refine (bd_write 92 _ (by omega) HD2.out (by omega) HB2.out.size).mono ?_
          rintro r w3 ⟨rfl, hd3, hb3⟩
          have HD3 := Lib.hid hd3
          have HB3 := Lib.hid (HB2.out.trans hb3)
          clear hd3 hb3
          go_wp2_with fail
          refine (bd_write (dg (x / 16)) _ (by omega) HD3.out (by simp; omega) HB3.out.size).mono ?_
          rintro r w4 ⟨rfl, hd4, hb4⟩
          have HD4 := Lib.hid hd4
          have HB4 := Lib.hid (HB3.out.trans hb4)
          clear hd4 hb4
          go_wp2_with fail
          refine (bd_write (dg (x % 16)) _ (by omega) HD4.out (by simp; omega) HB4.out.size).mono ?_
          rintro r w5 ⟨rfl, hd5, hb5⟩
          have HD5 := Lib.hid hd5
          have HB5 := Lib.hid (HB4.out.trans hb5)
          clear hd5 hb5
          go_wp2_with fail
          exact ⟨⟨k + 1, _, by go_num, by omega, HO2.out, HD5.out, HB5.out⟩, by simp [RowKit.intOf]; omega⟩
        · have HBr : Hid (bar b.toNat = false) := by show _ = _; simpa using hbar
          have HS := Lib.hid (startsEscape_any (s.extract k s.size) · (by rw [ByteArray.size_extract]; omega))
          have HX : Hid ((esc (s.extract k s.size).data.toList).isSome = true) := by
            show _ = _
            rw [extract_drop, hdr]
            simpa [hbar] using hesc
          clear hbar hesc ho hdr hnb
          generalize b.toNat = x at *
          go_wp2_with fail
          refine (isBarred_any x _).mono ?_
          rintro r w2 ⟨rfl, hb2⟩
          rw [HBr.out]
          have HD1b := Lib.hid (HD.out.below hb2)
          have HB1b := Lib.hid (HB.out.trans (hb2.mono HB.out.size))
          clear hb2
          go_wp2_with fail
          refine (HS.out _).mono ?_
          rintro r w2b ⟨rfl, hb2⟩
          rw [HX.out]
          have HD2 := Lib.hid (HD1b.out.below hb2)
          have HB2 := Lib.hid (HB1b.out.trans (hb2.mono HB1b.out.size))
          clear hb2
          go_wp2_with fail
          refine (bd_write 92 _ (by omega) HD2.out (by omega) HB2.out.size).mono ?_
          rintro r w3 ⟨rfl, hd3, hb3⟩
          have HD3 := Lib.hid hd3
          have HB3 := Lib.hid (HB2.out.trans hb3)
          clear hd3 hb3
          go_wp2_with fail
          refine (bd_write (dg (x / 16)) _ (by omega) HD3.out (by simp; omega) HB3.out.size).mono ?_
          rintro r w4 ⟨rfl, hd4, hb4⟩
          have HD4 := Lib.hid hd4
          have HB4 := Lib.hid (HB3.out.trans hb4)
          clear hd4 hb4
          go_wp2_with fail
          refine (bd_write (dg (x % 16)) _ (by omega) HD4.out (by simp; omega) HB4.out.size).mono ?_
          rintro r w5 ⟨rfl, hd5, hb5⟩
          have HD5 := Lib.hid hd5
          have HB5 := Lib.hid (HB4.out.trans hb5)
          clear hd5 hb5
          go_wp2_with fail
          exact ⟨⟨k + 1, _, by go_num, by omega, HO2.out, HD5.out, HB5.out⟩, by simp [RowKit.intOf]; omega⟩
      · have hbar : bar b.toNat = false := by simp at hesc; exact hesc.1
        have HBr := Lib.hid hbar
        have HS := Lib.hid (startsEscape_any (s.extract k s.size) · (by rw [ByteArray.size_extract]; omega))
        have HX : Hid ((esc (s.extract k s.size).data.toList).isSome = false) := by
          show _ = _
          rw [extract_drop, hdr]
          simpa [hbar] using hesc
        have HO2 : Hid ((out ++ [u b.toNat]) ++ E (s.data.toList.drop (k + 1)) = E s.data.toList) := by
          show _ = _
          rw [← ho, pc, if_neg hesc, nat_u]
          simp
        clear hbar hesc ho hdr hnb
        generalize b.toNat = x at *
        go_wp2_with fail
        refine (isBarred_any x _).mono ?_
        rintro r w2 ⟨rfl, hb2⟩
        rw [HBr.out]
        have HD1b := Lib.hid (HD.out.below hb2)
        have HB1b := Lib.hid (HB.out.trans (hb2.mono HB.out.size))
        clear hb2
        go_wp2_with fail
        refine (HS.out _).mono ?_
        rintro r w2b ⟨rfl, hb2⟩
        rw [HX.out]
        have HD2 := Lib.hid (HD1b.out.below hb2)
        have HB2 := Lib.hid (HB1b.out.trans (hb2.mono HB1b.out.size))
        clear hb2
        go_wp2_with fail
        refine (bd_write x _ x256 HD2.out (by omega) HB2.out.size).mono ?_
        rintro r w3 ⟨rfl, hd3, hb3⟩
        have HD3 := Lib.hid hd3
        have HB3 := Lib.hid (HB2.out.trans hb3)
        clear hd3 hb3
        go_wp2_with fail
        exact ⟨⟨k + 1, _, by go_num, by omega, HO2.out, HD3.out, HB3.out⟩, by simp [RowKit.intOf]; omega⟩
    · obtain rfl : k = s.size := by omega
      have ho := HO.out
      rw [← HL.out, List.drop_length, E, List.append_nil] at ho
      have HO2 := Lib.hid ho
      clear ho
      go_wp2_with fail
      refine (bd_string _ HD.out HB.out.size).mono ?_
      rintro r w2 ⟨rfl, hb2⟩
      have HB2 := Lib.hid (HB.out.trans hb2)
      clear hb2
      go_wp2_with fail
      go_ret2
      exact ⟨by rw [← HO2.out]; rfl, HB2.out⟩

end Go.Proofs.YthhmdkdpfeofjaaDoor
