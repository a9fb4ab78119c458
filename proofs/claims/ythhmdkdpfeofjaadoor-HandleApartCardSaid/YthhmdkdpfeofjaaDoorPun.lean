/- Contracts of escape's Unescape and Is: what each call returns, whatever the text. Condition: the text has at most 1048576 bytes. -/
import Derived.Test.YthhmdkdpfeofjaaDoorPes
namespace Go.Proofs.YthhmdkdpfeofjaaDoor
open Go.RowKit Go.Lib By Esc

theorem drop_front (k : Nat) : (decide (k + 1 = 0)) = false := by simp
set_option maxRecDepth 100000 in
set_option maxHeartbeats 4000000 in
theorem unescape_any (s : ByteArray) (w : World) (hs : s.size ≤ 1048576) :
    Calls Tryd.prog 27 #[.string s] w fun e w' => e = .returned (.string ⟨(U true s.data.toList).toArray⟩) ∧ Below w.heap.size w w' := by
  have hl := len_size s
  have HL := Lib.hid hl
  have HE := Lib.hid (U_len _ s.data.toList true (Nat.le_refl _))
  clear hl
  go_enter Tryd.func27, Tryd.ntmps27
  go_wp2_with fail
  refine (bd_grow s.size w (by omega)).mono ?_
  rintro r w1 ⟨rfl, hd1, hb1⟩
  have HD1 := Lib.hid hd1
  have HB1 := Lib.hid hb1
  clear hd1 hb1
  go_wp2_with fail
  go_loopw [4] (fun i wr => ∃ (k : Nat) (out : List UInt8), i = .int .i64 k ∧ k ≤ s.size ∧ Hid (out ++ U (decide (k = 0)) (s.data.toList.drop k) = U true s.data.toList) ∧ Hid (Bd w.heap.size w.heap.size out wr) ∧ Hid (Below w.heap.size w wr)) (fun i _ => s.size - (RowKit.intOf i).toNat)
  case atStart => exact ⟨0, [], rfl, by omega, (by show _ = _; simp), HD1.out, HB1.out⟩
  case round =>
    obtain ⟨k, out, rfl, hk, HO, HD, HB⟩ := hrel
    by_cases hlt : k < s.size
    · obtain ⟨b, hdr, hnb⟩ := drop_cons s.data.toList k (by rw [HL.out]; exact hlt)
      have hbk := byte_nb s k hlt
      have ho := HO.out
      rw [hdr] at ho
      have hmax : out.length + 1 ≤ 4194304 := by
        have h1 := congrArg List.length ho
        have h2 := HE.out
        rw [List.length_append] at h1
        rw [HL.out] at h2
        omega
      have x256 := nat_lt b
      rw [hnb] at hbk
      have HF := Lib.hid (firstEscape_any (s.extract k s.size) · (by rw [ByteArray.size_extract]; omega))
      have hrl : (s.data.toList.drop (k + 1)).length = s.size - (k + 1) := by rw [List.length_drop, HL.out]
      have HX : Hid (esc (s.extract k s.size).data.toList = esc (b :: s.data.toList.drop (k + 1))) := by
        show _ = _
        rw [extract_drop, hdr]
      rcases hesc : esc (b :: s.data.toList.drop (k + 1)) with _ | c
      · have HO2 : Hid ((out ++ [u b.toNat]) ++ U (decide (k + 1 = 0)) (s.data.toList.drop (k + 1)) = U true s.data.toList) := by
          show _ = _
          rw [← ho, U_none hesc, nat_u, drop_front]
          simp
        have HXn := Lib.hid (HX.out.trans hesc)
        clear hesc ho hdr hnb hrl HX
        generalize b.toNat = x at *
        go_wp2_with fail
        refine (HF.out _).mono ?_
        rintro r w2 ⟨⟨c, he, rfl⟩ | ⟨he, rfl⟩, hb2⟩
        · exact absurd (he.symm.trans HXn.out) (by simp)
        have HD2 := Lib.hid (HD.out.below hb2)
        have HB2 := Lib.hid (HB.out.trans (hb2.mono HB.out.size))
        clear hb2 he
        go_wp2_with fail
        refine (bd_write x _ x256 HD2.out (by omega) HB2.out.size).mono ?_
        rintro r w3 ⟨rfl, hd3, hb3⟩
        have HD3 := Lib.hid hd3
        have HB3 := Lib.hid (HB2.out.trans hb3)
        clear hd3 hb3
        go_wp2_with fail
        exact ⟨⟨k + 1, _, by go_num, by omega, HO2.out, HD3.out, HB3.out⟩, by simp [RowKit.intOf]; omega⟩
      · have HXn := Lib.hid (HX.out.trans hesc)
        have c256 := esc_lt hesc
        have h3 := esc_len hesc
        rw [List.length_cons, hrl] at h3
        have HED := Lib.hid (isEdge_any s k · hs (by omega))
        by_cases hkeep : c = 32 ∧ (k = 0 ∨ k + 3 = s.size)
        · obtain ⟨rfl, hedge⟩ := hkeep
          have HDE : Hid (decide (k = 0 ∨ k + 3 = s.size) = true) := by show _ = _; simpa using hedge
          have HO2 : Hid ((out ++ [u b.toNat]) ++ U (decide (k + 1 = 0)) (s.data.toList.drop (k + 1)) = U true s.data.toList) := by
            show _ = _
            rw [← ho, U_keep hesc (by rw [hrl]; rcases hedge with h | h; exact .inl (by simpa using h); exact .inr (by omega)), nat_u, drop_front]
            simp
          clear hesc ho hdr hnb hrl HX hedge
          generalize b.toNat = x at *
          go_wp2_with fail
          refine (HF.out _).mono ?_
          rintro r w2 ⟨⟨c, he, rfl⟩ | ⟨he, rfl⟩, hb2⟩
          case inr => exact absurd (he.symm.trans HXn.out) (by simp)
          obtain rfl : c = 32 := Option.some.inj (he.symm.trans HXn.out)
          have HD2 := Lib.hid (HD.out.below hb2)
          have HB2 := Lib.hid (HB.out.trans (hb2.mono HB.out.size))
          clear hb2 he
          go_wp2_with fail
          refine (HED.out _).mono ?_
          rintro r w3 ⟨rfl, rfl⟩
          rw [HDE.out]
          go_wp2_with fail
          refine (bd_write x _ x256 HD2.out (by omega) HB2.out.size).mono ?_
          rintro r w3 ⟨rfl, hd3, hb3⟩
          have HD3 := Lib.hid hd3
          have HB3 := Lib.hid (HB2.out.trans hb3)
          clear hd3 hb3
          go_wp2_with fail
          exact ⟨⟨k + 1, _, by go_num, by omega, HO2.out, HD3.out, HB3.out⟩, by simp [RowKit.intOf]; omega⟩
        · have HO2 : Hid ((out ++ [u c]) ++ U (decide (k + 3 = 0)) (s.data.toList.drop (k + 3)) = U true s.data.toList) := by
            show _ = _
            rw [← ho, U_some hesc (by rw [hrl]; rintro ⟨h, h1 | h1⟩; exact hkeep ⟨h, .inl (by simpa using h1)⟩; exact hkeep ⟨h, .inr (by omega)⟩), List.drop_drop, show k + 1 + 2 = k + 3 by omega, show decide (k + 3 = 0) = false by simp]
            simp
          by_cases h32 : c = 32
          · have HDE : Hid (decide (k = 0 ∨ k + 3 = s.size) = false) := by show _ = _; rw [decide_eq_false_iff_not]; exact fun h => hkeep ⟨h32, h⟩
            subst h32
            clear hesc ho hdr hnb hrl HX hkeep
            generalize b.toNat = x at *
            go_wp2_with fail
            refine (HF.out _).mono ?_
            rintro r w2 ⟨⟨c, he, rfl⟩ | ⟨he, rfl⟩, hb2⟩
            case inr => exact absurd (he.symm.trans HXn.out) (by simp)
            obtain rfl : c = 32 := Option.some.inj (he.symm.trans HXn.out)
            have HD2 := Lib.hid (HD.out.below hb2)
            have HB2 := Lib.hid (HB.out.trans (hb2.mono HB.out.size))
            clear hb2 he
            go_wp2_with fail
            refine (HED.out _).mono ?_
            rintro r w3 ⟨rfl, rfl⟩
            rw [HDE.out]
            go_wp2_with fail
            refine (bd_write 32 _ (by omega) HD2.out (by omega) HB2.out.size).mono ?_
            rintro r w3 ⟨rfl, hd3, hb3⟩
            have HD3 := Lib.hid hd3
            have HB3 := Lib.hid (HB2.out.trans hb3)
            clear hd3 hb3
            go_wp2_with fail
            exact ⟨⟨k + 3, _, by go_num, by omega, HO2.out, HD3.out, HB3.out⟩, by simp [RowKit.intOf]; omega⟩
          · have f32 : ((c : Int) == 32) = false := by rw [beq_eq_false_iff_ne]; omega
            clear hesc ho hdr hnb hrl HX hkeep h32
            generalize b.toNat = x at *
            go_wp2_with fail
            refine (HF.out _).mono ?_
            rintro r w2 ⟨⟨c2, he, rfl⟩ | ⟨he, rfl⟩, hb2⟩
            case inr => exact absurd (he.symm.trans HXn.out) (by simp)
            obtain rfl : c2 = c := Option.some.inj (he.symm.trans HXn.out)
            have HD2 := Lib.hid (HD.out.below hb2)
            have HB2 := Lib.hid (HB.out.trans (hb2.mono HB.out.size))
            clear hb2 he
            go_wp2_with fail
            refine (bd_write c2 _ c256 HD2.out (by omega) HB2.out.size).mono ?_
            rintro r w3 ⟨rfl, hd3, hb3⟩
            have HD3 := Lib.hid hd3
            have HB3 := Lib.hid (HB2.out.trans hb3)
            clear hd3 hb3
            go_wp2_with fail
            exact ⟨⟨k + 3, _, by go_num, by omega, HO2.out, HD3.out, HB3.out⟩, by simp [RowKit.intOf]; omega⟩
    · obtain rfl : k = s.size := by omega
      have ho := HO.out
      rw [List.drop_eq_nil_of_le (by rw [HL.out]; exact Nat.le_refl _), U_nil, List.append_nil] at ho
      have HO2 := Lib.hid ho
      clear ho
      go_wp2_with fail
      refine (bd_string _ HD.out HB.out.size).mono ?_
      rintro r w2 ⟨rfl, hb2⟩
      have HB2 := Lib.hid (HB.out.trans hb2)
      clear hb2
      go_wp2_with fail
      go_ret
      exact ⟨by rw [← HO2.out]; rfl, HB2.out⟩

end Go.Proofs.YthhmdkdpfeofjaaDoor
