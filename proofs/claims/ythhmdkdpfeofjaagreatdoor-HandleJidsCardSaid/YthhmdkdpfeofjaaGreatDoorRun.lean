/- Contracts of the document's own Unescape and Is for layer 2. Condition: the text has at most 1048576 bytes. -/
import Derived.Test.YthhmdkdpfeofjaaGreatDoorRes
namespace Go.Proofs.YthhmdkdpfeofjaaGreatDoor
open Go.RowKit Go.Lib By Esc

set_option maxRecDepth 100000 in
theorem bl_zero {a : Nat} (h : a < 10) : bl.getD a 0 = 32 ↔ a = 0 := by
  have : a = 0 ∨ a = 1 ∨ a = 2 ∨ a = 3 ∨ a = 4 ∨ a = 5 ∨ a = 6 ∨ a = 7 ∨ a = 8 ∨ a = 9 := by omega
  rcases this with rfl | rfl | rfl | rfl | rfl | rfl | rfl | rfl | rfl | rfl <;> decide
set_option maxRecDepth 100000 in
theorem bl_bar {n c : Nat} (h : n < 9) (e : bl.getD n 0 = c) : bar c = true := by
  subst e
  have : n = 0 ∨ n = 1 ∨ n = 2 ∨ n = 3 ∨ n = 4 ∨ n = 5 ∨ n = 6 ∨ n = 7 ∨ n = 8 := by omega
  rcases this with rfl | rfl | rfl | rfl | rfl | rfl | rfl | rfl | rfl <;> rfl
set_option maxRecDepth 100000 in
theorem bl_nobar {c : Nat} (h : ∀ n, n < 9 → bl.getD n 0 ≠ c) : bar c = false := by
  rw [Bool.eq_false_iff]
  intro hb
  unfold bar at hb
  simp at hb
  have h0 := h 0 (by omega)
  have h1 := h 1 (by omega)
  have h2 := h 2 (by omega)
  have h3 := h 3 (by omega)
  have h4 := h 4 (by omega)
  have h5 := h 5 (by omega)
  have h6 := h 6 (by omega)
  have h7 := h 7 (by omega)
  have h8 := h 8 (by omega)
  simp [bl] at h0 h1 h2 h3 h4 h5 h6 h7 h8
  omega
set_option maxRecDepth 100000 in
theorem cut_one {s : ByteArray} {k : Nat} {b : UInt8} {r : List UInt8} (h : s.data.toList.drop k = b :: r) : (s.extract k (k + 1)).data.toList = [b] := by
  rw [extract_cut]
  have e4 : (s.data.toList.take (k + 1)).drop k = (s.data.toList.drop k).take 1 := by rw [List.drop_take]; congr 1; omega
  rw [e4, h]
  rfl

set_option maxRecDepth 100000 in
set_option maxHeartbeats 1000000 in
theorem rUnescape_any (s : ByteArray) (w : World) (hs : s.size ≤ 1048576) :
    Calls Tryz.prog 21 #[.string s] w fun e w' => e = .returned (.string ⟨(U true s.data.toList).toArray⟩) ∧ Below w.heap.size w w' := by
  have HL := Lib.hid (len_size s)
  have HE := Lib.hid (U_len _ s.data.toList true (Nat.le_refl _))
  have HW : Hid (Below w.heap.size w w) := Below.refl _ _
  have hBS := BS_size
  go_enter Tryz.func21, Tryz.ntmps21
  go_wp2_with fail
  refine (bytes_any _).mono ?_
  rintro r w2 ⟨rfl, rfl⟩
  go_wp2_with fail
  go_loopw [3, 5] (fun o i wr => ∃ (k : Nat) (O : ByteArray), o = .string O ∧ i = .int .i64 k ∧ k ≤ s.size ∧ Hid (O.data.toList ++ U (decide (k = 0)) (s.data.toList.drop k) = U true s.data.toList) ∧ Hid (Below w.heap.size w wr)) (fun _ i _ => s.size - (RowKit.intOf i).toNat)
  case atStart => exact ⟨0, ⟨#[]⟩, rfl, rfl, by omega, (by show _ = _; simp), HW.out⟩
  case round =>
    obtain ⟨k, O, rfl, rfl, hk, HO, HB⟩ := hrel
    by_cases hlt : k < s.size
    · obtain ⟨b, hdr, _⟩ := drop_cons s.data.toList k (by rw [HL.out]; exact hlt)
      have ho := HO.out
      have hcut := cut_one hdr
      rw [hdr] at ho
      have hOm : O.size ≤ 4194304 := by
        have h1 := congrArg List.length ho
        have h2 := HE.out
        rw [List.length_append] at h1
        rw [HL.out] at h2
        rw [Lib.size_eq]
        omega
      have hrl : (s.data.toList.drop (k + 1)).length = s.size - (k + 1) := by rw [List.length_drop, HL.out]
      have HAt := Lib.hid (rAt_any (s.extract k s.size) · (by rw [ByteArray.size_extract]; omega))
      have hX : (s.extract k s.size).data.toList = b :: s.data.toList.drop (k + 1) := (extract_drop s k).trans hdr
      by_cases hat : atK (b :: s.data.toList.drop (k + 1)) < 10
      · have hesc := at_yes rfl hat
        have HI : Hid (atI (s.extract k s.size).data.toList = (atK (b :: s.data.toList.drop (k + 1)) : Int)) := by
          show _ = _
          rw [hX]; unfold atI; rw [if_pos hat]
        have hl3 := esc_len hesc
        rw [List.length_cons, hrl] at hl3
        generalize hak : atK (b :: s.data.toList.drop (k + 1)) = a at HI hat hesc
        clear hak
        by_cases hkeep : a = 0 ∧ (k = 0 ∨ k + 3 = s.size)
        · obtain ⟨rfl, hedge⟩ := hkeep
          have HO2 : Hid ((O ++ s.extract k (k + 1)).data.toList ++ U (decide (k + 1 = 0)) (s.data.toList.drop (k + 1)) = U true s.data.toList) := by
            show _ = _
            rw [← ho, U_keep hesc (by rw [hrl]; rcases hedge with h | h; exact .inl (by simpa using h); exact .inr (by omega)), append_list, hcut, show decide (k + 1 = 0) = false by simp]
            simp
          clear hesc ho hdr hrl hX hcut hat
          by_cases hk0 : k = 0
          · have fk0 : ((k : Int) == 0) = true := by rw [beq_iff_eq]; omega
            clear hedge hk0
            go_wp2_with fail
            refine (HAt.out _).mono ?_
            rintro r w2 ⟨rfl, hb2⟩
            rw [HI.out]
            have HB2 := Lib.hid (HB.out.trans (hb2.mono HB.out.size))
            clear hb2
            go_wp2_with fail
            exact ⟨⟨k + 1, _, rfl, by go_num, by omega, HO2.out, HB2.out⟩, by simp [RowKit.intOf]; omega⟩
          · have hk3 : k + 3 = s.size := hedge.resolve_left hk0
            have fk0 : ((k : Int) == 0) = false := by rw [beq_eq_false_iff_ne]; omega
            have fk3 : ((k : Int) + 3 == s.size) = true := by rw [beq_iff_eq]; omega
            clear hedge hk0
            go_wp2_with fail
            refine (HAt.out _).mono ?_
            rintro r w2 ⟨rfl, hb2⟩
            rw [HI.out]
            have HB2 := Lib.hid (HB.out.trans (hb2.mono HB.out.size))
            clear hb2
            go_wp2_with fail
            exact ⟨⟨k + 1, _, rfl, by go_num, by omega, HO2.out, HB2.out⟩, by simp [RowKit.intOf]; omega⟩
        · have HO2 : Hid ((O ++ BS.extract a (a + 1)).data.toList ++ U (decide (k + 3 = 0)) (s.data.toList.drop (k + 3)) = U true s.data.toList) := by
            show _ = _
            rw [← ho, U_some hesc (by rw [bl_zero hat, hrl]; rintro ⟨h, h1 | h1⟩; exact hkeep ⟨h, .inl (by simpa using h1)⟩; exact hkeep ⟨h, .inr (by omega)⟩), append_list, BS_cut hat, List.drop_drop, show k + 1 + 2 = k + 3 by omega, show decide (k + 3 = 0) = false by simp]
            simp
          have fa : decide ((a : Int) < 0) = false := by simp
          by_cases ha0 : a = 0
          · subst ha0
            have fk0 : ((k : Int) == 0) = false := by rw [beq_eq_false_iff_ne]; omega
            have fk3 : ((k : Int) + 3 == s.size) = false := by rw [beq_eq_false_iff_ne]; omega
            clear hesc ho hdr hrl hX hcut hat hkeep
            go_wp2_with fail
            refine (HAt.out _).mono ?_
            rintro r w2 ⟨rfl, hb2⟩
            rw [HI.out]
            have HB2 := Lib.hid (HB.out.trans (hb2.mono HB.out.size))
            clear hb2
            go_wp2_with fail
            exact ⟨⟨k + 3, _, rfl, by go_num, by omega, HO2.out, HB2.out⟩, by simp [RowKit.intOf]; omega⟩
          · have fa0 : ((a : Int) == 0) = false := by rw [beq_eq_false_iff_ne]; omega
            clear hesc ho hdr hrl hX hcut hkeep ha0
            go_wp2_with fail
            refine (HAt.out _).mono ?_
            rintro r w2 ⟨rfl, hb2⟩
            rw [HI.out]
            have HB2 := Lib.hid (HB.out.trans (hb2.mono HB.out.size))
            clear hb2
            go_wp2_with fail
            exact ⟨⟨k + 3, _, rfl, by go_num, by omega, HO2.out, HB2.out⟩, by simp [RowKit.intOf]; omega⟩
      · have he := at_no hat
        have HI : Hid (atI (s.extract k s.size).data.toList = -1) := by
          show _ = _
          rw [hX]; unfold atI; rw [if_neg hat]
        have HO2 : Hid ((O ++ s.extract k (k + 1)).data.toList ++ U (decide (k + 1 = 0)) (s.data.toList.drop (k + 1)) = U true s.data.toList) := by
          show _ = _
          rw [← ho, U_none he, append_list, hcut, show decide (k + 1 = 0) = false by simp]
          simp
        clear he ho hdr hrl hX hcut hat
        go_wp2_with fail
        refine (HAt.out _).mono ?_
        rintro r w2 ⟨rfl, hb2⟩
        rw [HI.out]
        have HB2 := Lib.hid (HB.out.trans (hb2.mono HB.out.size))
        clear hb2
        go_wp2_with fail
        exact ⟨⟨k + 1, _, rfl, by go_num, by omega, HO2.out, HB2.out⟩, by simp [RowKit.intOf]; omega⟩
    · obtain rfl : k = s.size := by omega
      have ho := HO.out
      rw [List.drop_eq_nil_of_le (by rw [HL.out]; exact Nat.le_refl _), U_nil, List.append_nil] at ho
      have HO2 := Lib.hid ho
      clear ho
      go_wp2_with fail
      go_ret
      exact ⟨by rw [← HO2.out]; rfl, HB.out⟩

end Go.Proofs.YthhmdkdpfeofjaaGreatDoor
