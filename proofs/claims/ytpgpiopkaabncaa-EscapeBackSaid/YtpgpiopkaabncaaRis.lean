/- The contract of the document's own Is for layer 2. Condition: the text has at most 1048576 bytes. -/
import Derived.Test.YtpgpiopkaabncaaRun
import Derived.Test.YtpgpiopkaabncaaPis
namespace Go.Proofs.Ytpgpiopkaabncaa
open Go.RowKit Go.Lib By Esc

theorem at_zero (l : List UInt8) : (bne (atI l) 0) = !(esc l == some 32) := by
  by_cases h : atK l < 10
  · have he := at_yes rfl h
    have hI : atI l = (atK l : Int) := by unfold atI; rw [if_pos h]
    rw [he, hI]
    by_cases h0 : atK l = 0
    · rw [h0]; rfl
    · have h1 : bl.getD (atK l) 0 ≠ 32 := fun e => h0 ((bl_zero h).1 e)
      have h2 : (bne (atK l : Int) 0) = true := by simp; omega
      have h3 : (some (bl.getD (atK l) 0) == some 32) = false := by simp; exact h1
      rw [h2, h3]; rfl
  · have he := at_no h
    have hI : atI l = -1 := by unfold atI; rw [if_neg h]
    rw [he, hI]; rfl
set_option maxHeartbeats 1000000 in
theorem rIs_any (s : ByteArray) (w : World) (hs : s.size ≤ 1048576) :
    Calls Try.prog 15 #[.string s] w fun e w' => e = .returned (.bool (is s.data.toList)) ∧ Below w.heap.size w w' := by
  have HL := Lib.hid (len_size s)
  have HW : Hid (Below w.heap.size w w) := Below.refl _ _
  have hBS := BS_size
  go_enter Try.func15, Try.ntmps15
  go_wp2_with fail
  refine (bytes_any _).mono ?_
  rintro r w2 ⟨rfl, rfl⟩
  go_wp2_with fail
  go_loopw [4] (fun i wr => ∃ k : Nat, i = .int .i64 k ∧ k ≤ s.size ∧ Hid (∀ j, j < k → bar (nb s.data.toList j) = false) ∧ Hid (Below w.heap.size w wr)) (fun i _ => s.size - (RowKit.intOf i).toNat)
  case atStart => exact ⟨0, rfl, by omega, (fun j hj => by omega), HW.out⟩
  case round =>
    obtain ⟨k, rfl, hk, HA, HB⟩ := hrel
    by_cases hlt : k < s.size
    · have hbk := byte_nb s k hlt
      have HX : Hid (bar (nb s.data.toList k) = true → is s.data.toList = false) := fun h => is_bar (by rw [HL.out]; exact hlt) h
      have HA2 : Hid (bar (nb s.data.toList k) = false → ∀ j, j < k + 1 → bar (nb s.data.toList j) = false) := by
        intro hbar j hj
        by_cases e : j = k
        · subst e; exact hbar
        · exact HA.out j (by omega)
      generalize hx : nb s.data.toList k = x at hbk HX HA2
      clear hx HA
      go_wp2_with fail
      go_loopw [5] (fun j wr2 => ∃ n : Nat, j = .int .i64 n ∧ n ≤ 9 ∧ Hid (∀ m, m < n → bl.getD m 0 ≠ x) ∧ Hid (Below w.heap.size w wr2)) (fun j _ => 9 - (RowKit.intOf j).toNat)
      case atStart => exact ⟨0, rfl, by omega, (fun j hj => by omega), HB.out⟩
      case round =>
        obtain ⟨n, rfl, hn, HN, HB2⟩ := hrel
        by_cases hn9 : n < 9
        · have q0 : n < BS.size := by rw [hBS]; omega
          have hv := (byte_nb BS n q0).trans (BS_nb n)
          by_cases e : bl.getD n 0 = x
          · have HF := Lib.hid (HX.out (bl_bar hn9 e))
            rw [e] at hv
            clear e
            go_wp2_with fail
            go_quiet (fail)
            go_wp2_with fail
            go_ret
            exact ⟨by rw [HF.out]; rfl, HB2.out.trans ((below_drewN _ _).mono HB2.out.size)⟩
          · have HN2 : Hid (∀ m, m < n + 1 → bl.getD m 0 ≠ x) := by
              intro m hm
              by_cases e2 : m = n
              · subst e2; exact e
              · exact HN.out m (by omega)
            generalize hv2 : bl.getD n 0 = v at hv e
            have f : ((x : Int) == (v : Int)) = false := by rw [beq_eq_false_iff_ne]; omega
            clear e hv2
            go_wp2_with fail
            go_quiet (fail)
            go_wp2_with fail
            exact ⟨⟨n + 1, by go_num, by omega, HN2.out, HB2.out.trans ((below_drewN _ _).mono HB2.out.size)⟩, by simp [RowKit.intOf]; omega⟩
        · obtain rfl : n = 9 := by omega
          have HA3 := Lib.hid (HA2.out (bl_nobar HN.out))
          clear HN HA2
          go_wp2_with fail
          exact ⟨⟨k + 1, by go_num, by omega, HA3.out, HB2.out⟩, by simp [RowKit.intOf]; omega⟩
    · obtain rfl : k = s.size := by omega
      have HI := Lib.hid (is_all (l := s.data.toList) (by rw [HL.out]; exact HA.out))
      by_cases h0 : s.size = 0
      · obtain rfl := empty_of h0
        have HX : Hid (is (⟨#[]⟩ : ByteArray).data.toList = false) := rfl
        clear h0 HI HA
        go_wp2_with fail
        go_ret
        exact ⟨by rw [HX.out]; rfl, HB.out⟩
      · have hne := nonempty h0
        have HI2 : Hid (is s.data.toList = (!(esc s.data.toList == some 32) && !(esc (s.data.toList.drop (s.data.toList.length - 3)) == some 32))) := by
          have := HI.out
          rw [← ByteArray.toList_eq, hne, ByteArray.toList_eq] at this
          exact this
        have HP := Lib.hid (fun W => rAt_any s W hs)
        have z1 := at_zero s.data.toList
        generalize (esc s.data.toList == some 32) = p at z1 HI2
        generalize atI s.data.toList = a1 at HP z1
        by_cases h3 : s.size < 3
        · have hq : esc (s.data.toList.drop (s.data.toList.length - 3)) = none := esc_short (by rw [List.length_drop, HL.out]; omega)
          have HI3 : Hid (is s.data.toList = !p) := by
            have := HI2.out
            rw [hq] at this
            show _ = _
            rw [this]; cases p <;> rfl
          have f3 : decide ((s.size : Int) < 3) = true := by simp; omega
          clear h0 HI HA HI2 hq h3
          cases p with
          | true =>
            have z2 : bne a1 0 = false := z1
            clear z1
            go_wp2_with fail
            refine (HP.out _).mono ?_
            rintro r w2 ⟨rfl, hb2⟩
            have HB2 := Lib.hid (HB.out.trans (hb2.mono HB.out.size))
            clear hb2
            go_wp2_with fail
            go_ret
            exact ⟨by rw [HI3.out]; rfl, HB2.out⟩
          | false =>
            have z2 : bne a1 0 = true := z1
            clear z1
            go_wp2_with fail
            refine (HP.out _).mono ?_
            rintro r w2 ⟨rfl, hb2⟩
            have HB2 := Lib.hid (HB.out.trans (hb2.mono HB.out.size))
            clear hb2
            go_wp2_with fail
            go_ret
            exact ⟨by rw [HI3.out]; rfl, HB2.out⟩
        · have f3 : decide ((s.size : Int) < 3) = false := by simp; omega
          have e3 : ((s.size : Int) - 3).toNat = s.size - 3 := by omega
          have HQ := Lib.hid (fun W => rAt_any (s.extract (s.size - 3) s.size) W (by rw [ByteArray.size_extract]; omega))
          have hq := at_zero (s.extract (s.size - 3) s.size).data.toList
          rw [extract_drop] at hq
          have HQ2 : Hid (∀ W, _) := fun W => by
            have := HQ.out W
            rw [extract_drop] at this
            exact this
          have HI3 := HI2.out
          rw [HL.out] at HI3
          generalize (esc (s.data.toList.drop (s.size - 3)) == some 32) = q at hq HI3
          generalize atI (s.data.toList.drop (s.size - 3)) = a2 at hq HQ2
          have HI4 := Lib.hid HI3
          have i3 : (3 : Int) ≤ s.size := by omega
          clear h0 HI HA HI2 HI3 HQ
          cases p with
          | true =>
            have z2 : bne a1 0 = false := z1
            clear z1 hq
            go_wp2_with fail
            refine (HP.out _).mono ?_
            rintro r w2 ⟨rfl, hb2⟩
            have HB2 := Lib.hid (HB.out.trans (hb2.mono HB.out.size))
            clear hb2
            go_wp2_with fail
            go_ret
            exact ⟨by rw [HI4.out]; rfl, HB2.out⟩
          | false =>
            have z2 : bne a1 0 = true := z1
            clear z1
            go_wp2_with fail
            refine (HP.out _).mono ?_
            rintro r w2 ⟨rfl, hb2⟩
            have HB2 := Lib.hid (HB.out.trans (hb2.mono HB.out.size))
            clear hb2
            go_wp2_with fail
            refine (HQ2.out _).mono ?_
            rintro r w3 ⟨rfl, hb3⟩
            have HB3 := Lib.hid (HB2.out.trans (hb3.mono HB2.out.size))
            clear hb3
            cases q with
            | true =>
              have z3 : bne a2 0 = false := hq
              clear hq
              go_wp2_with fail
              go_ret
              exact ⟨by rw [HI4.out]; rfl, HB3.out⟩
            | false =>
              have z3 : bne a2 0 = true := hq
              clear hq
              go_wp2_with fail
              go_ret
              exact ⟨by rw [HI4.out]; rfl, HB3.out⟩
end Go.Proofs.Ytpgpiopkaabncaa
