/- The contract of escape's Is. Condition: the text has at most 1048576 bytes. -/
import Derived.Test.YtpgpiopkaabncaaPun
namespace Go.Proofs.Ytpgpiopkaabncaa
open Go.RowKit Go.Lib By Esc

theorem hasPrefix_any (s : ByteArray) (w : World) :
    Calls Try.prog 26 #[.string s, .string ⟨#[92, 50, 48]⟩] w fun e w' => e = .returned (.bool (esc s.data.toList == some 32)) ∧ w = w' :=
  (Any.strings_HasPrefix Try.lays99 s ⟨#[92, 50, 48]⟩ w).mono fun e w' ⟨he, hw⟩ => ⟨by rw [he, ← prefix_esc], hw.symm⟩
theorem hasSuffix_any (s : ByteArray) (w : World) (hs : s.size ≤ 1048576) :
    Calls Try.prog 27 #[.string s, .string ⟨#[92, 50, 48]⟩] w fun e w' => e = .returned (.bool (esc (s.data.toList.drop (s.data.toList.length - 3)) == some 32)) ∧ w = w' :=
  (Any.strings_HasSuffix Try.lays100 s ⟨#[92, 50, 48]⟩ w (by omega)).mono fun e w' ⟨he, hw⟩ => ⟨by rw [he, ← suffix_esc], hw.symm⟩
theorem is_bar {l : List UInt8} {k : Nat} (h : k < l.length) (hb : bar (nb l k) = true) : is l = false := by
  obtain ⟨b, hm, e⟩ := nb_mem h
  rw [e] at hb
  rw [Bool.eq_false_iff]
  intro hi
  unfold is at hi
  simp only [Bool.and_eq_true, List.all_eq_true] at hi
  have := hi.1.1.2 b hm
  rw [hb] at this
  cases this
theorem is_all {l : List UInt8} (h : ∀ k, k < l.length → bar (nb l k) = false) : is l = (!l.isEmpty && !(esc l == some 32) && !(esc (l.drop (l.length - 3)) == some 32)) := by
  have ha : l.all (fun b => !bar b.toNat) = true := by
    rw [List.all_eq_true]
    intro b hb
    obtain ⟨i, hi, e⟩ := List.mem_iff_getElem.1 hb
    have := h i hi
    unfold nb at this
    rw [List.getD_eq_getElem?_getD, List.getElem?_eq_getElem hi] at this
    subst e
    simp at this
    simp [this]
  unfold is
  rw [ha]
  simp [bne]
set_option maxHeartbeats 4000000 in
theorem is_any (s : ByteArray) (w : World) (hs : s.size ≤ 1048576) :
    Calls Try.prog 14 #[.string s] w fun e w' => e = .returned (.bool (is s.data.toList)) ∧ Below w.heap.size w w' := by
  have HL := Lib.hid (len_size s)
  have HW : Hid (Below w.heap.size w w) := Below.refl _ _
  go_enter Try.func14, Try.ntmps14
  go_wp2_with fail
  go_loopw [6] (fun i wr => ∃ k : Nat, i = .int .i64 k ∧ k ≤ s.size ∧ Hid (∀ j, j < k → bar (nb s.data.toList j) = false) ∧ Hid (Below w.heap.size w wr)) (fun i _ => s.size - (RowKit.intOf i).toNat)
  case atStart => exact ⟨0, rfl, by omega, (fun j hj => by omega), HW.out⟩
  case round =>
    obtain ⟨k, rfl, hk, HA, HB⟩ := hrel
    by_cases hlt : k < s.size
    · have hbk := byte_nb s k hlt
      cases hbar : bar (nb s.data.toList k) with
      | true =>
        have HX : Hid (is s.data.toList = false) := is_bar (by rw [HL.out]; exact hlt) hbar
        have HBr := Lib.hid hbar
        clear hbar
        generalize nb s.data.toList k = x at *
        go_wp2_with fail
        refine (isBarred_any x _).mono ?_
        rintro r w2 ⟨rfl, hb2⟩
        rw [HBr.out]
        have HB2 := Lib.hid (HB.out.trans (hb2.mono HB.out.size))
        clear hb2
        go_wp2_with fail
        go_ret
        exact ⟨by rw [HX.out]; rfl, HB2.out⟩
      | false =>
        have HA2 : Hid (∀ j, j < k + 1 → bar (nb s.data.toList j) = false) := by
          intro j hj
          by_cases e : j = k
          · subst e; exact hbar
          · exact HA.out j (by omega)
        have HBr := Lib.hid hbar
        clear hbar
        generalize hx : nb s.data.toList k = x at hbk HBr
        clear hx
        go_wp2_with fail
        refine (isBarred_any x _).mono ?_
        rintro r w2 ⟨rfl, hb2⟩
        rw [HBr.out]
        have HB2 := Lib.hid (HB.out.trans (hb2.mono HB.out.size))
        clear hb2
        go_wp2_with fail
        exact ⟨⟨k + 1, by go_num, by omega, HA2.out, HB2.out⟩, by simp [RowKit.intOf]; omega⟩
    · obtain rfl : k = s.size := by omega
      have HI := Lib.hid (is_all (l := s.data.toList) (by rw [HL.out]; exact HA.out))
      by_cases h0 : s.size = 0
      · obtain rfl := empty_of h0
        have HX : Hid (is (⟨#[]⟩ : ByteArray).data.toList = false) := rfl
        clear h0 HI HA
        go_wp2_with fail
        go_ret
        exact ⟨by rw [HX.out]; rfl, HB.out⟩
      · have hne := nonempty h0
        have HP := Lib.hid (fun W => hasPrefix_any s W)
        have HS := Lib.hid (fun W => hasSuffix_any s W hs)
        have HI2 : Hid (is s.data.toList = (!(esc s.data.toList == some 32) && !(esc (s.data.toList.drop (s.data.toList.length - 3)) == some 32))) := by
          have := HI.out
          rw [← ByteArray.toList_eq, hne, ByteArray.toList_eq] at this
          exact this
        generalize (esc s.data.toList == some 32) = p at HP HI2
        generalize (esc (s.data.toList.drop (s.data.toList.length - 3)) == some 32) = q at HS HI2
        clear h0 HI HA
        cases p with
        | true =>
          go_wp2_with fail
          refine (HP.out _).mono ?_
          rintro r w2 ⟨rfl, rfl⟩
          go_wp2_with fail
          go_ret
          exact ⟨by rw [HI2.out]; rfl, HB.out⟩
        | false =>
          go_wp2_with fail
          refine (HP.out _).mono ?_
          rintro r w2 ⟨rfl, rfl⟩
          go_wp2_with fail
          refine (HS.out _).mono ?_
          rintro r w2 ⟨rfl, rfl⟩
          go_wp2_with fail
          go_ret
          exact ⟨by rw [HI2.out]; cases q <;> rfl, HB.out⟩
end Go.Proofs.Ytpgpiopkaabncaa
