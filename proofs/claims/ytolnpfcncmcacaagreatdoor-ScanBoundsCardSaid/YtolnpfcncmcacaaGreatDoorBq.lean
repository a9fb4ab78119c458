/- Contracts of the document's blank, blanks, split, qname at plain names. Condition: the texts have at most 1048576 bytes. -/
import Derived.Test.YtolnpfcncmcacaaGreatDoorMN
import Derived.Test.YtolnpfcncmcacaaGreatDoorBp
namespace Go.Proofs.YtolnpfcncmcacaaGreatDoor
open Go.RowKit Go.Lib Go.Shelf Tg Sn

theorem blank_any (c : Nat) (w : World) :
    Calls Tryz.prog 79 #[.int .u8 c] w fun e w' => e = .returned (.bool (c == 32 || c == 9 || c == 10 || c == 13)) ∧ w = w' := by
  have k1 : ((c : Int) == 32) = (c == 32) := by rw [Bool.eq_iff_iff]; simp only [beq_iff_eq]; omega
  have k2 : ((c : Int) == 9) = (c == 9) := by rw [Bool.eq_iff_iff]; simp only [beq_iff_eq]; omega
  have k3 : ((c : Int) == 10) = (c == 10) := by rw [Bool.eq_iff_iff]; simp only [beq_iff_eq]; omega
  have k4 : ((c : Int) == 13) = (c == 13) := by rw [Bool.eq_iff_iff]; simp only [beq_iff_eq]; omega
  generalize (c == 32) = b1 at k1 ⊢
  generalize (c == 9) = b2 at k2 ⊢
  generalize (c == 10) = b3 at k3 ⊢
  generalize (c == 13) = b4 at k4 ⊢
  cases b1 <;> cases b2 <;> cases b3 <;> cases b4 <;>
  · go_enter Tryz.func79, Tryz.ntmps79
    go_wp2
    go_ret
    exact ⟨rfl, rfl⟩
theorem blanks_nil (w : World) :
    Calls Tryz.prog 50 #[.string ⟨#[]⟩] w fun e w' => e = .returned (.bool true) ∧ w = w' := by
  go_enter Tryz.func50, Tryz.ntmps50
  go_wp2_with fail
  go_loop [3] (fun i => i = .int .i64 0) (fun i => 0)
  case atStart => rfl
  case round =>
    subst hrel
    go_wp2_with fail
    go_ret
    exact ⟨rfl, rfl⟩
/-- No colon in it. -/
theorem split_plain (s : ByteArray) (w : World) (hs : s.size ≤ 1048576) (h : ∀ k, k < s.size → By.nb s.data.toList k ≠ 58) :
    Calls Tryz.prog 78 #[.string s] w fun e w' => e = .returned (.tuple #[.string ⟨#[]⟩, .string s]) ∧ w = w' := by
  have HS := Lib.hid hs
  have HH := Lib.hid h
  clear hs h
  go_enter Tryz.func78, Tryz.ntmps78
  go_wp2_with fail
  go_loop [4] (fun i => ∃ k : Nat, i = .int .i64 k ∧ k ≤ s.size) (fun i => s.size - (RowKit.intOf i).toNat)
  case atStart => exact ⟨0, rfl, Nat.zero_le _⟩
  case round =>
    obtain ⟨k, rfl, hk⟩ := hrel
    have hz := HS.out
    by_cases hlt : k < s.size
    · have hb := By.byte_nb s k hlt
      have hne := HH.out k hlt
      generalize By.nb s.data.toList k = y at hb hne
      have n58 : ((y : Int) == 58) = false := by rw [beq_eq_false_iff_ne]; omega
      clear hne
      go_wp2_with fail
      go_round
      case rel => exact ⟨k + 1, by go_num, by omega⟩
      case measure => simp [RowKit.intOf]; omega
    · obtain rfl : k = s.size := by omega
      go_wp2_with fail
      go_ret2
      exact ⟨rfl, rfl⟩
theorem ext1 (s : ByteArray) (k : Nat) (h : k < s.size) : (s.extract k (k + 1)).data.toList = [s[k]'h] := by
  have hl : k < s.data.toList.length := by rw [By.len_size]; exact h
  rw [By.extract_cut, List.take_succ_eq_append_getElem hl, List.drop_left' (by rw [List.length_take]; omega)]
  rfl
theorem name2 (c : UInt8) : nameB [97, c] = (bgn c.toNat || fol c.toNat) := by
  show (true && true && true && (true && ((bgn c.toNat || fol c.toNat) && true))) = _
  simp
theorem qname_plain (s : ByteArray) (m : Nat) (w : World) (hs : s.size ≤ 1048576) (hm : m < s.size) (h0 : 0 < m) (h64 : m ≤ 64) (h : ∀ k, k < m → 97 ≤ By.nb s.data.toList k ∧ By.nb s.data.toList k ≤ 122) (he : By.nb s.data.toList m = 32 ∨ By.nb s.data.toList m = 61 ∨ By.nb s.data.toList m = 62) :
    Calls Tryz.prog 49 #[.string s] w fun e w' => e = .returned (.tuple #[.string (s.extract 0 m), .string (s.extract m s.size), .bool true]) ∧ Below w.heap.size w w' := by
  have HS := Lib.hid hs
  have HH := Lib.hid h
  have HE := Lib.hid he
  have HN := Lib.hid (fun (c : ByteArray) (hc : c.size ≤ 1048576) => rName_any c w hc)
  have HP := Lib.hid (fun (c : ByteArray) (hc : c.size ≤ 1048576) (h : ∀ k, k < c.size → By.nb c.data.toList k ≠ 58) => split_plain c w hc h)
  clear hs h he
  go_enter Tryz.func49, Tryz.ntmps49
  go_wp2_with fail
  go_loopw [5, 6] (fun i c wr => ∃ k : Nat, i = .int .i64 k ∧ c = .int .i64 0 ∧ k ≤ m ∧ wr = w) (fun i _ _ => m - (RowKit.intOf i).toNat)
  case atStart => exact ⟨0, rfl, rfl, Nat.zero_le _, rfl⟩
  case round =>
    obtain ⟨k, rfl, rfl, hk, rfl⟩ := hrel
    have hz := HS.out
    have hks : k < s.size := by omega
    have hb := By.byte_nb s k hks
    have X1 := ext1 s k hks
    have XS : (s.extract k (k + 1)).size = 1 := by rw [← By.len_size, X1]; rfl
    have XL : ((⟨#[97]⟩ : ByteArray) ++ s.extract k (k + 1)).data.toList = [97, s[k]'hks] := by rw [By.append_list, X1]; rfl
    have HC := HN.out ((⟨#[97]⟩ : ByteArray) ++ s.extract k (k + 1)) (by rw [ByteArray.size_append, XS]; decide)
    rw [XL, name2, hb] at HC
    have HC := Lib.hid HC
    by_cases hlt : k < m
    · have hr := HH.out k hlt
      generalize By.nb s.data.toList k = y at hb hr HC
      have hf : (bgn y || fol y) = true := by
        have : bgn y = true := by unfold bgn; rw [decide_eq_true hr.1, decide_eq_true hr.2]; rfl
        rw [this]; rfl
      rw [hf] at HC
      have n58 : ((y : Int) == 58) = false := by rw [beq_eq_false_iff_ne]; omega
      clear hf hr X1 XL
      go_wp2_with fail
      refine HC.out.mono ?_
      rintro r w' ⟨rfl, rfl⟩
      go_wp2_with fail
      go_roundw
      case rel => exact ⟨k + 1, by go_num, rfl, by omega, by trivial⟩
      case measure => simp [RowKit.intOf]; omega
    · obtain rfl : k = m := by omega
      have hr := HE.out
      generalize By.nb s.data.toList k = y at hb hr HC
      have hf : (bgn y || fol y) = false := by rcases hr with rfl | rfl | rfl <;> decide
      rw [hf] at HC
      have n58 : ((y : Int) == 58) = false := by rw [beq_eq_false_iff_ne]; omega
      have Q0 : (s.extract 0 k).data.toList = s.data.toList.take k := by rw [By.extract_cut, List.drop_zero]
      have QS : (s.extract 0 k).size = k := by rw [← By.len_size, Q0, List.length_take, By.len_size]; omega
      have QB : ∀ j, j < k → By.nb (s.extract 0 k).data.toList j = By.nb s.data.toList j := fun j hj => by
        unfold By.nb
        rw [Q0, List.getD_eq_getElem?_getD, List.getD_eq_getElem?_getD, List.getElem?_take_of_lt hj]
      have HSP := Lib.hid (HP.out (s.extract 0 k) (by omega) (fun j hj => by rw [QS] at hj; rw [QB j hj]; have := HH.out j hj; omega))
      have HNM := HN.out (s.extract 0 k) (by omega)
      have hnb : nameB (s.extract 0 k).data.toList = true := by
        unfold nameB
        have e1 : (s.extract 0 k).data.toList.isEmpty = false := by
          cases hq : (s.extract 0 k).data.toList with
          | nil => have : (s.extract 0 k).data.toList.length = k := by rw [By.len_size, QS]
                   rw [hq] at this; exact absurd this (by show ¬ 0 = k; omega)
          | cons a b => rfl
        have e2 : decide ((s.extract 0 k).data.toList.length ≤ 64) = true := by rw [By.len_size, QS]; exact decide_eq_true h64
        have bg : ∀ j, j < k → bgn (By.nb s.data.toList j) = true := fun j hj => by
          have := HH.out j hj
          unfold bgn; rw [decide_eq_true this.1, decide_eq_true this.2]; rfl
        have e3 : bgn (Sg.nb (s.extract 0 k).data.toList 0) = true := by
          show bgn (By.nb (s.extract 0 k).data.toList 0) = true
          rw [QB 0 h0]; exact bg 0 h0
        rw [e1, e2, e3]
        show (true && true && true && _) = true
        rw [Bool.true_and, Bool.true_and, Bool.true_and]
        refine List.all_eq_true.2 fun c hc => ?_
        obtain ⟨j, hj, hjc⟩ := List.getElem_of_mem hc
        have hj2 : j < k := by rw [By.len_size, QS] at hj; exact hj
        have : c.toNat = By.nb (s.extract 0 k).data.toList j := by
          unfold By.nb
          rw [List.getD_eq_getElem?_getD, List.getElem?_eq_getElem hj, hjc]; rfl
        rw [this, QB j hj2, bg j hj2]; rfl
      rw [hnb] at HNM
      have HNM := Lib.hid HNM
      clear hf hr X1 XL hlt QB Q0 hnb
      go_wp2_with fail
      refine HC.out.mono ?_
      rintro r w' ⟨rfl, rfl⟩
      go_wp2_with fail
      refine HSP.out.mono ?_
      rintro r w' ⟨rfl, rfl⟩
      go_wp2_with fail
      refine HNM.out.mono ?_
      rintro r w' ⟨rfl, rfl⟩
      go_wp2_with fail
      go_region
      go_wp2_with fail
      go_ret3
      exact ⟨rfl, (Below.refl _ _).drew⟩
end Go.Proofs.YtolnpfcncmcacaaGreatDoor
