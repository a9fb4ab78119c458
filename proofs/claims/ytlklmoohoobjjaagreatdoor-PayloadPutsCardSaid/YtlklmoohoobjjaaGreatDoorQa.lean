/- The contract of wharfref10.Digits. No condition beyond an int64's bounds. -/
import Derived.Test.YtlklmoohoobjjaaGreatDoorOd
namespace Go.Proofs.YtlklmoohoobjjaaGreatDoor
open Go.RowKit Go.Lib Go.Shelf Tg

theorem digits_le {n : Int} (h : n ≤ 0) : digits n = ⟨#[48]⟩ := by
  unfold digits
  rw [show max n 0 = 0 by omega]
  decide +kernel
theorem ten_fin : ∀ x : Fin 10, ((⟨#[48, 49, 50, 51, 52, 53, 54, 55, 56, 57]⟩ : ByteArray).extract x.val (x.val + 1)).data.toList = [UInt8.ofNat (48 + x.val)] := by decide +kernel
theorem ten_at (x : Nat) (h : x < 10) : ((⟨#[48, 49, 50, 51, 52, 53, 54, 55, 56, 57]⟩ : ByteArray).extract x (x + 1)).data.toList = [UInt8.ofNat (48 + x)] := ten_fin ⟨x, h⟩
/-- What the digits of m, written so far, are short of. -/
def ahead (m : Nat) : List UInt8 := if m = 0 then [] else Lib.decDigits m
theorem ahead_step (m : Nat) (h : ¬ m = 0) : ahead m = ahead (m / 10) ++ [UInt8.ofNat (48 + m % 10)] := by
  unfold ahead
  rw [if_neg h]
  by_cases h9 : m < 10
  · rw [if_pos (by omega), Lib.decDigits_one h9, Nat.mod_eq_of_lt h9]; rfl
  · rw [if_neg (by omega), Lib.decDigits, dif_neg h9]
set_option maxRecDepth 100000 in
set_option maxHeartbeats 4000000 in
theorem rDigits_any (n : Int) (w : World) (h0 : -9223372036854775808 ≤ n) (h1 : n ≤ 9223372036854775807) :
    Calls Tryz.prog 39 #[.int .i64 n] w fun r w' => r = .returned (.string (digits n)) ∧ Below w.heap.size w w' := by
  have HB0 : Hid (Below w.heap.size w w) := Below.refl _ _
  by_cases hn : n ≤ 0
  · have HD := Lib.hid (digits_le hn)
    go_enter Tryz.func39, Tryz.ntmps39
    go_wp2_with fail
    go_ret
    exact ⟨by rw [HD.out]; rfl, HB0.out⟩
  · obtain ⟨u, rfl⟩ : ∃ u : Nat, n = u := ⟨n.toNat, by omega⟩
    have HE : Hid ((digits (u : Int)).data.toList = ahead u ++ (⟨#[]⟩ : ByteArray).data.toList) := by
      show _ = _
      rw [digits_nat, ahead, if_neg (by omega)]; simp
    have hz : (digits (u : Int)).size ≤ 19 := digits_len u (by omega)
    generalize digits (u : Int) = D at HE hz ⊢
    have HZ : Hid (D.data.toList.length ≤ 19) := by show _ ≤ _; rw [← Lib.size_eq]; exact hz
    clear hz
    go_enter Tryz.func39, Tryz.ntmps39
    go_wp2_with fail
    go_loopw [0, 3] (fun nn s wr => ∃ (m : Nat) (S : ByteArray), nn = .int .i64 m ∧ s = .string S ∧ m ≤ 9223372036854775807 ∧ wr = w ∧ Hid (D.data.toList = ahead m ++ S.data.toList)) (fun nn _ _ => (RowKit.intOf nn).toNat)
    case atStart => exact ⟨u, ⟨#[]⟩, rfl, rfl, by omega, rfl, HE.out⟩
    case round =>
      clear HE
      obtain ⟨m, S, rfl, rfl, hm, rfl, HE⟩ := hrel
      by_cases hm0 : m = 0
      · subst hm0
        have HD : Hid (S = D) := by
          have := HE.out
          exact (By.bytes_ext (by rw [this]; rfl)).symm
        go_wp2_with fail
        go_ret
        exact ⟨by rw [HD.out]; rfl, HB0.out⟩
      · have hst := ahead_step m hm0
        have hx : m % 10 < 10 := Nat.mod_lt _ (by decide)
        have r1 : ((m : Int).tmod 10) = ((m % 10 : Nat) : Int) := rfl
        have r2 : ((m : Int).tdiv 10) = ((m / 10 : Nat) : Int) := rfl
        have hmm : m = 10 * (m / 10) + m % 10 := by omega
        have h3 : m / 10 < m := by omega
        have HL := HE.out
        rw [hst] at HL
        have hSz : S.size ≤ 18 := by
          have h4 := HZ.out
          rw [HL] at h4
          simp at h4
          have h5 := Lib.size_eq S
          simp at h5
          omega
        generalize m / 10 = q at r2 hst HL hmm h3
        generalize m % 10 = x at r1 hst HL hmm hx
        have HN : Hid (D.data.toList = ahead q ++ ((⟨#[48, 49, 50, 51, 52, 53, 54, 55, 56, 57]⟩ : ByteArray).extract x (x + 1) ++ S).data.toList) := by
          show _ = _
          rw [By.append_list, ten_at x hx, HL]
          simp
        have hmp : (0 : Int) < m := by omega
        have hex : ((⟨#[48, 49, 50, 51, 52, 53, 54, 55, 56, 57]⟩ : ByteArray).extract x (x + 1)).size ≤ 1 := by
          rw [ByteArray.size_extract]; omega
        clear hst HL HE hmm hm0
        go_wp2_with fail
        go_roundw
        case rel => exact ⟨q, _, by go_num, rfl, by omega, trivial, HN.out⟩
        case measure => simp [RowKit.intOf]; omega
end Go.Proofs.YtlklmoohoobjjaaGreatDoor
