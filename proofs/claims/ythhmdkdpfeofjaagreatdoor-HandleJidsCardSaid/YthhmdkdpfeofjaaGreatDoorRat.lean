/- The contract of the document's own 'at': the place in the table of the escape at a text's front. Condition: the text has at most 1048576 bytes. -/
import Derived.Test.YthhmdkdpfeofjaaGreatDoorEs1
namespace Go.Proofs.YthhmdkdpfeofjaaGreatDoor
open Go.RowKit Go.Lib By Esc

set_option maxRecDepth 100000 in
theorem cell_drewN (w : World) (n : Nat) (a : Addr) : (w.drewN n).cell? a = w.cell? a := by
  induction n with
  | zero => rfl
  | succ n ih => exact ih
set_option maxRecDepth 100000 in
theorem cut_two {s : ByteArray} (h : 2 < s.size) : (s.extract 1 3).data.toList = [u (nb s.data.toList 1), u (nb s.data.toList 2)] := by
  rw [extract_cut]
  have hl := len_size s
  match e : s.data.toList with
  | [] => rw [e] at hl; simp at hl; omega
  | [_] => rw [e] at hl; simp at hl; omega
  | [_, _] => rw [e] at hl; simp at hl; omega
  | x :: a :: b :: r => simp [nb, nat_u]
set_option maxRecDepth 100000 in
set_option maxHeartbeats 2000000 in
theorem rAt_any (s : ByteArray) (w : World) (hs : s.size ≤ 1048576) : Calls Tryz.prog 40 #[.string s] w fun e w' => e = .returned (.int .i64 (atI s.data.toList)) ∧ Below w.heap.size w w' := by
  have hl : s.data.toList.length = s.size := len_size s
  by_cases h3 : s.size < 3
  · have HN : Hid (atI s.data.toList = -1) := atI_no (.inl (by omega))
    have HW : Hid (Below w.heap.size w w) := Below.refl _ _
    have f3 : decide ((s.size : Int) < 3) = true := by simp; omega
    clear h3 hl
    go_enter Tryz.func40, Tryz.ntmps40
    go_wp2_with fail
    go_ret
    exact ⟨by rw [HN.out]; rfl, HW.out⟩
  · have f3 : decide ((s.size : Int) < 3) = false := by simp; omega
    have p0 : 0 < s.size := by omega
    have p2 : 2 < s.size := by omega
    have hb := byte_nb s 0 p0
    by_cases h92 : nb s.data.toList 0 = 92
    · have HT : Hid (∀ k : Nat, atF 0 [u (nb s.data.toList 1), u (nb s.data.toList 2)] = k → atI s.data.toList = if k < 10 then (k : Int) else -1) := fun k hk => atI_two (by omega) h92 hk
      have HX := Lib.hid (cut_two p2)
      have i0 : (0 : Int) < s.size := by omega
      have i3 : (3 : Int) ≤ s.size := by omega
      rw [h92] at hb
      generalize [u (nb s.data.toList 1), u (nb s.data.toList 2)] = p at HT HX
      clear h92 hl
      go_enter Tryz.func40, Tryz.ntmps40
      go_wp2_with fail
      refine (digits_any _).mono ?_
      rintro r w1 ⟨B, rfl, hc1, hb1⟩
      have HC1 := Lib.hid hc1
      have HB1 := Lib.hid hb1
      clear hc1 hb1
      go_wp2_with fail
      go_loopw [4] (fun i wr => ∃ k : Nat, i = .int .i64 k ∧ k ≤ 10 ∧ Hid (atF 0 p = atF k p) ∧ Hid (∀ k, k < 10 → wr.cell? ⟨B, k, none⟩ = some (.string (dtx k))) ∧ Hid (Below w.heap.size w wr)) (fun i _ => 10 - (RowKit.intOf i).toNat)
      case atStart => exact ⟨0, rfl, by omega, rfl, HC1.out, HB1.out⟩
      case round =>
        obtain ⟨k, rfl, hk, HK, HC, HB⟩ := hrel
        by_cases hk10 : k < 10
        · have hc := HC.out k hk10
          have hX := HX.out
          by_cases hp : dgs.getD k [] = p
          · have f : ((dtx k).toList == (s.extract 1 3).toList) = true := by rw [beq_iff_eq, ByteArray.toList_eq, ByteArray.toList_eq, hX, ← hp]; rfl
            have E : Hid (atI s.data.toList = k) := (HT.out k (HK.out.trans (atF_hit hk10 hp))).trans (if_pos hk10)
            generalize dtx k = D at hc f
            clear hX hp HT HK
            go_wp2_with fail
            go_quiet (fail)
            go_wp2_with fail
            go_ret
            exact ⟨by rw [E.out]; rfl, HB.out.trans ((below_drewN _ _).mono HB.out.size)⟩
          · have f : ((dtx k).toList == (s.extract 1 3).toList) = false := by rw [beq_eq_false_iff_ne, ByteArray.toList_eq, ByteArray.toList_eq, hX]; exact hp
            have E : Hid (atF 0 p = atF (k + 1) p) := HK.out.trans (atF_miss hk10 hp)
            have HC2 := Lib.hid (fun n k hk => (cell_drewN wr n ⟨B, k, none⟩).trans (HC.out k hk))
            generalize dtx k = D at hc f
            clear hX hp HK HC
            go_wp2_with fail
            go_quiet (fail)
            go_wp2_with fail
            exact ⟨⟨k + 1, by go_num, by omega, E.out, HC2.out _, HB.out.trans ((below_drewN _ _).mono HB.out.size)⟩, by simp [RowKit.intOf]; omega⟩
        · obtain rfl : k = 10 := by omega
          have E : Hid (atI s.data.toList = -1) := (HT.out 10 HK.out).trans rfl
          clear HK HT
          go_wp2_with fail
          go_ret
          exact ⟨by rw [E.out]; rfl, HB.out⟩
    · have HN : Hid (atI s.data.toList = -1) := atI_no (.inr h92)
      have HW : Hid (Below w.heap.size w w) := Below.refl _ _
      generalize nb s.data.toList 0 = y at hb h92
      have f92 : (y == 92) = false := by rw [beq_eq_false_iff_ne]; omega
      have f92b : bne (y : Int) 92 = true := by simp; omega
      have i0 : (0 : Int) < s.size := by omega
      clear hl h92
      go_enter Tryz.func40, Tryz.ntmps40
      go_wp2_with fail
      go_ret
      exact ⟨by rw [HN.out]; rfl, HW.out⟩

end Go.Proofs.YthhmdkdpfeofjaaGreatDoor
