/- Walk of the law DigestLengths. Condition: the two tables hold what the program's text lays. -/
import Derived.Test.YtnoabinodojkiaaDoorL1
namespace Go.Proofs.YtnoabinodojkiaaDoor
open Go.RowKit Go.Lib By Dg

theorem toList_ne {a b : ByteArray} (h : a.data.toList ≠ b.data.toList) : (a.toList == b.toList) = false := by
  rw [beq_eq_false_iff_ne, ByteArray.toList_eq, ByteArray.toList_eq]
  exact h
set_option maxHeartbeats 1000000 in
set_option maxRecDepth 100000 in
theorem digestLengths_walk (s t : ByteArray) (w : World) (hs : s.size ≤ 140737488351232) (ht : t.size ≤ 140737488351232) (hG : Gd w) : Calls Tryd.prog 6 #[.string s, .string t] w fun e w' => e = .returned (.bool true) ∧ Below w.heap.size w w' := by
  have HG := Lib.hid hG
  have L := Lib.hid (fun W g => live_any W g)
  clear hG
  by_cases hbig : 3000 < s.size + t.size
  · have f : decide ((3000 : Int) < (s.size : Int) + t.size) = true := by simp; omega
    clear hbig
    go_enter Tryd.func6, Tryd.ntmps6
    go_wp2_with fail
    refine (L.out _ HG.out).mono ?_
    rintro r w1 ⟨rfl, hb⟩
    have HB1 := Lib.hid hb
    clear hb
    go_wp2_with fail
    go_ret
    exact ⟨rfl, HB1.out⟩
  have f : decide ((3000 : Int) < (s.size : Int) + t.size) = false := by simp; omega
  have hsum : s.size + t.size ≤ 3000 := by omega
  have H1 := Lib.hid (fun W => hex_any s W (by omega))
  have H2 := Lib.hid (fun W => hex_any t W (by omega))
  have H3 := Lib.hid (fun W => hex_any (s ++ t) W (by rw [ByteArray.size_append]; omega))
  have M1 := Lib.hid (fun W g => md5_any s W (by omega) g)
  have M2 := Lib.hid (fun W => sha1_any s W (by omega))
  have e1 : (⟨(md5 s.data.toList).toArray⟩ : ByteArray).size = 16 := by rw [Lib.size_eq]; exact md5_length _
  have e2 : (⟨(sha1 s.data.toList).toArray⟩ : ByteArray).size = 20 := by rw [Lib.size_eq]; exact sha1_length _
  generalize (⟨(md5 s.data.toList).toArray⟩ : ByteArray) = x1 at M1 e1
  generalize (⟨(sha1 s.data.toList).toArray⟩ : ByteArray) = x2 at M2 e2
  have HJ : Hid ((⟨(hx (s ++ t).data.toList).toArray⟩ : ByteArray) = ⟨(hx s.data.toList).toArray⟩ ++ ⟨(hx t.data.toList).toArray⟩) := by
    show _ = _
    refine bytes_ext ?_
    rw [append_list, append_list]
    exact hx_append _ _
  rw [HJ.out] at H3
  have hz1 : (⟨(hx s.data.toList).toArray⟩ : ByteArray).size = 2 * s.size := by rw [Lib.size_eq, ← len_size]; exact hx_length _
  have hz2 : (⟨(hx t.data.toList).toArray⟩ : ByteArray).size = 2 * t.size := by rw [Lib.size_eq, ← len_size]; exact hx_length _
  have HDg : Hid (∀ i, i < (⟨(hx s.data.toList).toArray⟩ : ByteArray).size → (48 ≤ nb (⟨(hx s.data.toList).toArray⟩ : ByteArray).data.toList i ∧ nb (⟨(hx s.data.toList).toArray⟩ : ByteArray).data.toList i ≤ 57) ∨ (97 ≤ nb (⟨(hx s.data.toList).toArray⟩ : ByteArray).data.toList i ∧ nb (⟨(hx s.data.toList).toArray⟩ : ByteArray).data.toList i ≤ 102)) := by
    intro i hi
    have hi2 : i < (hx s.data.toList).length := by rw [Lib.size_eq] at hi; exact hi
    have := hx_digit s.data.toList (hx s.data.toList)[i] (List.getElem_mem _)
    show (48 ≤ nb (hx s.data.toList) i ∧ _) ∨ _
    simp only [nb, List.getD_eq_getElem?_getD, List.getElem?_eq_getElem hi2, Option.getD_some]
    exact this
  have HI : Hid (s ≠ t → (s.toList == t.toList) = false ∧ ((⟨(hx s.data.toList).toArray⟩ : ByteArray).toList == (⟨(hx t.data.toList).toArray⟩ : ByteArray).toList) = false) := fun hn =>
    ⟨toList_ne fun e => hn (bytes_ext e), toList_ne fun e => hn (bytes_ext (hx_inj e))⟩
  have HI2 : Hid (s = t → (⟨(hx s.data.toList).toArray⟩ : ByteArray) = ⟨(hx t.data.toList).toArray⟩) := fun e => by rw [e]
  generalize (⟨(hx s.data.toList).toArray⟩ : ByteArray) = y1 at *
  generalize (⟨(hx t.data.toList).toArray⟩ : ByteArray) = y2 at *
  clear hbig HJ hs ht
  go_enter Tryd.func6, Tryd.ntmps6
  go_wp2_with fail
  refine (H1.out _).mono ?_
  rintro r w1 ⟨rfl, hb⟩
  have HB1 := Lib.hid hb
  clear hb
  have hy1 : (y1.size : Int) ≤ 6000 := by omega
  have HZ1 := Lib.hid hz1
  clear hz1
  go_wp2_with fail
  go_loopw [6] (fun i wr => ∃ k : Nat, i = .int .i64 k ∧ k ≤ y1.size ∧ Hid (Below w.heap.size w wr)) (fun i _ => y1.size - (RowKit.intOf i).toNat)
  case atStart => exact ⟨0, rfl, by omega, HB1.out⟩
  case round =>
    clear HB1
    obtain ⟨k, rfl, hk, HB⟩ := hrel
    by_cases hlt : k < y1.size
    · have hb := byte_nb y1 k hlt
      have hd := HDg.out k hlt
      generalize nb y1.data.toList k = c at hb hd
      rcases hd with hd | hd
      · have g1 : decide (48 ≤ (c : Int)) = true := by simp; omega
        have g2 : decide ((c : Int) ≤ 57) = true := by simp; omega
        clear hd
        go_wp2_with fail
        exact ⟨⟨k + 1, by go_num, by omega, HB.out⟩, by simp [RowKit.intOf]; omega⟩
      · have g1 : decide (48 ≤ (c : Int)) = true := by simp; omega
        have g2 : decide ((c : Int) ≤ 57) = false := by simp; omega
        have g3 : decide (97 ≤ (c : Int)) = true := by simp; omega
        have g4 : decide ((c : Int) ≤ 102) = true := by simp; omega
        clear hd
        go_wp2_with fail
        exact ⟨⟨k + 1, by go_num, by omega, HB.out⟩, by simp [RowKit.intOf]; omega⟩
    · obtain rfl : k = y1.size := by omega
      have hz : (y1.size : Int) = 2 * s.size := by have := HZ1.out; omega
      by_cases hst : s = t
      · subst hst
        have hyy := HI2.out rfl
        subst hyy
        go_wp2_with fail
        refine (M1.out _ (HG.out.below HB.out)).mono ?_
        rintro r w2 ⟨rfl, hb⟩
        have HB2 := Lib.hid (more HB.out (Nat.le_refl _) hb)
        clear hb
        go_wp2_with fail
        refine (M2.out _).mono ?_
        rintro r w3 ⟨rfl, hb⟩
        have HB3 := Lib.hid (more HB2.out (Nat.le_refl _) hb)
        clear hb
        go_wp2_with fail
        refine (H2.out _).mono ?_
        rintro r w4 ⟨rfl, hb⟩
        have HB4 := Lib.hid (more HB3.out (Nat.le_refl _) hb)
        clear hb
        go_wp2_with fail
        refine (H3.out _).mono ?_
        rintro r w5 ⟨rfl, hb⟩
        have HB5 := Lib.hid (more HB4.out (Nat.le_refl _) hb)
        clear hb
        go_wp2_with fail
        refine (H2.out _).mono ?_
        rintro r w6 ⟨rfl, hb⟩
        have HB6 := Lib.hid (more HB5.out (Nat.le_refl _) hb)
        clear hb
        go_wp2_with fail
        refine (L.out _ (HG.out.below HB6.out)).mono ?_
        rintro r w7 ⟨rfl, hb⟩
        have HB7 := Lib.hid (more HB6.out (Nat.le_refl _) hb)
        clear hb
        go_wp2_with fail
        go_ret
        exact ⟨rfl, HB7.out⟩
      · obtain ⟨n1, n2⟩ := HI.out hst
        clear hst
        go_wp2_with fail
        refine (M1.out _ (HG.out.below HB.out)).mono ?_
        rintro r w2 ⟨rfl, hb⟩
        have HB2 := Lib.hid (more HB.out (Nat.le_refl _) hb)
        clear hb
        go_wp2_with fail
        refine (M2.out _).mono ?_
        rintro r w3 ⟨rfl, hb⟩
        have HB3 := Lib.hid (more HB2.out (Nat.le_refl _) hb)
        clear hb
        go_wp2_with fail
        refine (H2.out _).mono ?_
        rintro r w4 ⟨rfl, hb⟩
        have HB4 := Lib.hid (more HB3.out (Nat.le_refl _) hb)
        clear hb
        go_wp2_with fail
        refine (H3.out _).mono ?_
        rintro r w5 ⟨rfl, hb⟩
        have HB5 := Lib.hid (more HB4.out (Nat.le_refl _) hb)
        clear hb
        go_wp2_with fail
        refine (H2.out _).mono ?_
        rintro r w6 ⟨rfl, hb⟩
        have HB6 := Lib.hid (more HB5.out (Nat.le_refl _) hb)
        clear hb
        go_wp2_with fail
        refine (L.out _ (HG.out.below HB6.out)).mono ?_
        rintro r w7 ⟨rfl, hb⟩
        have HB7 := Lib.hid (more HB6.out (Nat.le_refl _) hb)
        clear hb
        go_wp2_with fail
        go_ret
        exact ⟨rfl, HB7.out⟩
end Go.Proofs.YtnoabinodojkiaaDoor
