/- Walks of the laws DigestMd5, DigestSalted and DigestLengths. Condition: the two tables hold what the program's text lays. -/
import Derived.Test.YtnoabinodojkiaaDoorDr
namespace Go.Proofs.YtnoabinodojkiaaDoor
open Go.RowKit Go.Lib By Dg

theorem more {w w1 w2 : World} {B : Nat} (h : Below B w w1) (hw : B ≤ w.heap.size) (h2 : Below w1.heap.size w1 w2) : Below B w w2 := h.trans (h2.mono (Nat.le_trans hw h.size))
theorem digestMd5_walk (s : ByteArray) (w : World) (_hs : s.size ≤ maxLen) (hG : Gd w) : Calls Tryd.prog 3 #[.string s] w fun e w' => e = .returned (.bool true) ∧ Below w.heap.size w w' := by
  have HG := Lib.hid hG
  have L := Lib.hid (fun W g => live_any W g)
  clear hG
  by_cases hbig : 3000 < s.size
  · have f : decide ((3000 : Int) < s.size) = true := by simp; omega
    clear hbig
    go_enter Tryd.func3, Tryd.ntmps3
    go_wp2_with fail
    refine (L.out _ HG.out).mono ?_
    rintro r w1 ⟨rfl, hb⟩
    have HB1 := Lib.hid hb
    clear hb
    go_wp2_with fail
    go_ret
    exact ⟨rfl, HB1.out⟩
  have f : decide ((3000 : Int) < s.size) = false := by simp; omega
  have M1 := Lib.hid (fun W g => md5_any s W (by omega) g)
  have M2 := Lib.hid (fun W => rmd5_any s W (by omega))
  clear hbig
  generalize (⟨(md5 s.data.toList).toArray⟩ : ByteArray) = x at M1 M2
  go_enter Tryd.func3, Tryd.ntmps3
  go_wp2_with fail
  refine (M1.out _ HG.out).mono ?_
  rintro r w1 ⟨rfl, hb⟩
  have HB1 := Lib.hid hb
  clear hb
  go_wp2_with fail
  refine (M2.out _).mono ?_
  rintro r w2 ⟨rfl, hb⟩
  have HB2 := Lib.hid (more HB1.out (Nat.le_refl _) hb)
  clear hb
  go_wp2_with fail
  refine (L.out _ (HG.out.below HB2.out)).mono ?_
  rintro r w3 ⟨rfl, hb⟩
  have HB3 := Lib.hid (more HB2.out (Nat.le_refl _) hb)
  clear hb
  go_wp2_with fail
  go_ret
  exact ⟨rfl, HB3.out⟩
set_option maxRecDepth 100000 in
theorem digestSalted_walk (k p t : ByteArray) (w : World) (hk : k.size ≤ 140737488351232) (hp : p.size ≤ 140737488351232) (ht : t.size ≤ 140737488351232) (hG : Gd w) : Calls Tryd.prog 5 #[.string k, .string p, .string t] w fun e w' => e = .returned (.bool true) ∧ Below w.heap.size w w' := by
  have HG := Lib.hid hG
  have L := Lib.hid (fun W g => live_any W g)
  clear hG
  by_cases hbig : 3000 < k.size + p.size + t.size
  · have f : decide ((3000 : Int) < (k.size : Int) + p.size + t.size) = true := by simp; omega
    clear hbig
    go_enter Tryd.func5, Tryd.ntmps5
    go_wp2_with fail
    refine (L.out _ HG.out).mono ?_
    rintro r w1 ⟨rfl, hb⟩
    have HB1 := Lib.hid hb
    clear hb
    go_wp2_with fail
    go_ret
    exact ⟨rfl, HB1.out⟩
  have f : decide ((3000 : Int) < (k.size : Int) + p.size + t.size) = false := by simp; omega
  have hsum : k.size + p.size + t.size ≤ 3000 := by omega
  have H1 := Lib.hid (fun W => hex_any k W (by omega))
  have H2 := Lib.hid (fun W => rhex_any k W (by omega))
  have S1 := Lib.hid (fun W g => salted_any k p t W hsum g)
  have M1 := Lib.hid (fun W => rmd5_any p W (by omega))
  have hm : (⟨(md5 p.data.toList).toArray⟩ : ByteArray).size = 16 := by rw [Lib.size_eq]; exact md5_length _
  have HE : Hid ((k ++ ⟨(md5 p.data.toList).toArray⟩ ++ t).data.toList = k.data.toList ++ md5 p.data.toList ++ t.data.toList) := by show _ = _; rw [append_list, append_list]
  generalize (⟨(md5 p.data.toList).toArray⟩ : ByteArray) = m at M1 hm HE
  have M2 := Lib.hid (fun W => rmd5_any (k ++ m ++ t) W (by rw [ByteArray.size_append, ByteArray.size_append]; omega))
  rw [HE.out] at M2
  generalize (⟨(md5 (k.data.toList ++ md5 p.data.toList ++ t.data.toList)).toArray⟩ : ByteArray) = x at S1 M2
  generalize (⟨(hx k.data.toList).toArray⟩ : ByteArray) = y at H1 H2
  clear hbig
  go_enter Tryd.func5, Tryd.ntmps5
  go_wp2_with fail
  refine (H1.out _).mono ?_
  rintro r w1 ⟨rfl, hb⟩
  have HB1 := Lib.hid hb
  clear hb
  go_wp2_with fail
  refine (H2.out _).mono ?_
  rintro r w2 ⟨rfl, hb⟩
  have HB2 := Lib.hid (more HB1.out (Nat.le_refl _) hb)
  clear hb
  go_wp2_with fail
  refine (S1.out _ (HG.out.below HB2.out)).mono ?_
  rintro r w3 ⟨rfl, hb⟩
  have HB3 := Lib.hid (more HB2.out (Nat.le_refl _) hb)
  clear hb
  go_wp2_with fail
  refine (M1.out _).mono ?_
  rintro r w4 ⟨rfl, hb⟩
  have HB4 := Lib.hid (more HB3.out (Nat.le_refl _) hb)
  clear hb
  go_wp2_with fail
  refine (M2.out _).mono ?_
  rintro r w5 ⟨rfl, hb⟩
  have HB5 := Lib.hid (more HB4.out (Nat.le_refl _) hb)
  clear hb
  go_wp2_with fail
  refine (L.out _ (HG.out.below HB5.out)).mono ?_
  rintro r w6 ⟨rfl, hb⟩
  have HB6 := Lib.hid (more HB5.out (Nat.le_refl _) hb)
  clear hb
  go_wp2_with fail
  go_ret
  exact ⟨rfl, HB6.out⟩
end Go.Proofs.YtnoabinodojkiaaDoor
