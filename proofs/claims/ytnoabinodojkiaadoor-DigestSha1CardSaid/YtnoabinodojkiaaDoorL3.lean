/- Walk of the law DigestSha1. Condition: the two tables hold what the program's text lays. -/
import Derived.Test.YtnoabinodojkiaaDoorL2
import Derived.Test.YtnoabinodojkiaaDoorDs
namespace Go.Proofs.YtnoabinodojkiaaDoor
open Go.RowKit Go.Lib By Dg

theorem digestSha1_walk (s : ByteArray) (w : World) (_hs : s.size ≤ maxLen) (hG : Gd w) : Calls Tryd.prog 4 #[.string s] w fun e w' => e = .returned (.bool true) ∧ Below w.heap.size w w' := by
  have HG := Lib.hid hG
  have L := Lib.hid (fun W g => live_any W g)
  clear hG
  by_cases hbig : 3000 < s.size
  · have f : decide ((3000 : Int) < s.size) = true := by simp; omega
    clear hbig
    go_enter Tryd.func4, Tryd.ntmps4
    go_wp2_with fail
    refine (L.out _ HG.out).mono ?_
    rintro r w1 ⟨rfl, hb⟩
    have HB1 := Lib.hid hb
    clear hb
    go_wp2_with fail
    go_ret
    exact ⟨rfl, HB1.out⟩
  have f : decide ((3000 : Int) < s.size) = false := by simp; omega
  have M1 := Lib.hid (fun W => sha1_any s W (by omega))
  have M2 := Lib.hid (fun W => rsha1_any s W (by omega))
  clear hbig
  generalize (⟨(sha1 s.data.toList).toArray⟩ : ByteArray) = x at M1 M2
  go_enter Tryd.func4, Tryd.ntmps4
  go_wp2_with fail
  refine (M1.out _).mono ?_
  rintro r w1 ⟨rfl, hb⟩
  have HB1 := Lib.hid hb
  clear hb
  go_wp2_with fail
  refine (M2.out _).mono ?_
  rintro r w2 ⟨rfl, hb⟩
  have HB2 := Lib.hid (more HB1.out (Nat.le_refl _) hb)
  clear hb
  go_wp2_with fail
  refine (L.out _ (HG.out.below HB2.out)).mono ?_
  rintro r w3 ⟨rfl, hb⟩
  have HB3 := Lib.hid (more HB2.out (Nat.le_refl _) hb)
  clear hb
  go_wp2_with fail
  go_ret
  exact ⟨rfl, HB3.out⟩
end Go.Proofs.YtnoabinodojkiaaDoor
