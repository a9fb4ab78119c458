/- Contract of the law's live: as the papers say. Condition: the two tables hold what the program's text lays. -/
import Derived.Test.YtnoabinodojkiaaDoorDl
import Derived.Test.YtnoabinodojkiaaDoorDm
namespace Go.Proofs.YtnoabinodojkiaaDoor
open Go.RowKit Go.Lib By Dg

theorem hex_of (l k : List UInt8) (h : hx l = k) (hl : l.length ≤ 1000) (W : World) : Calls Tryd.prog 12 #[.string ⟨l.toArray⟩] W fun e w' => e = .returned (.string ⟨k.toArray⟩) ∧ Below W.heap.size W w' := by
  subst h
  exact hex_any ⟨l.toArray⟩ W (by rw [Lib.size_eq]; show l.length ≤ _; omega)
theorem live_any (w : World) (hG : Gd w) : Calls Tryd.prog 7 #[] w fun e w' => e = .returned (.bool true) ∧ Below w.heap.size w w' := by
  have HG := Lib.hid hG
  have A1 := Lib.hid (md5_any ⟨#[97, 98, 99]⟩ w (by decide) hG)
  have A2 := Lib.hid (fun W g => md5_any ⟨#[]⟩ W (by decide) g)
  have A3 := Lib.hid (fun W => sha1_any ⟨#[97, 98, 99]⟩ W (by decide))
  have B1 := Lib.hid (fun W => hex_of (md5 [97, 98, 99]) _ abc_md5 (by rw [md5_length]; decide) W)
  have B2 := Lib.hid (fun W => hex_of (md5 []) _ nil_md5 (by rw [md5_length]; decide) W)
  have B3 := Lib.hid (fun W => hex_of (sha1 [97, 98, 99]) _ abc_sha1 (by rw [sha1_length]; decide) W)
  change Hid (Calls _ _ _ _ fun e w' => e = .returned (.string ⟨(md5 [97, 98, 99]).toArray⟩) ∧ _) at A1
  change Hid (∀ W g, Calls _ _ _ _ fun e w' => e = .returned (.string ⟨(md5 []).toArray⟩) ∧ _) at A2
  change Hid (∀ W, Calls _ _ _ _ fun e w' => e = .returned (.string ⟨(sha1 [97, 98, 99]).toArray⟩) ∧ _) at A3
  generalize (⟨(md5 [97, 98, 99]).toArray⟩ : ByteArray) = x1 at A1 B1
  generalize (⟨(md5 []).toArray⟩ : ByteArray) = x2 at A2 B2
  generalize (⟨(sha1 [97, 98, 99]).toArray⟩ : ByteArray) = x3 at A3 B3
  clear hG
  go_enter Tryd.func7, Tryd.ntmps7
  go_wp2_with fail
  refine A1.out.mono ?_
  rintro r w1 ⟨rfl, hb⟩
  have HB := Lib.hid hb
  clear hb
  go_wp2_with fail
  refine (B1.out _).mono ?_
  rintro r w2 ⟨rfl, hb⟩
  have HB1 := Lib.hid (HB.out.trans (hb.mono HB.out.size))
  clear hb
  go_wp2_with fail
  refine (A2.out _ (HG.out.below HB1.out)).mono ?_
  rintro r w3 ⟨rfl, hb⟩
  have HB2 := Lib.hid (HB1.out.trans (hb.mono HB1.out.size))
  clear hb
  go_wp2_with fail
  refine (B2.out _).mono ?_
  rintro r w4 ⟨rfl, hb⟩
  have HB3 := Lib.hid (HB2.out.trans (hb.mono HB2.out.size))
  clear hb
  go_wp2_with fail
  refine (A3.out _).mono ?_
  rintro r w5 ⟨rfl, hb⟩
  have HB4 := Lib.hid (HB3.out.trans (hb.mono HB3.out.size))
  clear hb
  go_wp2_with fail
  refine (B3.out _).mono ?_
  rintro r w6 ⟨rfl, hb⟩
  have HB5 := Lib.hid (HB4.out.trans (hb.mono HB4.out.size))
  clear hb
  go_wp2_with fail
  go_ret
  exact ⟨rfl, HB5.out⟩
end Go.Proofs.YtnoabinodojkiaaDoor
