/- The first line of each statement of layer 3: at some texts the calls of package jid answer as the document's examples say. No condition. -/
import Derived.Test.YtddhbhdjjiibbaaDoorJcl
import Derived.Test.YtddhbhdjjiibbaaDoorJbx
import Derived.Test.YtddhbhdjjiibbaaDoorJpu
import Derived.Test.YtddhbhdjjiibbaaDoorJwi
namespace Go.Proofs.YtddhbhdjjiibbaaDoor
open Go.RowKit Go.Lib Go.Shelf Sg Jd

def exJ : J := ⟨[106, 117, 108, 105, 101, 116], [101, 120, 97, 109, 112, 108, 101, 46, 99, 111, 109], [66, 97, 108, 99, 111, 110, 121]⟩
theorem ex_ok : Ok exJ :=
  ⟨⟨by decide, ⟨[106, 117, 108, 105, 101, 116], by decide, by decide⟩, by decide⟩, ⟨by decide, ⟨[101, 120, 97, 109, 112, 108, 101, 46, 99, 111, 109], by decide, by decide⟩, by decide⟩, ⟨by decide, ⟨[66, 97, 108, 99, 111, 110, 121], by decide, by decide⟩, by decide⟩, by decide, by decide, by decide⟩
theorem ex_norm : norm ⟨[74, 117, 108, 105, 101, 116], [69, 120, 97, 109, 112, 108, 101, 46, 67, 79, 77, 46], [66, 97, 108, 99, 111, 110, 121]⟩ = exJ := by decide +kernel
theorem ps_ex : ps [74, 117, 108, 105, 101, 116, 64, 69, 120, 97, 109, 112, 108, 101, 46, 67, 79, 77, 46, 47, 66, 97, 108, 99, 111, 110, 121] = some exJ := by
  unfold ps
  rw [show cut1 47 [74, 117, 108, 105, 101, 116, 64, 69, 120, 97, 109, 112, 108, 101, 46, 67, 79, 77, 46, 47, 66, 97, 108, 99, 111, 110, 121] = some ([74, 117, 108, 105, 101, 116, 64, 69, 120, 97, 109, 112, 108, 101, 46, 67, 79, 77, 46], [66, 97, 108, 99, 111, 110, 121]) from by decide +kernel]
  simp only
  rw [if_neg (by decide)]
  unfold ps2
  rw [show cut1 64 [74, 117, 108, 105, 101, 116, 64, 69, 120, 97, 109, 112, 108, 101, 46, 67, 79, 77, 46] = some ([74, 117, 108, 105, 101, 116], [69, 120, 97, 109, 112, 108, 101, 46, 67, 79, 77, 46]) from by decide +kernel]
  simp only
  rw [if_neg (by decide)]
  unfold fin
  rw [ex_norm, if_pos ((ok_iff _).2 ex_ok)]
theorem ps_no : ps [64, 120] = none := by
  unfold ps
  rw [show cut1 47 [64, 120] = none from by decide]
  simp only
  unfold ps2
  rw [show cut1 64 [64, 120] = some ([], [120]) from by decide]
  rfl
theorem fld2 (a b c : ByteArray) (w : World) : (Instr.field 24 (.agg #[.string a, .string b, .string c]) 2).run Tryd.prog w = .ok (.string c) w := by kernel_rfl
set_option maxRecDepth 100000 in
set_option maxHeartbeats 4000000 in
theorem live_any (w : World) :
    Calls Tryd.prog 9 #[] w fun e w' => e = .returned (.bool true) ∧ Below w.heap.size w w' := by
  have P1 : Hid (∀ W, Calls Tryd.prog 10 #[.string ⟨#[74, 117, 108, 105, 101, 116, 64, 69, 120, 97, 109, 112, 108, 101, 46, 67, 79, 77, 46, 47, 66, 97, 108, 99, 111, 110, 121]⟩] W fun e w' => e = .returned (.tuple #[.agg #[.string ⟨#[106, 117, 108, 105, 101, 116]⟩, .string ⟨#[101, 120, 97, 109, 112, 108, 101, 46, 99, 111, 109]⟩, .string ⟨#[66, 97, 108, 99, 111, 110, 121]⟩], .int .i64 0]) ∧ Below W.heap.size W w') := fun W => by
    have h := parse_any ⟨#[74, 117, 108, 105, 101, 116, 64, 69, 120, 97, 109, 112, 108, 101, 46, 67, 79, 77, 46, 47, 66, 97, 108, 99, 111, 110, 121]⟩ W (by decide)
    rw [show (⟨#[74, 117, 108, 105, 101, 116, 64, 69, 120, 97, 109, 112, 108, 101, 46, 67, 79, 77, 46, 47, 66, 97, 108, 99, 111, 110, 121]⟩ : ByteArray).data.toList = [74, 117, 108, 105, 101, 116, 64, 69, 120, 97, 109, 112, 108, 101, 46, 67, 79, 77, 46, 47, 66, 97, 108, 99, 111, 110, 121] from rfl, ps_ex] at h
    exact h
  have P2 : Hid (∀ W, Calls Tryd.prog 10 #[.string ⟨#[64, 120]⟩] W fun e w' => e = .returned (.tuple #[.agg #[.string ⟨#[]⟩, .string ⟨#[]⟩, .string ⟨#[]⟩], .int .i64 30]) ∧ Below W.heap.size W w') := fun W => by
    have h := parse_any ⟨#[64, 120]⟩ W (by decide)
    rw [show (⟨#[64, 120]⟩ : ByteArray).data.toList = [64, 120] from rfl, ps_no] at h
    exact h
  have PU : Hid (∀ W, Calls Tryd.prog 16 #[.agg #[.string ⟨#[106, 117, 108, 105, 101, 116]⟩, .string ⟨#[101, 120, 97, 109, 112, 108, 101, 46, 99, 111, 109]⟩, .string ⟨#[66, 97, 108, 99, 111, 110, 121]⟩]] W fun e w' => e = .returned (.string ⟨#[106, 117, 108, 105, 101, 116, 64, 101, 120, 97, 109, 112, 108, 101, 46, 99, 111, 109, 47, 66, 97, 108, 99, 111, 110, 121]⟩) ∧ Below W.heap.size W w') := fun W => put_any ⟨#[106, 117, 108, 105, 101, 116]⟩ ⟨#[101, 120, 97, 109, 112, 108, 101, 46, 99, 111, 109]⟩ ⟨#[66, 97, 108, 99, 111, 110, 121]⟩ W (by decide) (by decide) (by decide)
  have BA : Hid (∀ W, Calls Tryd.prog 20 #[.agg #[.string ⟨#[106, 117, 108, 105, 101, 116]⟩, .string ⟨#[101, 120, 97, 109, 112, 108, 101, 46, 99, 111, 109]⟩, .string ⟨#[66, 97, 108, 99, 111, 110, 121]⟩]] W fun e w' => e = .returned (.agg #[.string ⟨#[106, 117, 108, 105, 101, 116]⟩, .string ⟨#[101, 120, 97, 109, 112, 108, 101, 46, 99, 111, 109]⟩, .string ⟨#[]⟩]) ∧ Below W.heap.size W w') := fun W => bare_any ⟨#[106, 117, 108, 105, 101, 116]⟩ ⟨#[101, 120, 97, 109, 112, 108, 101, 46, 99, 111, 109]⟩ ⟨#[66, 97, 108, 99, 111, 110, 121]⟩ W (by decide) (by decide)
  have CK : Hid (∀ W, Calls Tryd.prog 14 #[.agg #[.string ⟨#[]⟩, .string ⟨#[]⟩, .string ⟨#[]⟩]] W fun e w' => e = .returned (.int .i64 30) ∧ Below W.heap.size W w') := fun W => by
    have h := check_any ⟨#[]⟩ ⟨#[]⟩ ⟨#[]⟩ W (by decide) (by decide) (by decide)
    rw [show ok (jd ⟨#[]⟩ ⟨#[]⟩ ⟨#[]⟩) = false from by rw [Bool.eq_false_iff, ne_eq, ok_iff]; exact ok_empty] at h
    exact h
  have hfd := fld2 ⟨#[106, 117, 108, 105, 101, 116]⟩ ⟨#[101, 120, 97, 109, 112, 108, 101, 46, 99, 111, 109]⟩ ⟨#[]⟩
  go_enter Tryd.func9, Tryd.ntmps9
  go_wp2_with fail
  refine (P1.out _).mono ?_
  rintro e w1 ⟨rfl, hb1⟩
  have B1 := Lib.hid (hb1.alloc hb1.size (.cells #[.string ⟨#[106, 117, 108, 105, 101, 116]⟩, .string ⟨#[101, 120, 97, 109, 112, 108, 101, 46, 99, 111, 109]⟩, .string ⟨#[66, 97, 108, 99, 111, 110, 121]⟩] 24))
  have X1 := Lib.hid (Bx.new w1 (.string ⟨#[106, 117, 108, 105, 101, 116]⟩) (.string ⟨#[101, 120, 97, 109, 112, 108, 101, 46, 99, 111, 109]⟩) (.string ⟨#[66, 97, 108, 99, 111, 110, 121]⟩) 24)
  clear hb1
  go_wp2_with fail
  refine (P2.out _).mono ?_
  rintro e w2 ⟨rfl, hb2⟩
  have B2 := Lib.hid ((B1.out.trans (hb2.mono B1.out.size)).alloc (Nat.le_trans B1.out.size hb2.size) (.cells #[.string ⟨#[]⟩, .string ⟨#[]⟩, .string ⟨#[]⟩] 24))
  have X2 := Lib.hid ((X1.out.below hb2).alloc (.cells #[.string ⟨#[]⟩, .string ⟨#[]⟩, .string ⟨#[]⟩] 24))
  clear hb2 X1 B1
  obtain ⟨_, c0, c1, c2, cf⟩ := X2.out
  go_wp2_with fail
  refine (num_any _ _).mono ?_
  rintro e w9 ⟨rfl, hw⟩
  subst hw
  go_wp2_with fail
  refine (num_any _ _).mono ?_
  rintro e w9 ⟨rfl, hw⟩
  subst hw
  go_wp2_with fail
  refine (PU.out _).mono ?_
  rintro e w3 ⟨rfl, hb3⟩
  have B3 := Lib.hid (B2.out.trans (hb3.mono B2.out.size))
  have X3 := Lib.hid (X2.out.below hb3)
  clear hb3 X2 B2 c0 c1 c2 cf
  obtain ⟨_, c0, c1, c2, cf⟩ := X3.out
  go_wp2_with fail
  refine (BA.out _).mono ?_
  rintro e w4 ⟨rfl, hb4⟩
  have B4 := Lib.hid (B3.out.trans (hb4.mono B3.out.size))
  clear hb4 X3 B3 c0 c1 c2 cf
  go_wp2_with fail
  refine (CK.out _).mono ?_
  rintro e w5 ⟨rfl, hb5⟩
  have B5 := Lib.hid (B4.out.trans (hb5.mono B4.out.size))
  clear hb5 B4
  go_wp2_with fail
  refine (num_any _ _).mono ?_
  rintro e w9 ⟨rfl, hw⟩
  subst hw
  go_wp2_with fail
  go_ret
  exact ⟨rfl, B5.out⟩
end Go.Proofs.YtddhbhdjjiibbaaDoor
