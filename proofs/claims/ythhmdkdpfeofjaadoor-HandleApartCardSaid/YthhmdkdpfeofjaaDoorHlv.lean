/- The first line of each statement of layer 4: at some texts the calls of package handle answer as the document's examples say. No condition. -/
import Derived.Test.YthhmdkdpfeofjaaDoorHfj
namespace Go.Proofs.YthhmdkdpfeofjaaDoor
open Go.RowKit Go.Lib Go.Shelf Sg Jd Hd

theorem hx_ok : Ok ⟨[106, 111, 101, 92, 52, 48, 109, 97, 99, 46, 99, 111, 109], [97, 105, 109, 46, 120], []⟩ :=
  ⟨⟨by decide, ⟨[106, 111, 101, 92, 52, 48, 109, 97, 99, 46, 99, 111, 109], by decide, by decide⟩, by decide⟩, ⟨by decide, ⟨[97, 105, 109, 46, 120], by decide, by decide⟩, by decide⟩, part_nil, by decide, by decide, by decide⟩
theorem toj_ex : toj [106, 111, 101, 64, 109, 97, 99, 46, 99, 111, 109] [97, 105, 109, 46, 120] = some ⟨[106, 111, 101, 92, 52, 48, 109, 97, 99, 46, 99, 111, 109], [97, 105, 109, 46, 120], []⟩ := by
  have e : Esc.E (nl [106, 111, 101, 64, 109, 97, 99, 46, 99, 111, 109]) = [106, 111, 101, 92, 52, 48, 109, 97, 99, 46, 99, 111, 109] := by decide +kernel
  unfold toj
  rw [e, if_pos ⟨by decide +kernel, (ok_iff _).2 hx_ok⟩]
theorem frj_ex : frj ⟨[106, 111, 101, 92, 52, 48, 109, 97, 99, 46, 99, 111, 109], [97, 105, 109, 46, 120], []⟩ [97, 105, 109, 46, 120] = some [106, 111, 101, 64, 109, 97, 99, 46, 99, 111, 109] := by
  rw [frj_back toj_ex, show nl [106, 111, 101, 64, 109, 97, 99, 46, 99, 111, 109] = [106, 111, 101, 64, 109, 97, 99, 46, 99, 111, 109] from by decide +kernel]
theorem frj_no : frj ⟨[106, 111, 101, 92, 52, 48, 109, 97, 99, 46, 99, 111, 109], [97, 105, 109, 46, 120], []⟩ [105, 99, 113, 46, 120] = none := by
  unfold frj
  rw [if_neg (fun e => absurd e.1 (by decide))]
set_option maxRecDepth 100000 in
set_option maxHeartbeats 8000000 in
theorem hlive_any (w : World) :
    Calls Tryd.prog 7 #[] w fun e w' => e = .returned (.bool true) ∧ Below w.heap.size w w' := by
  have TJ : Hid (∀ W, Calls Tryd.prog 14 #[.string ⟨#[106, 111, 101, 64, 109, 97, 99, 46, 99, 111, 109]⟩, .string ⟨#[97, 105, 109, 46, 120]⟩] W fun e w' => e = .returned (.tuple #[.agg #[.string ⟨#[106, 111, 101, 92, 52, 48, 109, 97, 99, 46, 99, 111, 109]⟩, .string ⟨#[97, 105, 109, 46, 120]⟩, .string ⟨#[]⟩], .int .i64 0]) ∧ Below W.heap.size W w') := fun W => by
    have h := toJid_any ⟨#[106, 111, 101, 64, 109, 97, 99, 46, 99, 111, 109]⟩ ⟨#[97, 105, 109, 46, 120]⟩ W (by decide) (by decide)
    rw [show (⟨#[106, 111, 101, 64, 109, 97, 99, 46, 99, 111, 109]⟩ : ByteArray).data.toList = [106, 111, 101, 64, 109, 97, 99, 46, 99, 111, 109] from rfl, show (⟨#[97, 105, 109, 46, 120]⟩ : ByteArray).data.toList = [97, 105, 109, 46, 120] from rfl, toj_ex] at h
    exact h
  have F1 : Hid (∀ W, Calls Tryd.prog 15 #[.agg #[.string ⟨#[106, 111, 101, 92, 52, 48, 109, 97, 99, 46, 99, 111, 109]⟩, .string ⟨#[97, 105, 109, 46, 120]⟩, .string ⟨#[]⟩], .string ⟨#[97, 105, 109, 46, 120]⟩] W fun e w' => e = .returned (.tuple #[.string ⟨#[106, 111, 101, 64, 109, 97, 99, 46, 99, 111, 109]⟩, .int .i64 0]) ∧ Below W.heap.size W w') := fun W => by
    have h := fromJid_any ⟨#[106, 111, 101, 92, 52, 48, 109, 97, 99, 46, 99, 111, 109]⟩ ⟨#[97, 105, 109, 46, 120]⟩ ⟨#[]⟩ ⟨#[97, 105, 109, 46, 120]⟩ W (by decide)
    rw [show jd ⟨#[106, 111, 101, 92, 52, 48, 109, 97, 99, 46, 99, 111, 109]⟩ ⟨#[97, 105, 109, 46, 120]⟩ ⟨#[]⟩ = ⟨[106, 111, 101, 92, 52, 48, 109, 97, 99, 46, 99, 111, 109], [97, 105, 109, 46, 120], []⟩ from rfl, show (⟨#[97, 105, 109, 46, 120]⟩ : ByteArray).data.toList = [97, 105, 109, 46, 120] from rfl, frj_ex] at h
    exact h
  have F2 : Hid (∀ W, Calls Tryd.prog 15 #[.agg #[.string ⟨#[106, 111, 101, 92, 52, 48, 109, 97, 99, 46, 99, 111, 109]⟩, .string ⟨#[97, 105, 109, 46, 120]⟩, .string ⟨#[]⟩], .string ⟨#[105, 99, 113, 46, 120]⟩] W fun e w' => e = .returned (.tuple #[.string ⟨#[]⟩, .int .i64 40]) ∧ Below W.heap.size W w') := fun W => by
    have h := fromJid_any ⟨#[106, 111, 101, 92, 52, 48, 109, 97, 99, 46, 99, 111, 109]⟩ ⟨#[97, 105, 109, 46, 120]⟩ ⟨#[]⟩ ⟨#[105, 99, 113, 46, 120]⟩ W (by decide)
    rw [show jd ⟨#[106, 111, 101, 92, 52, 48, 109, 97, 99, 46, 99, 111, 109]⟩ ⟨#[97, 105, 109, 46, 120]⟩ ⟨#[]⟩ = ⟨[106, 111, 101, 92, 52, 48, 109, 97, 99, 46, 99, 111, 109], [97, 105, 109, 46, 120], []⟩ from rfl, show (⟨#[105, 99, 113, 46, 120]⟩ : ByteArray).data.toList = [105, 99, 113, 46, 120] from rfl, frj_no] at h
    exact h
  have CK : Hid (∀ W, Calls Tryd.prog 9 #[.string ⟨#[48, 49, 50, 51, 52]⟩] W fun e w' => e = .returned (.int .i64 40) ∧ Below W.heap.size W w') := fun W => by
    have h := hcheck_any ⟨#[48, 49, 50, 51, 52]⟩ W (by decide)
    rw [show nm (⟨#[48, 49, 50, 51, 52]⟩ : ByteArray).data.toList = false from by decide +kernel] at h
    exact h
  have SA : Hid (∀ W, Calls Tryd.prog 13 #[.string ⟨#[74, 111, 101, 32, 66, 108, 111, 119]⟩, .string ⟨#[106, 111, 101, 98, 108, 111, 119]⟩] W fun e w' => e = .returned (.bool true) ∧ Below W.heap.size W w') := fun W => by
    have h := same_any ⟨#[74, 111, 101, 32, 66, 108, 111, 119]⟩ ⟨#[106, 111, 101, 98, 108, 111, 119]⟩ W (by decide) (by decide)
    rw [show decide (nl (⟨#[74, 111, 101, 32, 66, 108, 111, 119]⟩ : ByteArray).data.toList = nl (⟨#[106, 111, 101, 98, 108, 111, 119]⟩ : ByteArray).data.toList) = true from by decide +kernel] at h
    exact h
  have NO : Hid (∀ W, Calls Tryd.prog 11 #[.string ⟨#[74, 111, 101, 32, 66]⟩] W fun e w' => e = .returned (.string ⟨#[106, 111, 101, 98]⟩) ∧ Below W.heap.size W w') := fun W => by
    have h := hnorm_any ⟨#[74, 111, 101, 32, 66]⟩ W (by decide)
    rw [show nl (⟨#[74, 111, 101, 32, 66]⟩ : ByteArray).data.toList = [106, 111, 101, 98] from by decide +kernel] at h
    exact h
  go_enter Tryd.func7, Tryd.ntmps7
  go_wp2_with fail
  refine (TJ.out _).mono ?_
  rintro e w1 ⟨rfl, hb1⟩
  have B1 := Lib.hid (hb1.alloc hb1.size (.cells #[.string ⟨#[106, 111, 101, 92, 52, 48, 109, 97, 99, 46, 99, 111, 109]⟩, .string ⟨#[97, 105, 109, 46, 120]⟩, .string ⟨#[]⟩] 30))
  have X1 := Lib.hid (Bx.new w1 (.string ⟨#[106, 111, 101, 92, 52, 48, 109, 97, 99, 46, 99, 111, 109]⟩) (.string ⟨#[97, 105, 109, 46, 120]⟩) (.string ⟨#[]⟩) 30)
  clear hb1
  obtain ⟨_, c0, c1, c2, cf⟩ := X1.out
  go_wp2_with fail
  refine (F1.out _).mono ?_
  rintro e w2 ⟨rfl, hb2⟩
  have B2 := Lib.hid (B1.out.trans (hb2.mono B1.out.size))
  have X2 := Lib.hid (X1.out.below hb2)
  clear hb2 X1 B1 c0 c1 c2 cf
  obtain ⟨_, c0, c1, c2, cf⟩ := X2.out
  go_wp2_with fail
  refine (F2.out _).mono ?_
  rintro e w3 ⟨rfl, hb3⟩
  have B3 := Lib.hid (B2.out.trans (hb3.mono B2.out.size))
  have X3 := Lib.hid (X2.out.below hb3)
  clear hb3 X2 B2 c0 c1 c2 cf
  obtain ⟨_, c0, c1, c2, cf⟩ := X3.out
  go_wp2_with fail
  refine (num_any _ _).mono ?_
  rintro e w9 ⟨rfl, hw⟩
  subst hw
  go_wp2_with fail
  refine (num_any _ _).mono ?_
  rintro e w9 ⟨rfl, hw⟩
  subst hw
  go_wp2_with fail
  refine (num_any _ _).mono ?_
  rintro e w9 ⟨rfl, hw⟩
  subst hw
  go_wp2_with fail
  refine (CK.out _).mono ?_
  rintro e w4 ⟨rfl, hb4⟩
  have B4 := Lib.hid (B3.out.trans (hb4.mono B3.out.size))
  clear hb4 X3 B3 c0 c1 c2 cf
  go_wp2_with fail
  refine (num_any _ _).mono ?_
  rintro e w9 ⟨rfl, hw⟩
  subst hw
  go_wp2_with fail
  refine (SA.out _).mono ?_
  rintro e w5 ⟨rfl, hb5⟩
  have B5 := Lib.hid (B4.out.trans (hb5.mono B4.out.size))
  clear hb5 B4
  go_wp2_with fail
  refine (NO.out _).mono ?_
  rintro e w6 ⟨rfl, hb6⟩
  have B6 := Lib.hid (B5.out.trans (hb6.mono B5.out.size))
  clear hb6 B5
  go_wp2_with fail
  go_ret
  exact ⟨rfl, B6.out⟩
end Go.Proofs.YthhmdkdpfeofjaaDoor
