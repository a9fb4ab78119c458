/- The walk of the law JidParses: every text as an address. Condition: a string takes at most what a machine can hold. -/
import Derived.Test.YtddhbhdjjiibbaaDoorJlc
namespace Go.Proofs.YtddhbhdjjiibbaaDoor
open Go.RowKit Go.Lib Go.Shelf Sg Jd

set_option maxRecDepth 100000 in
set_option maxHeartbeats 8000000 in
theorem parses_walk (s : ByteArray) (w : World) (_ws : s.size ≤ maxLen) :
    Calls Tryd.prog 3 #[.string s] w fun e w' => e = .returned (.bool true) ∧ Below w.heap.size w w' := by
  have HB0 : Hid (Below w.heap.size w w) := Below.refl _ _
  have L := Lib.hid (fun W => live_any W)
  by_cases hbig : 4000 < s.size
  · have f : decide ((4000 : Int) < s.size) = true := by simp; omega
    clear hbig
    go_enter Tryd.func3, Tryd.ntmps3
    go_wp2_with fail
    refine (L.out _).mono ?_
    rintro e w1 ⟨rfl, hb1⟩
    have HB1 := Lib.hid (more HB0.out (Nat.le_refl _) hb1)
    clear hb1
    go_wp2_with fail
    go_ret
    exact ⟨rfl, HB1.out⟩
  have f : decide ((4000 : Int) < s.size) = false := by simp; omega
  have hs : s.size ≤ 4000 := by omega
  clear hbig
  cases hp : ps s.data.toList with
  | none =>
    have P := Lib.hid (fun W => parse_none s W (by omega) hp)
    have Q := Lib.hid (fun W => rparse_none s W (by omega) hp)
    clear hp
    go_enter Tryd.func3, Tryd.ntmps3
    go_wp2_with fail
    refine (P.out _).mono ?_
    rintro e w1 ⟨rfl, hb1⟩
    have HB1 := Lib.hid (more HB0.out (Nat.le_refl _) hb1)
    clear hb1
    have X2 := Lib.hid (Bx.new w1 (.string ⟨#[]⟩) (.string ⟨#[]⟩) (.string ⟨#[]⟩) 24)
    have HB2 := Lib.hid (HB1.out.alloc HB1.out.size (.cells #[.string ⟨#[]⟩, .string ⟨#[]⟩, .string ⟨#[]⟩] 24))
    obtain ⟨_, k20, k21, k22, k2f⟩ := X2.out
    go_wp2_with fail
    refine (Q.out _).mono ?_
    rintro e w3 ⟨rfl, hb3⟩
    clear k20 k21 k22 k2f
    have X2_3 := Lib.hid (X2.out.below hb3)
    have HB3 := Lib.hid (more HB2.out (Nat.le_refl _) hb3)
    clear hb3
    have X2_3_4 := Lib.hid (X2_3.out.alloc (.cells #[.string ⟨#[]⟩, .string ⟨#[]⟩, .string ⟨#[]⟩] 24))
    have X4 := Lib.hid (Bx.new w3 (.string ⟨#[]⟩) (.string ⟨#[]⟩) (.string ⟨#[]⟩) 24)
    have HB4 := Lib.hid (HB3.out.alloc HB3.out.size (.cells #[.string ⟨#[]⟩, .string ⟨#[]⟩, .string ⟨#[]⟩] 24))
    obtain ⟨_, k20, k21, k22, k2f⟩ := X2_3_4.out
    obtain ⟨_, k40, k41, k42, k4f⟩ := X4.out
    go_wp2_with fail
    refine (num_any _ _).mono ?_
    rintro e w9 ⟨rfl, hw⟩
    subst hw
    go_wp2_with fail
    refine (L.out _).mono ?_
    rintro e w5 ⟨rfl, hb5⟩
    clear k20 k21 k22 k2f k40 k41 k42 k4f
    have X2_3_4_5 := Lib.hid (X2_3_4.out.below hb5)
    have X4_5 := Lib.hid (X4.out.below hb5)
    have HB5 := Lib.hid (more HB4.out (Nat.le_refl _) hb5)
    clear hb5
    obtain ⟨_, k20, k21, k22, k2f⟩ := X2_3_4_5.out
    obtain ⟨_, k40, k41, k42, k4f⟩ := X4_5.out
    go_wp2_with fail
    go_ret
    exact ⟨rfl, HB5.out⟩
  | some j =>
    have P := Lib.hid (fun W => parse_some s W (by omega) hp)
    have Q := Lib.hid (fun W => rparse_some s W (by omega) hp)
    clear hp
    go_enter Tryd.func3, Tryd.ntmps3
    go_wp2_with fail
    refine (P.out _).mono ?_
    rintro e w1 ⟨rfl, hb1⟩
    have HB1 := Lib.hid (more HB0.out (Nat.le_refl _) hb1)
    clear hb1
    have X2 := Lib.hid (Bx.new w1 (.string (mk j.n)) (.string (mk j.d)) (.string (mk j.r)) 24)
    have HB2 := Lib.hid (HB1.out.alloc HB1.out.size (.cells #[.string (mk j.n), .string (mk j.d), .string (mk j.r)] 24))
    obtain ⟨_, k20, k21, k22, k2f⟩ := X2.out
    go_wp2_with fail
    refine (Q.out _).mono ?_
    rintro e w3 ⟨rfl, hb3⟩
    clear k20 k21 k22 k2f
    have X2_3 := Lib.hid (X2.out.below hb3)
    have HB3 := Lib.hid (more HB2.out (Nat.le_refl _) hb3)
    clear hb3
    have X2_3_4 := Lib.hid (X2_3.out.alloc (.cells #[.string (mk j.n), .string (mk j.d), .string (mk j.r)] 24))
    have X4 := Lib.hid (Bx.new w3 (.string (mk j.n)) (.string (mk j.d)) (.string (mk j.r)) 24)
    have HB4 := Lib.hid (HB3.out.alloc HB3.out.size (.cells #[.string (mk j.n), .string (mk j.d), .string (mk j.r)] 24))
    obtain ⟨_, k20, k21, k22, k2f⟩ := X2_3_4.out
    obtain ⟨_, k40, k41, k42, k4f⟩ := X4.out
    go_wp2_with fail
    refine (num_any _ _).mono ?_
    rintro e w9 ⟨rfl, hw⟩
    subst hw
    go_wp2_with fail
    refine (L.out _).mono ?_
    rintro e w5 ⟨rfl, hb5⟩
    clear k20 k21 k22 k2f k40 k41 k42 k4f
    have X2_3_4_5 := Lib.hid (X2_3_4.out.below hb5)
    have X4_5 := Lib.hid (X4.out.below hb5)
    have HB5 := Lib.hid (more HB4.out (Nat.le_refl _) hb5)
    clear hb5
    obtain ⟨_, k20, k21, k22, k2f⟩ := X2_3_4_5.out
    obtain ⟨_, k40, k41, k42, k4f⟩ := X4_5.out
    go_wp2_with fail
    go_ret
    exact ⟨rfl, HB5.out⟩
end Go.Proofs.YtddhbhdjjiibbaaDoor
