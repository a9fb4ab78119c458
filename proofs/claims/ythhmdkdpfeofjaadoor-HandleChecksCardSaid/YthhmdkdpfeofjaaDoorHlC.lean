/- The walk of the law HandleChecks: every text as a name; its plain form; whether two are the same. Condition: a string takes at most what a machine can hold. -/
import Derived.Test.YthhmdkdpfeofjaaDoorHlv
import Derived.Test.YthhmdkdpfeofjaaDoorHri
import Derived.Test.YthhmdkdpfeofjaaDoorJq
namespace Go.Proofs.YthhmdkdpfeofjaaDoor
open Go.RowKit Go.Lib Go.Shelf Sg Jd Hd

set_option maxRecDepth 100000 in
set_option maxHeartbeats 8000000 in
theorem hchecks_walk (s t : ByteArray) (w : World) (ws : s.size ≤ 140737488351232) (wt : t.size ≤ 140737488351232) :
    Calls Tryd.prog 3 #[.string s, .string t] w fun e w' => e = .returned (.bool true) ∧ Below w.heap.size w w' := by
  have HB0 : Hid (Below w.heap.size w w) := Below.refl _ _
  have L := Lib.hid (fun W => hlive_any W)
  by_cases hbig : 3000 < s.size + t.size
  · have f : decide ((3000 : Int) < (s.size : Int) + (t.size : Int)) = true := by simp; omega
    clear hbig
    go_enter Tryd.func3, Tryd.ntmps3
    go_wp2_with fail
    refine (L.out _).mono ?_
    rintro e w1 ⟨rfl, hb1⟩
    have HB1 := Lib.hid (more4 HB0.out (Nat.le_refl _) hb1)
    clear hb1
    go_wp2_with fail
    go_ret
    exact ⟨rfl, HB1.out⟩
  have f : decide ((3000 : Int) < (s.size : Int) + (t.size : Int)) = false := by simp; omega
  have CK := Lib.hid (fun W => hcheck_any s W (by omega))
  have RI := Lib.hid (fun W => rhIs_any s W (by omega))
  have NO := Lib.hid (fun W => hnorm_any s W (by omega))
  have RN := Lib.hid (fun W => rhNorm_any s W (by omega))
  have RT := Lib.hid (fun W => rhNorm_any t W (by omega))
  have SA := Lib.hid (fun W => same_any s t W (by omega) (by omega))
  rw [← mk_beq] at SA
  clear hbig
  generalize mk (nl s.data.toList) = M at NO RN SA
  generalize mk (nl t.data.toList) = T at RT SA
  have hMM : (M.toList == M.toList) = true := by simp
  generalize hbb : (M.toList == T.toList) = bb at SA
  generalize nm s.data.toList = b at CK RI
  cases b
  · cases bb
    · go_enter Tryd.func3, Tryd.ntmps3
      go_wp2_with fail
      refine (CK.out _).mono ?_
      rintro e w1 ⟨rfl, hb1⟩
      have HB1 := Lib.hid (more4 HB0.out (Nat.le_refl _) hb1)
      clear hb1
      go_wp2_with fail
      refine (num_any _ _).mono ?_
      rintro e w9 ⟨rfl, hw⟩
      subst hw
      go_wp2_with fail
      refine (RI.out _).mono ?_
      rintro e w2 ⟨rfl, hb2⟩
      have HB2 := Lib.hid (more4 HB1.out (Nat.le_refl _) hb2)
      clear hb2
      go_wp2_with fail
      refine (CK.out _).mono ?_
      rintro e w3 ⟨rfl, hb3⟩
      have HB3 := Lib.hid (more4 HB2.out (Nat.le_refl _) hb3)
      clear hb3
      go_wp2_with fail
      refine (num_any _ _).mono ?_
      rintro e w9 ⟨rfl, hw⟩
      subst hw
      go_wp2_with fail
      refine (CK.out _).mono ?_
      rintro e w4 ⟨rfl, hb4⟩
      have HB4 := Lib.hid (more4 HB3.out (Nat.le_refl _) hb4)
      clear hb4
      go_wp2_with fail
      refine (num_any _ _).mono ?_
      rintro e w9 ⟨rfl, hw⟩
      subst hw
      go_wp2_with fail
      refine (NO.out _).mono ?_
      rintro e w5 ⟨rfl, hb5⟩
      have HB5 := Lib.hid (more4 HB4.out (Nat.le_refl _) hb5)
      clear hb5
      go_wp2_with fail
      refine (RN.out _).mono ?_
      rintro e w6 ⟨rfl, hb6⟩
      have HB6 := Lib.hid (more4 HB5.out (Nat.le_refl _) hb6)
      clear hb6
      go_wp2_with fail
      refine (SA.out _).mono ?_
      rintro e w7 ⟨rfl, hb7⟩
      have HB7 := Lib.hid (more4 HB6.out (Nat.le_refl _) hb7)
      clear hb7
      go_wp2_with fail
      refine (RN.out _).mono ?_
      rintro e w8 ⟨rfl, hb8⟩
      have HB8 := Lib.hid (more4 HB7.out (Nat.le_refl _) hb8)
      clear hb8
      go_wp2_with fail
      refine (RT.out _).mono ?_
      rintro e w9 ⟨rfl, hb9⟩
      have HB9 := Lib.hid (more4 HB8.out (Nat.le_refl _) hb9)
      clear hb9
      go_wp2_with fail
      refine (L.out _).mono ?_
      rintro e w10 ⟨rfl, hb10⟩
      have HB10 := Lib.hid (more4 HB9.out (Nat.le_refl _) hb10)
      clear hb10
      go_wp2_with fail
      go_ret
      exact ⟨rfl, HB10.out⟩
    · go_enter Tryd.func3, Tryd.ntmps3
      go_wp2_with fail
      refine (CK.out _).mono ?_
      rintro e w1 ⟨rfl, hb1⟩
      have HB1 := Lib.hid (more4 HB0.out (Nat.le_refl _) hb1)
      clear hb1
      go_wp2_with fail
      refine (num_any _ _).mono ?_
      rintro e w9 ⟨rfl, hw⟩
      subst hw
      go_wp2_with fail
      refine (RI.out _).mono ?_
      rintro e w2 ⟨rfl, hb2⟩
      have HB2 := Lib.hid (more4 HB1.out (Nat.le_refl _) hb2)
      clear hb2
      go_wp2_with fail
      refine (CK.out _).mono ?_
      rintro e w3 ⟨rfl, hb3⟩
      have HB3 := Lib.hid (more4 HB2.out (Nat.le_refl _) hb3)
      clear hb3
      go_wp2_with fail
      refine (num_any _ _).mono ?_
      rintro e w9 ⟨rfl, hw⟩
      subst hw
      go_wp2_with fail
      refine (CK.out _).mono ?_
      rintro e w4 ⟨rfl, hb4⟩
      have HB4 := Lib.hid (more4 HB3.out (Nat.le_refl _) hb4)
      clear hb4
      go_wp2_with fail
      refine (num_any _ _).mono ?_
      rintro e w9 ⟨rfl, hw⟩
      subst hw
      go_wp2_with fail
      refine (NO.out _).mono ?_
      rintro e w5 ⟨rfl, hb5⟩
      have HB5 := Lib.hid (more4 HB4.out (Nat.le_refl _) hb5)
      clear hb5
      go_wp2_with fail
      refine (RN.out _).mono ?_
      rintro e w6 ⟨rfl, hb6⟩
      have HB6 := Lib.hid (more4 HB5.out (Nat.le_refl _) hb6)
      clear hb6
      go_wp2_with fail
      refine (SA.out _).mono ?_
      rintro e w7 ⟨rfl, hb7⟩
      have HB7 := Lib.hid (more4 HB6.out (Nat.le_refl _) hb7)
      clear hb7
      go_wp2_with fail
      refine (RN.out _).mono ?_
      rintro e w8 ⟨rfl, hb8⟩
      have HB8 := Lib.hid (more4 HB7.out (Nat.le_refl _) hb8)
      clear hb8
      go_wp2_with fail
      refine (RT.out _).mono ?_
      rintro e w9 ⟨rfl, hb9⟩
      have HB9 := Lib.hid (more4 HB8.out (Nat.le_refl _) hb9)
      clear hb9
      go_wp2_with fail
      refine (L.out _).mono ?_
      rintro e w10 ⟨rfl, hb10⟩
      have HB10 := Lib.hid (more4 HB9.out (Nat.le_refl _) hb10)
      clear hb10
      go_wp2_with fail
      go_ret
      exact ⟨rfl, HB10.out⟩
  · cases bb
    · go_enter Tryd.func3, Tryd.ntmps3
      go_wp2_with fail
      refine (CK.out _).mono ?_
      rintro e w1 ⟨rfl, hb1⟩
      have HB1 := Lib.hid (more4 HB0.out (Nat.le_refl _) hb1)
      clear hb1
      go_wp2_with fail
      refine (num_any _ _).mono ?_
      rintro e w9 ⟨rfl, hw⟩
      subst hw
      go_wp2_with fail
      refine (RI.out _).mono ?_
      rintro e w2 ⟨rfl, hb2⟩
      have HB2 := Lib.hid (more4 HB1.out (Nat.le_refl _) hb2)
      clear hb2
      go_wp2_with fail
      refine (CK.out _).mono ?_
      rintro e w3 ⟨rfl, hb3⟩
      have HB3 := Lib.hid (more4 HB2.out (Nat.le_refl _) hb3)
      clear hb3
      go_wp2_with fail
      refine (num_any _ _).mono ?_
      rintro e w9 ⟨rfl, hw⟩
      subst hw
      go_wp2_with fail
      refine (NO.out _).mono ?_
      rintro e w4 ⟨rfl, hb4⟩
      have HB4 := Lib.hid (more4 HB3.out (Nat.le_refl _) hb4)
      clear hb4
      go_wp2_with fail
      refine (RN.out _).mono ?_
      rintro e w5 ⟨rfl, hb5⟩
      have HB5 := Lib.hid (more4 HB4.out (Nat.le_refl _) hb5)
      clear hb5
      go_wp2_with fail
      refine (SA.out _).mono ?_
      rintro e w6 ⟨rfl, hb6⟩
      have HB6 := Lib.hid (more4 HB5.out (Nat.le_refl _) hb6)
      clear hb6
      go_wp2_with fail
      refine (RN.out _).mono ?_
      rintro e w7 ⟨rfl, hb7⟩
      have HB7 := Lib.hid (more4 HB6.out (Nat.le_refl _) hb7)
      clear hb7
      go_wp2_with fail
      refine (RT.out _).mono ?_
      rintro e w8 ⟨rfl, hb8⟩
      have HB8 := Lib.hid (more4 HB7.out (Nat.le_refl _) hb8)
      clear hb8
      go_wp2_with fail
      refine (L.out _).mono ?_
      rintro e w9 ⟨rfl, hb9⟩
      have HB9 := Lib.hid (more4 HB8.out (Nat.le_refl _) hb9)
      clear hb9
      go_wp2_with fail
      go_ret
      exact ⟨rfl, HB9.out⟩
    · go_enter Tryd.func3, Tryd.ntmps3
      go_wp2_with fail
      refine (CK.out _).mono ?_
      rintro e w1 ⟨rfl, hb1⟩
      have HB1 := Lib.hid (more4 HB0.out (Nat.le_refl _) hb1)
      clear hb1
      go_wp2_with fail
      refine (num_any _ _).mono ?_
      rintro e w9 ⟨rfl, hw⟩
      subst hw
      go_wp2_with fail
      refine (RI.out _).mono ?_
      rintro e w2 ⟨rfl, hb2⟩
      have HB2 := Lib.hid (more4 HB1.out (Nat.le_refl _) hb2)
      clear hb2
      go_wp2_with fail
      refine (CK.out _).mono ?_
      rintro e w3 ⟨rfl, hb3⟩
      have HB3 := Lib.hid (more4 HB2.out (Nat.le_refl _) hb3)
      clear hb3
      go_wp2_with fail
      refine (num_any _ _).mono ?_
      rintro e w9 ⟨rfl, hw⟩
      subst hw
      go_wp2_with fail
      refine (NO.out _).mono ?_
      rintro e w4 ⟨rfl, hb4⟩
      have HB4 := Lib.hid (more4 HB3.out (Nat.le_refl _) hb4)
      clear hb4
      go_wp2_with fail
      refine (RN.out _).mono ?_
      rintro e w5 ⟨rfl, hb5⟩
      have HB5 := Lib.hid (more4 HB4.out (Nat.le_refl _) hb5)
      clear hb5
      go_wp2_with fail
      refine (SA.out _).mono ?_
      rintro e w6 ⟨rfl, hb6⟩
      have HB6 := Lib.hid (more4 HB5.out (Nat.le_refl _) hb6)
      clear hb6
      go_wp2_with fail
      refine (RN.out _).mono ?_
      rintro e w7 ⟨rfl, hb7⟩
      have HB7 := Lib.hid (more4 HB6.out (Nat.le_refl _) hb7)
      clear hb7
      go_wp2_with fail
      refine (RT.out _).mono ?_
      rintro e w8 ⟨rfl, hb8⟩
      have HB8 := Lib.hid (more4 HB7.out (Nat.le_refl _) hb8)
      clear hb8
      go_wp2_with fail
      refine (L.out _).mono ?_
      rintro e w9 ⟨rfl, hb9⟩
      have HB9 := Lib.hid (more4 HB8.out (Nat.le_refl _) hb9)
      clear hb9
      go_wp2_with fail
      go_ret
      exact ⟨rfl, HB9.out⟩
end Go.Proofs.YthhmdkdpfeofjaaDoor
