/- The walk of the law JidChecks: every address: whether it may be, its text, its parts. Condition: a string takes at most what a machine can hold. -/
import Derived.Test.YtddhbhdjjiibbaaDoorJlc
namespace Go.Proofs.YtddhbhdjjiibbaaDoor
open Go.RowKit Go.Lib Go.Shelf Sg Jd

set_option maxRecDepth 100000 in
set_option maxHeartbeats 8000000 in
theorem checks_walk (n d r s : ByteArray) (w : World) (w1 : n.size ≤ 140737488351232) (w2 : d.size ≤ 140737488351232) (w3 : r.size ≤ 140737488351232) (_w4 : s.size ≤ maxLen) :
    Calls Tryd.prog 4 #[.agg #[.string n, .string d, .string r], .string s] w fun e w' => e = .returned (.bool true) ∧ Below w.heap.size w w' := by
  have HB0 : Hid (Below w.heap.size w w) := Below.refl _ _
  have L := Lib.hid (fun W => live_any W)
  have SM := Lib.hid (fun W => small_any n d r W w1 w2 w3)
  clear w1 w2 w3
  cases hsm : sm n d r with
  | false =>
    rw [hsm] at SM
    clear hsm
    have X1 := Lib.hid (Bx.new w (.string n) (.string d) (.string r) 24)
    have HB1 := Lib.hid (HB0.out.alloc HB0.out.size (.cells #[.string n, .string d, .string r] 24))
    obtain ⟨_, k10, k11, k12, k1f⟩ := X1.out
    go_enter Tryd.func4, Tryd.ntmps4
    go_wp2_with fail
    refine (SM.out _).mono ?_
    rintro e w2 ⟨rfl, hb2⟩
    clear k10 k11 k12 k1f
    have X1_2 := Lib.hid (X1.out.below hb2)
    have HB2 := Lib.hid (more HB1.out (Nat.le_refl _) hb2)
    clear hb2
    obtain ⟨_, k10, k11, k12, k1f⟩ := X1_2.out
    go_wp2_with fail
    refine (L.out _).mono ?_
    rintro e w3 ⟨rfl, hb3⟩
    clear k10 k11 k12 k1f
    have X1_2_3 := Lib.hid (X1_2.out.below hb3)
    have HB3 := Lib.hid (more HB2.out (Nat.le_refl _) hb3)
    clear hb3
    obtain ⟨_, k10, k11, k12, k1f⟩ := X1_2_3.out
    go_wp2_with fail
    go_ret
    exact ⟨rfl, HB3.out⟩
  | true =>
    rw [hsm] at SM
    obtain ⟨h1, h2, h3, h4⟩ := sm_le hsm
    clear hsm
    by_cases hbig : 4000 < s.size
    · have f : decide ((4000 : Int) < s.size) = true := by simp; omega
      clear hbig
      have X1 := Lib.hid (Bx.new w (.string n) (.string d) (.string r) 24)
      have HB1 := Lib.hid (HB0.out.alloc HB0.out.size (.cells #[.string n, .string d, .string r] 24))
      obtain ⟨_, k10, k11, k12, k1f⟩ := X1.out
      go_enter Tryd.func4, Tryd.ntmps4
      go_wp2_with fail
      refine (SM.out _).mono ?_
      rintro e w2 ⟨rfl, hb2⟩
      clear k10 k11 k12 k1f
      have X1_2 := Lib.hid (X1.out.below hb2)
      have HB2 := Lib.hid (more HB1.out (Nat.le_refl _) hb2)
      clear hb2
      obtain ⟨_, k10, k11, k12, k1f⟩ := X1_2.out
      go_wp2_with fail
      refine (L.out _).mono ?_
      rintro e w3 ⟨rfl, hb3⟩
      clear k10 k11 k12 k1f
      have X1_2_3 := Lib.hid (X1_2.out.below hb3)
      have HB3 := Lib.hid (more HB2.out (Nat.le_refl _) hb3)
      clear hb3
      obtain ⟨_, k10, k11, k12, k1f⟩ := X1_2_3.out
      go_wp2_with fail
      go_ret
      exact ⟨rfl, HB3.out⟩
    · have f : decide ((4000 : Int) < s.size) = false := by simp; omega
      have IS := Lib.hid (fun W => rIs_any3 n d r W (by omega) (by omega) (by omega))
      have PU := Lib.hid (fun W => put_any n d r W (by omega) (by omega) (by omega))
      have RPU := Lib.hid (fun W => rPut_any n d r W (by omega) (by omega) (by omega))
      have NO := Lib.hid (fun W => norm_any n d r W (by omega) (by omega) (by omega))
      have RNO := Lib.hid (fun W => rNorm_any n d r W (by omega) (by omega))
      have BA := Lib.hid (fun W => bare_any n d r W (by omega) (by omega))
      have RBA := Lib.hid (fun W => rBare_any n d r W)
      have WI := Lib.hid (fun W => with_any n d r s W (by omega) (by omega) (by omega))
      generalize putB n d r = p at PU RPU
      generalize mk (foldL n.data.toList) = N at NO RNO
      generalize mk (Lib.trimSuffix (foldL d.data.toList) [46]) = D at NO RNO
      clear hbig
      cases hv : ok (jd n d r) with
      | true =>
        have CK := Lib.hid (fun W => check_yes3 n d r W (by omega) (by omega) (by omega) hv)
        rw [hv] at IS
        clear hv h1 h2 h3 h4
        have X1 := Lib.hid (Bx.new w (.string n) (.string d) (.string r) 24)
        have HB1 := Lib.hid (HB0.out.alloc HB0.out.size (.cells #[.string n, .string d, .string r] 24))
        obtain ⟨_, k10, k11, k12, k1f⟩ := X1.out
        go_enter Tryd.func4, Tryd.ntmps4
        go_wp2_with fail
        refine (SM.out _).mono ?_
        rintro e w2 ⟨rfl, hb2⟩
        clear k10 k11 k12 k1f
        have X1_2 := Lib.hid (X1.out.below hb2)
        have HB2 := Lib.hid (more HB1.out (Nat.le_refl _) hb2)
        clear hb2
        obtain ⟨_, pk10, pk11, pk12, pk1f⟩ := X1_2.out
        have X1_2_3 := Lib.hid (X1_2.out.alloc (.cells #[.string n, .string d, .string s] 24))
        have X3 := Lib.hid (Bx.new w2 (.string n) (.string d) (.string s) 24)
        have HB3 := Lib.hid (HB2.out.alloc HB2.out.size (.cells #[.string n, .string d, .string s] 24))
        obtain ⟨_, k10, k11, k12, k1f⟩ := X1_2_3.out
        obtain ⟨_, k30, k31, k32, k3f⟩ := X3.out
        go_wp2_with fail
        have yk10 := fun (x : Ext _) => ext_cell x k10
        have yk11 := fun (x : Ext _) => ext_cell x k11
        have yk12 := fun (x : Ext _) => ext_cell x k12
        have yk30 := fun (x : Ext _) => ext_cell x k30
        have yk31 := fun (x : Ext _) => ext_cell x k31
        have yk32 := fun (x : Ext _) => ext_cell x k32
        clear k10 k11 k12 k1f k30 k31 k32 k3f pk10 pk11 pk12 pk1f
        refine ext_region (by kernel_rfl) (by kernel_rfl) ?_
        repeat (go_big_quiet_step ((first | (go_at_call 14; exact ext_call _ (CK.out _)) | (go_at_call 12; exact ext_same _ (num_any _ _)) | (go_at_call 15; exact ext_call _ (IS.out _)) | (go_at_call 16; exact ext_call _ (PU.out _)) | (go_at_call 17; exact ext_call _ (RPU.out _)) | (go_at_call 18; exact ext_call _ (NO.out _)) | (go_at_call 19; exact ext_call _ (RNO.out _)) | (go_at_call 20; exact ext_call _ (BA.out _)) | (go_at_call 21; exact ext_call _ (RBA.out _)) | (go_at_call 22; exact ext_call _ (WI.out _)) | (go_at_call 9; exact ext_call _ (L.out _)))))
        refine wpQuiet_nil ?_
        rintro _ ⟨x4, hx⟩
        subst hx
        clear yk10 yk11 yk12 yk30 yk31 yk32
        have X1_2_3_4 := Lib.hid (X1_2_3.out.below x4.below)
        have X3_4 := Lib.hid (X3.out.below x4.below)
        have HB4 := Lib.hid (more HB3.out (Nat.le_refl _) x4.below)
        obtain ⟨_, k10, k11, k12, k1f⟩ := X1_2_3_4.out
        obtain ⟨_, k30, k31, k32, k3f⟩ := X3_4.out
        go_wp2_with fail
        go_ret
        exact ⟨rfl, HB4.out⟩
      | false =>
        have CK := Lib.hid (fun W => check_no3 n d r W (by omega) (by omega) (by omega) hv)
        rw [hv] at IS
        clear hv h1 h2 h3 h4
        have X1 := Lib.hid (Bx.new w (.string n) (.string d) (.string r) 24)
        have HB1 := Lib.hid (HB0.out.alloc HB0.out.size (.cells #[.string n, .string d, .string r] 24))
        obtain ⟨_, k10, k11, k12, k1f⟩ := X1.out
        go_enter Tryd.func4, Tryd.ntmps4
        go_wp2_with fail
        refine (SM.out _).mono ?_
        rintro e w2 ⟨rfl, hb2⟩
        clear k10 k11 k12 k1f
        have X1_2 := Lib.hid (X1.out.below hb2)
        have HB2 := Lib.hid (more HB1.out (Nat.le_refl _) hb2)
        clear hb2
        obtain ⟨_, pk10, pk11, pk12, pk1f⟩ := X1_2.out
        have X1_2_3 := Lib.hid (X1_2.out.alloc (.cells #[.string n, .string d, .string s] 24))
        have X3 := Lib.hid (Bx.new w2 (.string n) (.string d) (.string s) 24)
        have HB3 := Lib.hid (HB2.out.alloc HB2.out.size (.cells #[.string n, .string d, .string s] 24))
        obtain ⟨_, k10, k11, k12, k1f⟩ := X1_2_3.out
        obtain ⟨_, k30, k31, k32, k3f⟩ := X3.out
        go_wp2_with fail
        have yk10 := fun (x : Ext _) => ext_cell x k10
        have yk11 := fun (x : Ext _) => ext_cell x k11
        have yk12 := fun (x : Ext _) => ext_cell x k12
        have yk30 := fun (x : Ext _) => ext_cell x k30
        have yk31 := fun (x : Ext _) => ext_cell x k31
        have yk32 := fun (x : Ext _) => ext_cell x k32
        clear k10 k11 k12 k1f k30 k31 k32 k3f pk10 pk11 pk12 pk1f
        refine ext_region (by kernel_rfl) (by kernel_rfl) ?_
        repeat (go_big_quiet_step ((first | (go_at_call 14; exact ext_call _ (CK.out _)) | (go_at_call 12; exact ext_same _ (num_any _ _)) | (go_at_call 15; exact ext_call _ (IS.out _)) | (go_at_call 16; exact ext_call _ (PU.out _)) | (go_at_call 17; exact ext_call _ (RPU.out _)) | (go_at_call 18; exact ext_call _ (NO.out _)) | (go_at_call 19; exact ext_call _ (RNO.out _)) | (go_at_call 20; exact ext_call _ (BA.out _)) | (go_at_call 21; exact ext_call _ (RBA.out _)) | (go_at_call 22; exact ext_call _ (WI.out _)) | (go_at_call 9; exact ext_call _ (L.out _)))))
        refine wpQuiet_nil ?_
        rintro _ ⟨x4, hx⟩
        subst hx
        clear yk10 yk11 yk12 yk30 yk31 yk32
        have X1_2_3_4 := Lib.hid (X1_2_3.out.below x4.below)
        have X3_4 := Lib.hid (X3.out.below x4.below)
        have HB4 := Lib.hid (more HB3.out (Nat.le_refl _) x4.below)
        obtain ⟨_, k10, k11, k12, k1f⟩ := X1_2_3_4.out
        obtain ⟨_, k30, k31, k32, k3f⟩ := X3_4.out
        go_wp2_with fail
        go_ret
        exact ⟨rfl, HB4.out⟩
end Go.Proofs.YtddhbhdjjiibbaaDoor
