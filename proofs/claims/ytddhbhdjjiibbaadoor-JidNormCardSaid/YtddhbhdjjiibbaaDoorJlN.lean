/- The walk of the law JidNorm: an address made plain is plain; its text is parsed just if it may be. Condition: a string takes at most what a machine can hold. -/
import Derived.Test.YtddhbhdjjiibbaaDoorJlc
namespace Go.Proofs.YtddhbhdjjiibbaaDoor
open Go.RowKit Go.Lib Go.Shelf Sg Jd

set_option maxRecDepth 100000 in
set_option maxHeartbeats 8000000 in
theorem norm_walk (n d r : ByteArray) (w : World) (w1 : n.size ≤ 140737488351232) (w2 : d.size ≤ 140737488351232) (w3 : r.size ≤ 140737488351232) :
    Calls Tryd.prog 8 #[.agg #[.string n, .string d, .string r]] w fun e w' => e = .returned (.bool true) ∧ Below w.heap.size w w' := by
  have HB0 : Hid (Below w.heap.size w w) := Below.refl _ _
  have L := Lib.hid (fun W => live_any W)
  have SM := Lib.hid (fun W => small_any n d r W w1 w2 w3)
  clear w1 w2 w3
  cases hsm : sm n d r with
  | false =>
    rw [hsm] at SM
    clear hsm
    have X1 := Lib.hid (Bx.new w (.string n) (.string d) (.string r) 24)
    have HB1 := Lib.hid (HB0.out.alloc HB0.out.size (.cells #[.string n, .string d, .string r] 24))
    obtain ⟨_, k10, k11, k12, k1f⟩ := X1.out
    go_enter Tryd.func8, Tryd.ntmps8
    go_wp2_with fail
    refine (SM.out _).mono ?_
    rintro e w2 ⟨rfl, hb2⟩
    clear k10 k11 k12 k1f
    have X1_2 := Lib.hid (X1.out.below hb2)
    have HB2 := Lib.hid (more HB1.out (Nat.le_refl _) hb2)
    clear hb2
    obtain ⟨_, k10, k11, k12, k1f⟩ := X1_2.out
    go_wp2_with fail
    refine (L.out _).mono ?_
    rintro e w3 ⟨rfl, hb3⟩
    clear k10 k11 k12 k1f
    have X1_2_3 := Lib.hid (X1_2.out.below hb3)
    have HB3 := Lib.hid (more HB2.out (Nat.le_refl _) hb3)
    clear hb3
    obtain ⟨_, k10, k11, k12, k1f⟩ := X1_2_3.out
    go_wp2_with fail
    go_ret
    exact ⟨rfl, HB3.out⟩
  | true =>
    rw [hsm] at SM
    obtain ⟨h1, h2, h3, h4⟩ := sm_le hsm
    have NO := Lib.hid (fun W => norm_any n d r W (by omega) (by omega) (by omega))
    have eN : (mk (foldL n.data.toList)).size = n.size := by rw [mk_size, foldL_len, ← Lib.size_eq]
    have eD : (mk (Lib.trimSuffix (foldL d.data.toList) [46])).size ≤ d.size := by have := trimF_size d.data.toList; rw [← Lib.size_eq] at this; exact this
    generalize mk (foldL n.data.toList) = N at NO eN
    generalize mk (Lib.trimSuffix (foldL d.data.toList) [46]) = D at NO eD
    have q1 : decide ((d.size : Int) < (D.size : Int)) = false := by simp; omega
    have q2 : decide (d.size < D.size) = false := by simp; omega
    clear hsm
    cases hv : ok (jd N D r) with
    | false =>
      have CK := Lib.hid (fun W => check_no3 N D r W (by omega) (by omega) (by omega) hv)
      clear hv h1 h2 h3 h4 eD
      have X1 := Lib.hid (Bx.new w (.string n) (.string d) (.string r) 24)
      have HB1 := Lib.hid (HB0.out.alloc HB0.out.size (.cells #[.string n, .string d, .string r] 24))
      obtain ⟨_, k10, k11, k12, k1f⟩ := X1.out
      go_enter Tryd.func8, Tryd.ntmps8
      go_wp2_with fail
      refine (SM.out _).mono ?_
      rintro e w2 ⟨rfl, hb2⟩
      clear k10 k11 k12 k1f
      have X1_2 := Lib.hid (X1.out.below hb2)
      have HB2 := Lib.hid (more HB1.out (Nat.le_refl _) hb2)
      clear hb2
      obtain ⟨_, k10, k11, k12, k1f⟩ := X1_2.out
      go_wp2_with fail
      refine (NO.out _).mono ?_
      rintro e w3 ⟨rfl, hb3⟩
      clear k10 k11 k12 k1f
      have X1_2_3 := Lib.hid (X1_2.out.below hb3)
      have HB3 := Lib.hid (more HB2.out (Nat.le_refl _) hb3)
      clear hb3
      have X1_2_3_4 := Lib.hid (X1_2_3.out.alloc (.cells #[.string N, .string D, .string r] 24))
      have X4 := Lib.hid (Bx.new w3 (.string N) (.string D) (.string r) 24)
      have HB4 := Lib.hid (HB3.out.alloc HB3.out.size (.cells #[.string N, .string D, .string r] 24))
      obtain ⟨_, k10, k11, k12, k1f⟩ := X1_2_3_4.out
      obtain ⟨_, k40, k41, k42, k4f⟩ := X4.out
      go_wp2_with fail
      refine (CK.out _).mono ?_
      rintro e w5 ⟨rfl, hb5⟩
      clear k10 k11 k12 k1f k40 k41 k42 k4f
      have X1_2_3_4_5 := Lib.hid (X1_2_3_4.out.below hb5)
      have X4_5 := Lib.hid (X4.out.below hb5)
      have HB5 := Lib.hid (more HB4.out (Nat.le_refl _) hb5)
      clear hb5
      obtain ⟨_, k10, k11, k12, k1f⟩ := X1_2_3_4_5.out
      obtain ⟨_, k40, k41, k42, k4f⟩ := X4_5.out
      go_wp2_with fail
      refine (num_any _ _).mono ?_
      rintro e w9 ⟨rfl, hw⟩
      subst hw
      go_wp2_with fail
      refine (L.out _).mono ?_
      rintro e w6 ⟨rfl, hb6⟩
      clear k10 k11 k12 k1f k40 k41 k42 k4f
      have X1_2_3_4_5_6 := Lib.hid (X1_2_3_4_5.out.below hb6)
      have X4_5_6 := Lib.hid (X4_5.out.below hb6)
      have HB6 := Lib.hid (more HB5.out (Nat.le_refl _) hb6)
      clear hb6
      obtain ⟨_, k10, k11, k12, k1f⟩ := X1_2_3_4_5_6.out
      obtain ⟨_, k40, k41, k42, k4f⟩ := X4_5_6.out
      go_wp2_with fail
      go_ret
      exact ⟨rfl, HB6.out⟩
    | true =>
      have CK := Lib.hid (fun W => check_yes3 N D r W (by omega) (by omega) (by omega) hv)
      have PU := Lib.hid (fun W => put_any N D r W (by omega) (by omega) (by omega))
      have PA := Lib.hid (fun W => put_back N D r W (by omega) ((ok_iff _).1 hv))
      have NB := Lib.hid (fun W => norm_back N D r W (by omega) (by omega) (by omega) ((ok_iff _).1 hv))
      clear hv h1 h2 h3 h4 eD
      have X1 := Lib.hid (Bx.new w (.string n) (.string d) (.string r) 24)
      have HB1 := Lib.hid (HB0.out.alloc HB0.out.size (.cells #[.string n, .string d, .string r] 24))
      obtain ⟨_, k10, k11, k12, k1f⟩ := X1.out
      go_enter Tryd.func8, Tryd.ntmps8
      go_wp2_with fail
      refine (SM.out _).mono ?_
      rintro e w2 ⟨rfl, hb2⟩
      clear k10 k11 k12 k1f
      have X1_2 := Lib.hid (X1.out.below hb2)
      have HB2 := Lib.hid (more HB1.out (Nat.le_refl _) hb2)
      clear hb2
      obtain ⟨_, k10, k11, k12, k1f⟩ := X1_2.out
      go_wp2_with fail
      refine (NO.out _).mono ?_
      rintro e w3 ⟨rfl, hb3⟩
      clear k10 k11 k12 k1f
      have X1_2_3 := Lib.hid (X1_2.out.below hb3)
      have HB3 := Lib.hid (more HB2.out (Nat.le_refl _) hb3)
      clear hb3
      have X1_2_3_4 := Lib.hid (X1_2_3.out.alloc (.cells #[.string N, .string D, .string r] 24))
      have X4 := Lib.hid (Bx.new w3 (.string N) (.string D) (.string r) 24)
      have HB4 := Lib.hid (HB3.out.alloc HB3.out.size (.cells #[.string N, .string D, .string r] 24))
      obtain ⟨_, k10, k11, k12, k1f⟩ := X1_2_3_4.out
      obtain ⟨_, k40, k41, k42, k4f⟩ := X4.out
      go_wp2_with fail
      refine (CK.out _).mono ?_
      rintro e w5 ⟨rfl, hb5⟩
      clear k10 k11 k12 k1f k40 k41 k42 k4f
      have X1_2_3_4_5 := Lib.hid (X1_2_3_4.out.below hb5)
      have X4_5 := Lib.hid (X4.out.below hb5)
      have HB5 := Lib.hid (more HB4.out (Nat.le_refl _) hb5)
      clear hb5
      obtain ⟨_, k10, k11, k12, k1f⟩ := X1_2_3_4_5.out
      obtain ⟨_, k40, k41, k42, k4f⟩ := X4_5.out
      go_wp2_with fail
      refine (num_any _ _).mono ?_
      rintro e w9 ⟨rfl, hw⟩
      subst hw
      go_wp2_with fail
      refine (PU.out _).mono ?_
      rintro e w6 ⟨rfl, hb6⟩
      clear k10 k11 k12 k1f k40 k41 k42 k4f
      have X1_2_3_4_5_6 := Lib.hid (X1_2_3_4_5.out.below hb6)
      have X4_5_6 := Lib.hid (X4_5.out.below hb6)
      have HB6 := Lib.hid (more HB5.out (Nat.le_refl _) hb6)
      clear hb6
      obtain ⟨_, k10, k11, k12, k1f⟩ := X1_2_3_4_5_6.out
      obtain ⟨_, k40, k41, k42, k4f⟩ := X4_5_6.out
      go_wp2_with fail
      refine (PA.out _).mono ?_
      rintro e w7 ⟨rfl, hb7⟩
      clear k10 k11 k12 k1f k40 k41 k42 k4f
      have X1_2_3_4_5_6_7 := Lib.hid (X1_2_3_4_5_6.out.below hb7)
      have X4_5_6_7 := Lib.hid (X4_5_6.out.below hb7)
      have HB7 := Lib.hid (more HB6.out (Nat.le_refl _) hb7)
      clear hb7
      have X1_2_3_4_5_6_7_8 := Lib.hid (X1_2_3_4_5_6_7.out.alloc (.cells #[.string N, .string D, .string r] 24))
      have X4_5_6_7_8 := Lib.hid (X4_5_6_7.out.alloc (.cells #[.string N, .string D, .string r] 24))
      have X8 := Lib.hid (Bx.new w7 (.string N) (.string D) (.string r) 24)
      have HB8 := Lib.hid (HB7.out.alloc HB7.out.size (.cells #[.string N, .string D, .string r] 24))
      obtain ⟨_, k10, k11, k12, k1f⟩ := X1_2_3_4_5_6_7_8.out
      obtain ⟨_, k40, k41, k42, k4f⟩ := X4_5_6_7_8.out
      obtain ⟨_, k80, k81, k82, k8f⟩ := X8.out
      go_wp2_with fail
      have yk10 := fun (x : Ext _) => ext_cell x k10
      have yk11 := fun (x : Ext _) => ext_cell x k11
      have yk12 := fun (x : Ext _) => ext_cell x k12
      have yk40 := fun (x : Ext _) => ext_cell x k40
      have yk41 := fun (x : Ext _) => ext_cell x k41
      have yk42 := fun (x : Ext _) => ext_cell x k42
      have yk80 := fun (x : Ext _) => ext_cell x k80
      have yk81 := fun (x : Ext _) => ext_cell x k81
      have yk82 := fun (x : Ext _) => ext_cell x k82
      clear k10 k11 k12 k1f k40 k41 k42 k4f k80 k81 k82 k8f
      refine ext_region (by kernel_rfl) (by kernel_rfl) ?_
      repeat (go_big_quiet_step ((first | (go_at_call 18; exact ext_call _ (NB.out _)) | (go_at_call 12; exact ext_same _ (num_any _ _)) | (go_at_call 9; exact ext_call _ (L.out _)))))
      refine wpQuiet_nil ?_
      rintro _ ⟨x9, hx⟩
      subst hx
      clear yk10 yk11 yk12 yk40 yk41 yk42 yk80 yk81 yk82
      have X1_2_3_4_5_6_7_8_9 := Lib.hid (X1_2_3_4_5_6_7_8.out.below x9.below)
      have X4_5_6_7_8_9 := Lib.hid (X4_5_6_7_8.out.below x9.below)
      have X8_9 := Lib.hid (X8.out.below x9.below)
      have HB9 := Lib.hid (more HB8.out (Nat.le_refl _) x9.below)
      obtain ⟨_, k10, k11, k12, k1f⟩ := X1_2_3_4_5_6_7_8_9.out
      obtain ⟨_, k40, k41, k42, k4f⟩ := X4_5_6_7_8_9.out
      obtain ⟨_, k80, k81, k82, k8f⟩ := X8_9.out
      go_wp2_with fail
      go_ret
      exact ⟨rfl, HB9.out⟩
end Go.Proofs.YtddhbhdjjiibbaaDoor
