/- The document's own Norm, Bare and Put for layer 3. Condition: each text has at most 1048576 bytes. -/
import Derived.Test.YtddhbhdjjiibbaaDoorJbx
import Derived.Test.YtddhbhdjjiibbaaDoorJpu
import Derived.Test.YtddhbhdjjiibbaaDoorJr1
namespace Go.Proofs.YtddhbhdjjiibbaaDoor
open Go.RowKit Go.Lib Go.Shelf Sg Jd

theorem trim_at {l : List UInt8} {m : Nat} (hl : l.length = m + 1) : Lib.trimSuffix l [46] = if nb l m = 46 then l.take m else l := by
  rw [trim_dot]
  have hne : l ≠ [] := fun e => by rw [e] at hl; simp at hl
  have e1 : l.getLast? = some (u (nb l m)) := by
    rw [List.getLast?_eq_getElem?, show l.length - 1 = m by omega, List.getElem?_eq_getElem (by omega), nb_at (by omega)]
  by_cases h : nb l m = 46
  · rw [if_pos h, e1, h, if_pos (by decide), List.dropLast_eq_take, show l.length - 1 = m by omega]
  · rw [if_neg h, e1, if_neg]
    intro e
    simp only [Option.some.injEq] at e
    have := congrArg UInt8.toNat e
    rw [u_nat (nb_lt l m)] at this
    exact h this
set_option maxRecDepth 100000 in
set_option maxHeartbeats 4000000 in
theorem rNorm_any (n d r : ByteArray) (w : World) (h1 : n.size ≤ 1048576) (h2 : d.size ≤ 1048576) :
    Calls Tryd.prog 19 #[.agg #[.string n, .string d, .string r]] w fun e w' => e = .returned (.agg #[.string (mk (foldL n.data.toList)), .string (mk (Lib.trimSuffix (foldL d.data.toList) [46])), .string r]) ∧ Below w.heap.size w w' := by
  have C1 : Hid (∀ W, Calls Tryd.prog 23 #[.string n] W fun e w' => e = .returned (.string (mk (foldL n.data.toList))) ∧ Below W.heap.size W w') := fun W => rFold_any n W (by omega)
  have C2 : Hid (∀ W, Calls Tryd.prog 23 #[.string d] W fun e w' => e = .returned (.string (mk (foldL d.data.toList))) ∧ Below W.heap.size W w') := fun W => rFold_any d W (by omega)
  have HD : Hid ((mk (foldL d.data.toList)).data.toList = foldL d.data.toList) := mk_list _
  have hds : (mk (foldL d.data.toList)).size ≤ 1048576 := by rw [mk_size, foldL_len, ← Lib.size_eq]; exact h2
  generalize mk (foldL n.data.toList) = N at C1 ⊢
  obtain ⟨L, hL⟩ : ∃ L, foldL d.data.toList = L := ⟨_, rfl⟩
  rw [hL] at C2 HD hds ⊢
  have HT : Hid ((mk L).data.toList = L) := HD.out
  generalize mk L = D0 at C2 hds HT
  have e0 : L = D0.data.toList := HT.out.symm
  subst e0
  clear h1 h2 hL HD HT
  have A1 : Hid (Bx w.heap.size (.string n) (.string d) (.string r) ((w.alloc (.cells #[.string n, .string d, .string r] 24)).alloc (.cells #[.string ⟨#[]⟩, .string ⟨#[]⟩, .string ⟨#[]⟩] 24))) := (Bx.new w _ _ _ _).alloc _
  have A2 : Hid (Bx (w.heap.size + 1) (.string ⟨#[]⟩) (.string ⟨#[]⟩) (.string ⟨#[]⟩) ((w.alloc (.cells #[.string n, .string d, .string r] 24)).alloc (.cells #[.string ⟨#[]⟩, .string ⟨#[]⟩, .string ⟨#[]⟩] 24))) := by
    have := Bx.new (w.alloc (.cells #[.string n, .string d, .string r] 24)) (.string ⟨#[]⟩) (.string ⟨#[]⟩) (.string ⟨#[]⟩) 24
    rwa [World.size_alloc] at this
  have B0 : Hid (Below w.heap.size w ((w.alloc (.cells #[.string n, .string d, .string r] 24)).alloc (.cells #[.string ⟨#[]⟩, .string ⟨#[]⟩, .string ⟨#[]⟩] 24))) := ((Below.refl _ _).alloc (Nat.le_refl _) _).alloc (by simp) _
  by_cases h0 : D0.size = 0
  · have hD : D0 = ⟨#[]⟩ := empty_list (List.length_eq_zero_iff.1 (by rw [← Lib.size_eq]; exact h0))
    subst hD
    have hT : mk (Lib.trimSuffix (⟨#[]⟩ : ByteArray).data.toList [46]) = ⟨#[]⟩ := rfl
    rw [hT]
    clear h0 hT hds
    go_enter Tryd.func19, Tryd.ntmps19
    go_wp2_with fail
    refine (C1.out _).mono ?_
    rintro e w1 ⟨rfl, hb1⟩
    have A3 := Lib.hid (A1.out.below hb1)
    have A4 := Lib.hid (A2.out.below hb1)
    have B1 := Lib.hid (B0.out.trans (hb1.mono B0.out.size))
    clear hb1 A1 A2
    obtain ⟨_, c0, c1, c2, cf⟩ := A3.out
    go_wp2_with fail
    refine (C2.out _).mono ?_
    rintro e w2 ⟨rfl, hb2⟩
    have A5 := Lib.hid ((A3.out.set0 (.string N)).below hb2)
    have A6 := Lib.hid ((A4.out.other (C := w.heap.size) (i := 0) (v := .string N) (by omega)).below hb2)
    have B2 := Lib.hid ((B1.out.setCell (p := ⟨w.heap.size, 0, none⟩) (Nat.le_refl _) (.string N)).trans (hb2.mono (by simpa [World.setCell] using B1.out.size)))
    clear hb2 A3 A4 c0 c1 c2 cf
    have A7 := Lib.hid (A5.out.set1 (.string ⟨#[]⟩))
    have A8 := Lib.hid (A6.out.other (C := w.heap.size) (i := 1) (v := .string ⟨#[]⟩) (by omega))
    have B3 := Lib.hid (B2.out.setCell (p := ⟨w.heap.size, 1, none⟩) (Nat.le_refl _) (.string ⟨#[]⟩))
    obtain ⟨_, c0, c1, c2, cf⟩ := A5.out
    obtain ⟨_, e0, e1, e2, ef⟩ := A8.out
    obtain ⟨_, g0, g1, g2, gf⟩ := A7.out
    go_wp2_with fail
    refine bodyPost_ret (v := .agg #[.string N, .string ⟨#[]⟩, .string r]) (by simp [results, Tryd.results19, go_sem, e0, e1, e2]) rfl ⟨rfl, ?_⟩
    exact below_all B3.out (by simp) _ _ _
  · obtain ⟨m, hm⟩ : ∃ m, D0.size = m + 1 := ⟨D0.size - 1, by omega⟩
    have hms : m < D0.size := by omega
    have hTr := trim_at (l := D0.data.toList) (m := m) (by rw [← Lib.size_eq]; exact hm)
    have hb := byte_nb D0 m hms
    have hy := nb_lt D0.data.toList m
    have q1 : decide ((0 : Int) < D0.size) = true := by simp; omega
    have q2 : (D0.size : Int) - 1 = (m : Int) := by omega
    have q3 : (m : Int) < D0.size := by omega
    have q4 : (m : Int) ≤ D0.size := by omega
    by_cases h46 : nb D0.data.toList m = 46
    · have hT : mk (Lib.trimSuffix D0.data.toList [46]) = D0.extract 0 m := by rw [hTr, if_pos h46, ← ext_take]
      rw [hT]
      rw [h46] at hb
      clear hTr hT h46 hy h0 hm
      go_enter Tryd.func19, Tryd.ntmps19
      go_wp2_with fail
      refine (C1.out _).mono ?_
      rintro e w1 ⟨rfl, hb1⟩
      have A3 := Lib.hid (A1.out.below hb1)
      have A4 := Lib.hid (A2.out.below hb1)
      have B1 := Lib.hid (B0.out.trans (hb1.mono B0.out.size))
      clear hb1 A1 A2
      obtain ⟨_, c0, c1, c2, cf⟩ := A3.out
      go_wp2_with fail
      refine (C2.out _).mono ?_
      rintro e w2 ⟨rfl, hb2⟩
      have A5 := Lib.hid ((A3.out.set0 (.string N)).below hb2)
      have A6 := Lib.hid ((A4.out.other (C := w.heap.size) (i := 0) (v := .string N) (by omega)).below hb2)
      have B2 := Lib.hid ((B1.out.setCell (p := ⟨w.heap.size, 0, none⟩) (Nat.le_refl _) (.string N)).trans (hb2.mono (by simpa [World.setCell] using B1.out.size)))
      clear hb2 A3 A4 c0 c1 c2 cf
      have A7 := Lib.hid (A5.out.set1 (.string D0))
      have A8 := Lib.hid (A6.out.other (C := w.heap.size) (i := 1) (v := .string D0) (by omega))
      have B3 := Lib.hid (B2.out.setCell (p := ⟨w.heap.size, 1, none⟩) (Nat.le_refl _) (.string D0))
      obtain ⟨_, c0, c1, c2, cf⟩ := A5.out
      obtain ⟨_, e0, e1, e2, ef⟩ := A8.out
      obtain ⟨_, g0, g1, g2, gf⟩ := A7.out
      have A9 := Lib.hid (A7.out.set1 (.string (D0.extract 0 m)))
      have A10 := Lib.hid (A8.out.other (C := w.heap.size) (i := 1) (v := .string (D0.extract 0 m)) (by omega))
      have B4 := Lib.hid (B3.out.setCell (p := ⟨w.heap.size, 1, none⟩) (Nat.le_refl _) (.string (D0.extract 0 m)))
      obtain ⟨_, i0, i1, i2, jf⟩ := A9.out
      obtain ⟨_, j0, j1, j2, jf⟩ := A10.out
      go_wp2_with fail
      refine bodyPost_ret (v := .agg #[.string N, .string (D0.extract 0 m), .string r]) (by simp [results, Tryd.results19, go_sem, j0, j1, j2]) rfl ⟨rfl, ?_⟩
      exact below_all B4.out (by simp) _ _ _
    · have hT : mk (Lib.trimSuffix D0.data.toList [46]) = D0 := by rw [hTr, if_neg h46, mk_of]
      rw [hT]
      generalize nb D0.data.toList m = y at hb hy h46
      have q5 : ((y : Int) == 46) = false := by rw [beq_eq_false_iff_ne]; omega
      clear hTr hT h46 hy h0 hm
      go_enter Tryd.func19, Tryd.ntmps19
      go_wp2_with fail
      refine (C1.out _).mono ?_
      rintro e w1 ⟨rfl, hb1⟩
      have A3 := Lib.hid (A1.out.below hb1)
      have A4 := Lib.hid (A2.out.below hb1)
      have B1 := Lib.hid (B0.out.trans (hb1.mono B0.out.size))
      clear hb1 A1 A2
      obtain ⟨_, c0, c1, c2, cf⟩ := A3.out
      go_wp2_with fail
      refine (C2.out _).mono ?_
      rintro e w2 ⟨rfl, hb2⟩
      have A5 := Lib.hid ((A3.out.set0 (.string N)).below hb2)
      have A6 := Lib.hid ((A4.out.other (C := w.heap.size) (i := 0) (v := .string N) (by omega)).below hb2)
      have B2 := Lib.hid ((B1.out.setCell (p := ⟨w.heap.size, 0, none⟩) (Nat.le_refl _) (.string N)).trans (hb2.mono (by simpa [World.setCell] using B1.out.size)))
      clear hb2 A3 A4 c0 c1 c2 cf
      have A7 := Lib.hid (A5.out.set1 (.string D0))
      have A8 := Lib.hid (A6.out.other (C := w.heap.size) (i := 1) (v := .string D0) (by omega))
      have B3 := Lib.hid (B2.out.setCell (p := ⟨w.heap.size, 1, none⟩) (Nat.le_refl _) (.string D0))
      obtain ⟨_, c0, c1, c2, cf⟩ := A5.out
      obtain ⟨_, e0, e1, e2, ef⟩ := A8.out
      obtain ⟨_, g0, g1, g2, gf⟩ := A7.out
      go_wp2_with fail
      refine bodyPost_ret (v := .agg #[.string N, .string D0, .string r]) (by simp [results, Tryd.results19, go_sem, e0, e1, e2]) rfl ⟨rfl, ?_⟩
      exact below_all B3.out (by simp) _ _ _
end Go.Proofs.YtddhbhdjjiibbaaDoor
