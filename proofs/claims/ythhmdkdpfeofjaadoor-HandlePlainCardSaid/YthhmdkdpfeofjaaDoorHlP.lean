/- The walk of the law HandlePlain: the plain form of a name that may be may be, is its own plain form, and has no blanks and no great letters. Condition: a string takes at most what a machine can hold. -/
import Derived.Test.YthhmdkdpfeofjaaDoorHlv
import Derived.Test.YthhmdkdpfeofjaaDoorJq
namespace Go.Proofs.YthhmdkdpfeofjaaDoor
open Go.RowKit Go.Lib Go.Shelf Sg Jd Hd

theorem nl_byte {l : List UInt8} {k : Nat} (h : k < (nl l).length) : nb (nl l) k ≠ 32 ∧ ¬ (65 ≤ nb (nl l) k ∧ nb (nl l) k ≤ 90) := by
  have hm : (nl l)[k] ∈ nl l := List.getElem_mem h
  obtain ⟨h1, h2⟩ := nl_mem hm
  have hn := nb_lt (nl l) k
  rw [at_nb h] at h1 h2
  constructor
  · intro e
    rw [e] at h1
    revert h1; decide
  · have := low_small h2
    rwa [u_nat hn] at this
set_option maxRecDepth 100000 in
set_option maxHeartbeats 8000000 in
theorem hplain_walk (s : ByteArray) (w : World) (_ws : s.size ≤ maxLen) :
    Calls Tryd.prog 6 #[.string s] w fun e w' => e = .returned (.bool true) ∧ Below w.heap.size w w' := by
  have HB0 : Hid (Below w.heap.size w w) := Below.refl _ _
  have L := Lib.hid (fun W => hlive_any W)
  by_cases hbig : 3000 < s.size
  · have f : decide ((3000 : Int) < (s.size : Int)) = true := by simp; omega
    clear hbig
    go_enter Tryd.func6, Tryd.ntmps6
    go_wp2_with fail
    refine (L.out _).mono ?_
    rintro e w1 ⟨rfl, hb1⟩
    have HB1 := Lib.hid (more4 HB0.out (Nat.le_refl _) hb1)
    clear hb1
    go_wp2_with fail
    go_ret
    exact ⟨rfl, HB1.out⟩
  have f : decide ((3000 : Int) < (s.size : Int)) = false := by simp; omega
  have hM : (mk (nl s.data.toList)).size ≤ 3000 := by rw [mk_size]; have := nl_le s.data.toList; rw [← Lib.size_eq] at this; omega
  have CK := Lib.hid (fun W => hcheck_any s W (by omega))
  have NO := Lib.hid (fun W => hnorm_any s W (by omega))
  have N2 := Lib.hid (fun W => hnorm_any (mk (nl s.data.toList)) W (by omega))
  have SA := Lib.hid (fun W => same_any s (mk (nl s.data.toList)) W (by omega) (by omega))
  have CM := Lib.hid (fun W => hcheck_any (mk (nl s.data.toList)) W (by omega))
  rw [mk_list, nl_nl] at N2
  rw [mk_list, nl_nl, show decide (nl s.data.toList = nl s.data.toList) = true from decide_eq_true rfl] at SA
  rw [mk_list] at CM
  have HN : Hid (nm s.data.toList = true → nm (nl s.data.toList) = true) := nm_nl
  have HY : Hid (∀ k, k < (mk (nl s.data.toList)).size → nb (mk (nl s.data.toList)).data.toList k ≠ 32 ∧ ¬ (65 ≤ nb (mk (nl s.data.toList)).data.toList k ∧ nb (mk (nl s.data.toList)).data.toList k ≤ 90)) := fun k hk => by
    rw [mk_size] at hk
    rw [mk_list]
    exact nl_byte hk
  clear hbig
  generalize mk (nl s.data.toList) = M at NO N2 SA CM HY hM
  have hMM : (M.toList == M.toList) = true := by simp
  generalize nm (nl s.data.toList) = c at CM HN
  generalize nm s.data.toList = b at CK HN
  go_enter Tryd.func6, Tryd.ntmps6
  go_wp2_with fail
  refine (NO.out _).mono ?_
  rintro e w1 ⟨rfl, hb1⟩
  have HB1 := Lib.hid (more4 HB0.out (Nat.le_refl _) hb1)
  clear hb1
  go_wp2_with fail
  go_loopw [4] (fun i wr => ∃ k : Nat, i = .int .i64 k ∧ k ≤ M.size ∧ Hid (Below w.heap.size w wr)) (fun i _ => M.size - (RowKit.intOf i).toNat)
  case atStart => exact ⟨0, rfl, by omega, HB1.out⟩
  case round =>
    obtain ⟨k, rfl, hk, HBW⟩ := hrel
    by_cases hlt : k < M.size
    · have hbk := By.byte_nb M k hlt
      change (M[k]'hlt).toNat = nb M.data.toList k at hbk
      have hn := nb_lt M.data.toList k
      obtain ⟨hy1, hy2⟩ := HY.out k hlt
      generalize nb M.data.toList k = x at hbk hn hy1 hy2
      have f32 : ((x : Int) == 32) = false := by rw [beq_eq_false_iff_ne]; omega
      by_cases h65 : 65 ≤ x
      · have h90 : ¬ x ≤ 90 := fun e => hy2 ⟨h65, e⟩
        have g1 : decide ((65 : Int) ≤ (x : Int)) = true := by simp; omega
        have g2 : decide ((x : Int) ≤ 90) = false := by simp; omega
        clear hy1 hy2
        go_wp2_with fail
        exact ⟨⟨k + 1, by go_num, by omega, HBW.out⟩, by simp [RowKit.intOf]; omega⟩
      · have g1 : decide ((65 : Int) ≤ (x : Int)) = false := by simp; omega
        clear hy1 hy2
        go_wp2_with fail
        exact ⟨⟨k + 1, by go_num, by omega, HBW.out⟩, by simp [RowKit.intOf]; omega⟩
    · cases b
      · clear HY
        go_wp2_with fail
        refine (N2.out _).mono ?_
        rintro e w21 ⟨rfl, hb21⟩
        have HB21 := Lib.hid (more4 HBW.out (Nat.le_refl _) hb21)
        clear hb21
        go_wp2_with fail
        refine (SA.out _).mono ?_
        rintro e w22 ⟨rfl, hb22⟩
        have HB22 := Lib.hid (more4 HB21.out (Nat.le_refl _) hb22)
        clear hb22
        go_wp2_with fail
        refine (CK.out _).mono ?_
        rintro e w23 ⟨rfl, hb23⟩
        have HB23 := Lib.hid (more4 HB22.out (Nat.le_refl _) hb23)
        clear hb23
        go_wp2_with fail
        refine (num_any _ _).mono ?_
        rintro e w9 ⟨rfl, hw⟩
        subst hw
        go_wp2_with fail
        refine (L.out _).mono ?_
        rintro e w24 ⟨rfl, hb24⟩
        have HB24 := Lib.hid (more4 HB23.out (Nat.le_refl _) hb24)
        clear hb24
        go_wp2_with fail
        go_ret
        exact ⟨rfl, HB24.out⟩
      · obtain rfl : c = true := HN.out rfl
        clear HY
        go_wp2_with fail
        refine (N2.out _).mono ?_
        rintro e w21 ⟨rfl, hb21⟩
        have HB21 := Lib.hid (more4 HBW.out (Nat.le_refl _) hb21)
        clear hb21
        go_wp2_with fail
        refine (SA.out _).mono ?_
        rintro e w22 ⟨rfl, hb22⟩
        have HB22 := Lib.hid (more4 HB21.out (Nat.le_refl _) hb22)
        clear hb22
        go_wp2_with fail
        refine (CK.out _).mono ?_
        rintro e w23 ⟨rfl, hb23⟩
        have HB23 := Lib.hid (more4 HB22.out (Nat.le_refl _) hb23)
        clear hb23
        go_wp2_with fail
        refine (num_any _ _).mono ?_
        rintro e w9 ⟨rfl, hw⟩
        subst hw
        go_wp2_with fail
        refine (CM.out _).mono ?_
        rintro e w24 ⟨rfl, hb24⟩
        have HB24 := Lib.hid (more4 HB23.out (Nat.le_refl _) hb24)
        clear hb24
        go_wp2_with fail
        refine (num_any _ _).mono ?_
        rintro e w9 ⟨rfl, hw⟩
        subst hw
        go_wp2_with fail
        refine (L.out _).mono ?_
        rintro e w25 ⟨rfl, hb25⟩
        have HB25 := Lib.hid (more4 HB24.out (Nat.le_refl _) hb25)
        clear hb25
        go_wp2_with fail
        go_ret
        exact ⟨rfl, HB25.out⟩
end Go.Proofs.YthhmdkdpfeofjaaDoor
