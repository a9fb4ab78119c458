/- Contracts of the document's own ToJid and FromJid for layer 4. Condition: each text has at most 300000 bytes. -/
import Derived.Test.YthhmdkdpfeofjaaGreatDoorHfj
import Derived.Test.YthhmdkdpfeofjaaGreatDoorHri
import Derived.Test.YthhmdkdpfeofjaaGreatDoorJr2
import Derived.Test.YthhmdkdpfeofjaaGreatDoorRun
namespace Go.Proofs.YthhmdkdpfeofjaaGreatDoor
open Go.RowKit Go.Lib Go.Shelf Sg Jd Hd

set_option maxRecDepth 100000 in
set_option maxHeartbeats 8000000 in
theorem rToJid_not (s d : ByteArray) (w : World)
    (IS : Hid (∀ W, Calls Tryz.prog 16 #[.string s] W fun e w' => e = .returned (.bool false) ∧ Below W.heap.size W w')) :
    Calls Tryz.prog 6 #[.string s, .string d] w fun e w' => e = .returned (.tuple #[.agg #[.string ⟨#[]⟩, .string ⟨#[]⟩, .string ⟨#[]⟩], .int .i64 40]) ∧ Below w.heap.size w w' := by
  have X0 : Hid (Bx w.heap.size (.string ⟨#[]⟩) (.string ⟨#[]⟩) (.string ⟨#[]⟩) (w.alloc (.cells #[.string ⟨#[]⟩, .string ⟨#[]⟩, .string ⟨#[]⟩] 23))) := Bx.new w _ _ _ _
  have HB0 : Hid (Below w.heap.size w (w.alloc (.cells #[.string ⟨#[]⟩, .string ⟨#[]⟩, .string ⟨#[]⟩] 23))) := (Below.refl _ _).alloc (Nat.le_refl _) _
  go_enter Tryz.func6, Tryz.ntmps6
  go_wp2_with fail
  refine (IS.out _).mono ?_
  rintro e w1 ⟨rfl, hb1⟩
  have X0_1 := Lib.hid (X0.out.below hb1)
  have HB1 := Lib.hid (more4 HB0.out (Nat.le_refl _) hb1)
  clear hb1
  obtain ⟨_, k0_0, k0_1, k0_2, kf0⟩ := X0_1.out
  go_wp2_with fail
  refine bodyPost_ret (v := .tuple #[.agg #[.string ⟨#[]⟩, .string ⟨#[]⟩, .string ⟨#[]⟩], .int .i64 40]) (by simp [results, Tryz.results6, go_sem, k0_0, k0_1, k0_2]) rfl ⟨rfl, ?_⟩
  exact ((HB1.out.setCell (Nat.le_refl _) _).setCell (Nat.le_refl _) _).setCell (Nat.le_refl _) _
set_option maxRecDepth 100000 in
set_option maxHeartbeats 8000000 in
theorem rToJid_bad (s d M N : ByteArray) (w : World)
    (IS : Hid (∀ W, Calls Tryz.prog 16 #[.string s] W fun e w' => e = .returned (.bool true) ∧ Below W.heap.size W w'))
    (NO : Hid (∀ W, Calls Tryz.prog 18 #[.string s] W fun e w' => e = .returned (.string M) ∧ Below W.heap.size W w'))
    (ES : Hid (∀ W, Calls Tryz.prog 17 #[.string M] W fun e w' => e = .returned (.tuple #[.string N, .int .i64 0]) ∧ Below W.heap.size W w'))
    (JI : Hid (∀ W, Calls Tryz.prog 19 #[.agg #[.string N, .string d, .string ⟨#[]⟩]] W fun e w' => e = .returned (.bool false) ∧ Below W.heap.size W w')) :
    Calls Tryz.prog 6 #[.string s, .string d] w fun e w' => e = .returned (.tuple #[.agg #[.string ⟨#[]⟩, .string ⟨#[]⟩, .string ⟨#[]⟩], .int .i64 40]) ∧ Below w.heap.size w w' := by
  have X0 : Hid (Bx w.heap.size (.string ⟨#[]⟩) (.string ⟨#[]⟩) (.string ⟨#[]⟩) (w.alloc (.cells #[.string ⟨#[]⟩, .string ⟨#[]⟩, .string ⟨#[]⟩] 23))) := Bx.new w _ _ _ _
  have HB0 : Hid (Below w.heap.size w (w.alloc (.cells #[.string ⟨#[]⟩, .string ⟨#[]⟩, .string ⟨#[]⟩] 23))) := (Below.refl _ _).alloc (Nat.le_refl _) _
  go_enter Tryz.func6, Tryz.ntmps6
  go_wp2_with fail
  refine (IS.out _).mono ?_
  rintro e w1 ⟨rfl, hb1⟩
  have X0_1 := Lib.hid (X0.out.below hb1)
  have HB1 := Lib.hid (more4 HB0.out (Nat.le_refl _) hb1)
  clear hb1
  obtain ⟨_, k0_0, k0_1, k0_2, kf0⟩ := X0_1.out
  go_wp2_with fail
  refine (NO.out _).mono ?_
  rintro e w2 ⟨rfl, hb2⟩
  clear k0_0 k0_1 k0_2 kf0
  have X0_2 := Lib.hid (X0_1.out.below hb2)
  have HB2 := Lib.hid (more4 HB1.out (Nat.le_refl _) hb2)
  clear hb2
  obtain ⟨_, k0_0, k0_1, k0_2, kf0⟩ := X0_2.out
  go_wp2_with fail
  refine (ES.out _).mono ?_
  rintro e w3 ⟨rfl, hb3⟩
  clear k0_0 k0_1 k0_2 kf0
  have X0_3 := Lib.hid (X0_2.out.below hb3)
  have HB3 := Lib.hid (more4 HB2.out (Nat.le_refl _) hb3)
  clear hb3
  have Y0_4 := Lib.hid (X0_3.out.alloc (.cells #[.string N, .string d, .string ⟨#[]⟩] 23))
  have Z4 := Lib.hid (Bx.new w3 (.string N) (.string d) (.string ⟨#[]⟩) 23)
  have HB4 := Lib.hid (HB3.out.alloc HB3.out.size (.cells #[.string N, .string d, .string ⟨#[]⟩] 23))
  obtain ⟨_, k0_0, k0_1, k0_2, kf0⟩ := Y0_4.out
  obtain ⟨_, k1_0, k1_1, k1_2, kf1⟩ := Z4.out
  go_wp2_with fail
  refine (JI.out _).mono ?_
  rintro e w5 ⟨rfl, hb5⟩
  clear k0_0 k0_1 k0_2 kf0 k1_0 k1_1 k1_2 kf1
  have X0_5 := Lib.hid (Y0_4.out.below hb5)
  have X1_5 := Lib.hid (Z4.out.below hb5)
  have HB5 := Lib.hid (more4 HB4.out (Nat.le_refl _) hb5)
  clear hb5
  obtain ⟨_, k0_0, k0_1, k0_2, kf0⟩ := X0_5.out
  obtain ⟨_, k1_0, k1_1, k1_2, kf1⟩ := X1_5.out
  go_wp2_with fail
  refine bodyPost_ret (v := .tuple #[.agg #[.string ⟨#[]⟩, .string ⟨#[]⟩, .string ⟨#[]⟩], .int .i64 40]) (by simp [results, Tryz.results6, go_sem, k0_0, k0_1, k0_2]) rfl ⟨rfl, ?_⟩
  exact ((HB5.out.setCell (Nat.le_refl _) _).setCell (Nat.le_refl _) _).setCell (Nat.le_refl _) _
set_option maxRecDepth 100000 in
set_option maxHeartbeats 8000000 in
theorem rToJid_good (s d M N : ByteArray) (w : World)
    (IS : Hid (∀ W, Calls Tryz.prog 16 #[.string s] W fun e w' => e = .returned (.bool true) ∧ Below W.heap.size W w'))
    (NO : Hid (∀ W, Calls Tryz.prog 18 #[.string s] W fun e w' => e = .returned (.string M) ∧ Below W.heap.size W w'))
    (ES : Hid (∀ W, Calls Tryz.prog 17 #[.string M] W fun e w' => e = .returned (.tuple #[.string N, .int .i64 0]) ∧ Below W.heap.size W w'))
    (JI : Hid (∀ W, Calls Tryz.prog 19 #[.agg #[.string N, .string d, .string ⟨#[]⟩]] W fun e w' => e = .returned (.bool true) ∧ Below W.heap.size W w')) :
    Calls Tryz.prog 6 #[.string s, .string d] w fun e w' => e = .returned (.tuple #[.agg #[.string N, .string d, .string ⟨#[]⟩], .int .i64 0]) ∧ Below w.heap.size w w' := by
  have X0 : Hid (Bx w.heap.size (.string ⟨#[]⟩) (.string ⟨#[]⟩) (.string ⟨#[]⟩) (w.alloc (.cells #[.string ⟨#[]⟩, .string ⟨#[]⟩, .string ⟨#[]⟩] 23))) := Bx.new w _ _ _ _
  have HB0 : Hid (Below w.heap.size w (w.alloc (.cells #[.string ⟨#[]⟩, .string ⟨#[]⟩, .string ⟨#[]⟩] 23))) := (Below.refl _ _).alloc (Nat.le_refl _) _
  go_enter Tryz.func6, Tryz.ntmps6
  go_wp2_with fail
  refine (IS.out _).mono ?_
  rintro e w1 ⟨rfl, hb1⟩
  have X0_1 := Lib.hid (X0.out.below hb1)
  have HB1 := Lib.hid (more4 HB0.out (Nat.le_refl _) hb1)
  clear hb1
  obtain ⟨_, k0_0, k0_1, k0_2, kf0⟩ := X0_1.out
  go_wp2_with fail
  refine (NO.out _).mono ?_
  rintro e w2 ⟨rfl, hb2⟩
  clear k0_0 k0_1 k0_2 kf0
  have X0_2 := Lib.hid (X0_1.out.below hb2)
  have HB2 := Lib.hid (more4 HB1.out (Nat.le_refl _) hb2)
  clear hb2
  obtain ⟨_, k0_0, k0_1, k0_2, kf0⟩ := X0_2.out
  go_wp2_with fail
  refine (ES.out _).mono ?_
  rintro e w3 ⟨rfl, hb3⟩
  clear k0_0 k0_1 k0_2 kf0
  have X0_3 := Lib.hid (X0_2.out.below hb3)
  have HB3 := Lib.hid (more4 HB2.out (Nat.le_refl _) hb3)
  clear hb3
  have Y0_4 := Lib.hid (X0_3.out.alloc (.cells #[.string N, .string d, .string ⟨#[]⟩] 23))
  have Z4 := Lib.hid (Bx.new w3 (.string N) (.string d) (.string ⟨#[]⟩) 23)
  have HB4 := Lib.hid (HB3.out.alloc HB3.out.size (.cells #[.string N, .string d, .string ⟨#[]⟩] 23))
  obtain ⟨_, k0_0, k0_1, k0_2, kf0⟩ := Y0_4.out
  obtain ⟨_, k1_0, k1_1, k1_2, kf1⟩ := Z4.out
  go_wp2_with fail
  refine (JI.out _).mono ?_
  rintro e w5 ⟨rfl, hb5⟩
  clear k0_0 k0_1 k0_2 kf0 k1_0 k1_1 k1_2 kf1
  have X0_5 := Lib.hid (Y0_4.out.below hb5)
  have X1_5 := Lib.hid (Z4.out.below hb5)
  have HB5 := Lib.hid (more4 HB4.out (Nat.le_refl _) hb5)
  clear hb5
  obtain ⟨_, k0_0, k0_1, k0_2, kf0⟩ := X0_5.out
  obtain ⟨_, k1_0, k1_1, k1_2, kf1⟩ := X1_5.out
  go_wp2_with fail
  refine bodyPost_ret (v := .tuple #[.agg #[.string N, .string d, .string ⟨#[]⟩], .int .i64 0]) (by simp [results, Tryz.results6, go_sem, k0_0, k0_1, k0_2]) rfl ⟨rfl, ?_⟩
  exact ((HB5.out.setCell (Nat.le_refl _) _).setCell (Nat.le_refl _) _).setCell (Nat.le_refl _) _
theorem rToJid_any (s d : ByteArray) (w : World) (hs : s.size ≤ 300000) (hd : d.size ≤ 1048576) :
    Calls Tryz.prog 6 #[.string s, .string d] w fun e w' => e = .returned (tjj (toj s.data.toList d.data.toList)) ∧ Below w.heap.size w w' := by
  have IS := Lib.hid (fun W => rhIs_any s W (by omega))
  cases hn : nm s.data.toList with
  | false =>
    rw [hn] at IS
    have et : toj s.data.toList d.data.toList = none := by unfold toj; rw [hn]; rfl
    rw [et]
    exact rToJid_not s d w IS
  | true =>
    rw [hn] at IS
    have hM : (mk (nl s.data.toList)).size ≤ 300000 := by rw [mk_size]; have := nl_le s.data.toList; rw [← Lib.size_eq] at this; omega
    have NO := Lib.hid (fun W => rhNorm_any s W (by omega))
    have hE : (mk (Esc.E (nl s.data.toList))).size ≤ 1048576 := by rw [mk_size]; have := E_small (s := s.data.toList); rw [← Lib.size_eq] at this; omega
    have ES : Hid (∀ W, Calls Tryz.prog 17 #[.string (mk (nl s.data.toList))] W fun e w' => e = .returned (.tuple #[.string (mk (Esc.E (nl s.data.toList))), .int .i64 0]) ∧ Below W.heap.size W w') := fun W => by
      have := rEscape_good (mk (nl s.data.toList)) W (by omega) (by rw [mk_list]; exact nm_good hn)
      rw [mk_list] at this
      exact this
    have JI := Lib.hid (fun W => rIs_any3 (mk (Esc.E (nl s.data.toList))) d ⟨#[]⟩ W hE hd (by decide))
    rw [← okB, mk_list] at JI
    cases hk : ok ⟨Esc.E (nl s.data.toList), d.data.toList, []⟩ with
    | false =>
      rw [hk] at JI
      have et : toj s.data.toList d.data.toList = none := by unfold toj; rw [hk, if_neg (fun e => by cases e.2)]
      rw [et]
      exact rToJid_bad s d _ _ w IS NO ES JI
    | true =>
      rw [hk] at JI
      have et : toj s.data.toList d.data.toList = some ⟨Esc.E (nl s.data.toList), d.data.toList, []⟩ := by unfold toj; rw [hn, hk, if_pos ⟨rfl, rfl⟩]
      have e : tjj (some ⟨Esc.E (nl s.data.toList), d.data.toList, []⟩) = .tuple #[.agg #[.string (mk (Esc.E (nl s.data.toList))), .string d, .string ⟨#[]⟩], .int .i64 0] := by
        unfold tjj
        simp only [mk_of]
        rfl
      rw [et, e]
      exact rToJid_good s d _ _ w IS NO ES JI
set_option maxRecDepth 100000 in
set_option maxHeartbeats 8000000 in
theorem rFromJid_go (n d r dom x M : ByteArray) (w : World) (nv : Bool)
    (UN : Hid (∀ W, Calls Tryz.prog 21 #[.string n] W fun e w' => e = .returned (.string x) ∧ Below W.heap.size W w'))
    (IS : Hid (∀ W, Calls Tryz.prog 16 #[.string x] W fun e w' => e = .returned (.bool nv) ∧ Below W.heap.size W w'))
    (NO : Hid (∀ W, Calls Tryz.prog 18 #[.string x] W fun e w' => e = .returned (.string M) ∧ Below W.heap.size W w')) :
    Calls Tryz.prog 8 #[.agg #[.string n, .string d, .string r], .string dom] w fun e w' => e = .returned (fjv (decide (d = dom) && nv && decide (x = M)) x) ∧ Below w.heap.size w w' := by
  have X0 : Hid (Bx w.heap.size (.string n) (.string d) (.string r) (w.alloc (.cells #[.string n, .string d, .string r] 23))) := Bx.new w _ _ _ _
  have HB0 : Hid (Below w.heap.size w (w.alloc (.cells #[.string n, .string d, .string r] 23))) := (Below.refl _ _).alloc (Nat.le_refl _) _
  by_cases hd : ¬ d.toList = dom.toList
  · have hne : ¬ d = dom := fun e => hd (by rw [e])
    rw [show decide (d = dom) = false from decide_eq_false hne, Bool.false_and, Bool.false_and]
    change Calls _ _ _ _ (fun e w' => e = .returned (.tuple #[.string ⟨#[]⟩, .int .i64 40]) ∧ Below w.heap.size w w')
    have hbd : (d.toList == dom.toList) = false := by simpa using hd
    clear hne
    go_enter Tryz.func8, Tryz.ntmps8
    obtain ⟨_, k0_0, k0_1, k0_2, kf0⟩ := X0.out
    go_wp2_with fail
    refine (UN.out _).mono ?_
    rintro e w1 ⟨rfl, hb1⟩
    clear k0_0 k0_1 k0_2 kf0
    have X0_1 := Lib.hid (X0.out.below hb1)
    have HB1 := Lib.hid (more4 HB0.out (Nat.le_refl _) hb1)
    clear hb1
    obtain ⟨_, k0_0, k0_1, k0_2, kf0⟩ := X0_1.out
    go_wp2_with fail
    go_ret2
    exact ⟨rfl, HB1.out⟩
  have hdd : d = dom := toList_inj (Classical.not_not.1 hd)
  subst hdd
  clear hd
  rw [show decide (d = d) = true from decide_eq_true rfl, Bool.true_and]
  have hbd : (d.toList == d.toList) = true := by simp
  cases nv
  · rw [Bool.false_and]
    change Calls _ _ _ _ (fun e w' => e = .returned (.tuple #[.string ⟨#[]⟩, .int .i64 40]) ∧ Below w.heap.size w w')
    go_enter Tryz.func8, Tryz.ntmps8
    obtain ⟨_, k0_0, k0_1, k0_2, kf0⟩ := X0.out
    go_wp2_with fail
    refine (UN.out _).mono ?_
    rintro e w1 ⟨rfl, hb1⟩
    clear k0_0 k0_1 k0_2 kf0
    have X0_1 := Lib.hid (X0.out.below hb1)
    have HB1 := Lib.hid (more4 HB0.out (Nat.le_refl _) hb1)
    clear hb1
    obtain ⟨_, k0_0, k0_1, k0_2, kf0⟩ := X0_1.out
    go_wp2_with fail
    refine (IS.out _).mono ?_
    rintro e w2 ⟨rfl, hb2⟩
    clear k0_0 k0_1 k0_2 kf0
    have X0_2 := Lib.hid (X0_1.out.below hb2)
    have HB2 := Lib.hid (more4 HB1.out (Nat.le_refl _) hb2)
    clear hb2
    obtain ⟨_, k0_0, k0_1, k0_2, kf0⟩ := X0_2.out
    go_wp2_with fail
    go_ret2
    exact ⟨rfl, HB2.out⟩
  rw [Bool.true_and]
  by_cases hm : ¬ x.toList = M.toList
  · have hne : ¬ x = M := fun e => hm (by rw [e])
    rw [show decide (x = M) = false from decide_eq_false hne]
    change Calls _ _ _ _ (fun e w' => e = .returned (.tuple #[.string ⟨#[]⟩, .int .i64 40]) ∧ Below w.heap.size w w')
    clear hne
    have hbq : (M.toList == x.toList) = false := by rw [beq_eq_false_iff_ne]; exact fun e => hm e.symm
    go_enter Tryz.func8, Tryz.ntmps8
    obtain ⟨_, k0_0, k0_1, k0_2, kf0⟩ := X0.out
    go_wp2_with fail
    refine (UN.out _).mono ?_
    rintro e w1 ⟨rfl, hb1⟩
    clear k0_0 k0_1 k0_2 kf0
    have X0_1 := Lib.hid (X0.out.below hb1)
    have HB1 := Lib.hid (more4 HB0.out (Nat.le_refl _) hb1)
    clear hb1
    obtain ⟨_, k0_0, k0_1, k0_2, kf0⟩ := X0_1.out
    go_wp2_with fail
    refine (IS.out _).mono ?_
    rintro e w2 ⟨rfl, hb2⟩
    clear k0_0 k0_1 k0_2 kf0
    have X0_2 := Lib.hid (X0_1.out.below hb2)
    have HB2 := Lib.hid (more4 HB1.out (Nat.le_refl _) hb2)
    clear hb2
    obtain ⟨_, k0_0, k0_1, k0_2, kf0⟩ := X0_2.out
    go_wp2_with fail
    refine (NO.out _).mono ?_
    rintro e w3 ⟨rfl, hb3⟩
    clear k0_0 k0_1 k0_2 kf0
    have X0_3 := Lib.hid (X0_2.out.below hb3)
    have HB3 := Lib.hid (more4 HB2.out (Nat.le_refl _) hb3)
    clear hb3
    obtain ⟨_, k0_0, k0_1, k0_2, kf0⟩ := X0_3.out
    go_wp2_with fail
    go_ret2
    exact ⟨rfl, HB3.out⟩
  have hxm : x = M := toList_inj (Classical.not_not.1 hm)
  subst hxm
  clear hm
  rw [show decide (x = x) = true from decide_eq_true rfl]
  · change Calls _ _ _ _ (fun e w' => e = .returned (.tuple #[.string x, .int .i64 0]) ∧ Below w.heap.size w w')
    have hbq : (x.toList == x.toList) = true := by simp
    go_enter Tryz.func8, Tryz.ntmps8
    obtain ⟨_, k0_0, k0_1, k0_2, kf0⟩ := X0.out
    go_wp2_with fail
    refine (UN.out _).mono ?_
    rintro e w1 ⟨rfl, hb1⟩
    clear k0_0 k0_1 k0_2 kf0
    have X0_1 := Lib.hid (X0.out.below hb1)
    have HB1 := Lib.hid (more4 HB0.out (Nat.le_refl _) hb1)
    clear hb1
    obtain ⟨_, k0_0, k0_1, k0_2, kf0⟩ := X0_1.out
    go_wp2_with fail
    refine (IS.out _).mono ?_
    rintro e w2 ⟨rfl, hb2⟩
    clear k0_0 k0_1 k0_2 kf0
    have X0_2 := Lib.hid (X0_1.out.below hb2)
    have HB2 := Lib.hid (more4 HB1.out (Nat.le_refl _) hb2)
    clear hb2
    obtain ⟨_, k0_0, k0_1, k0_2, kf0⟩ := X0_2.out
    go_wp2_with fail
    refine (NO.out _).mono ?_
    rintro e w3 ⟨rfl, hb3⟩
    clear k0_0 k0_1 k0_2 kf0
    have X0_3 := Lib.hid (X0_2.out.below hb3)
    have HB3 := Lib.hid (more4 HB2.out (Nat.le_refl _) hb3)
    clear hb3
    obtain ⟨_, k0_0, k0_1, k0_2, kf0⟩ := X0_3.out
    go_wp2_with fail
    go_ret2
    exact ⟨rfl, HB3.out⟩
theorem rFromJid_any (n d r dom : ByteArray) (w : World) (hn : n.size ≤ 1048576) :
    Calls Tryz.prog 8 #[.agg #[.string n, .string d, .string r], .string dom] w fun e w' => e = .returned (fjj (frj (jd n d r) dom.data.toList)) ∧ Below w.heap.size w w' := by
  have hU : (mk (Esc.U true n.data.toList)).size ≤ 1048576 := by rw [mk_size]; have := Esc.U_len _ n.data.toList true (Nat.le_refl _); rw [← Lib.size_eq n] at this; omega
  have UN : Hid (∀ W, Calls Tryz.prog 21 #[.string n] W fun e w' => e = .returned (.string (mk (Esc.U true n.data.toList))) ∧ Below W.heap.size W w') := fun W => rUnescape_any n W hn
  have IS := Lib.hid (fun W => rhIs_any (mk (Esc.U true n.data.toList)) W hU)
  have NO := Lib.hid (fun W => rhNorm_any (mk (Esc.U true n.data.toList)) W hU)
  have := rFromJid_go n d r dom _ _ w _ UN IS NO
  rw [mk_list] at this
  have e : fjv (decide (d = dom) && nm (Esc.U true n.data.toList) && decide (mk (Esc.U true n.data.toList) = mk (nl (Esc.U true n.data.toList)))) (mk (Esc.U true n.data.toList)) = fjj (frj (jd n d r) dom.data.toList) := by
    unfold frj jd
    simp only
    generalize Esc.U true n.data.toList = x
    have e1 : (decide (d = dom)) = decide (d.data.toList = dom.data.toList) := by
      rw [Bool.eq_iff_iff]; simp only [decide_eq_true_eq]
      exact ⟨fun e => by rw [e], fun e => by rw [← mk_of d, ← mk_of dom, e]⟩
    have e2 : (decide (mk x = mk (nl x))) = decide (nl x = x) := by
      rw [Bool.eq_iff_iff]; simp only [decide_eq_true_eq]
      exact ⟨fun e => (mk_inj.1 e).symm, fun e => by rw [e]⟩
    rw [e1, e2]
    by_cases h1 : d.data.toList = dom.data.toList
    · by_cases h2 : nm x = true
      · by_cases h3 : nl x = x
        · rw [if_pos ⟨h1, h2, h3⟩, decide_eq_true h1, h2, decide_eq_true h3]; rfl
        · rw [if_neg (fun e => h3 e.2.2), decide_eq_false h3, Bool.and_false]; rfl
      · rw [if_neg (fun e => h2 e.2.1), show nm x = false by simpa using h2, Bool.and_false, Bool.false_and]; rfl
    · rw [if_neg (fun e => h1 e.1), decide_eq_false h1]; rfl
  rw [← e]
  exact this
end Go.Proofs.YthhmdkdpfeofjaaGreatDoor
