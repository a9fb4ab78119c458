/- Contracts of handle.ToJid and handle.FromJid: a name's address, an address's name. Condition: each text has at most 300000 bytes. -/
import Derived.Test.YthhmdkdpfeofjaaDoorHck
import Derived.Test.YthhmdkdpfeofjaaDoorJcl
import Derived.Test.YthhmdkdpfeofjaaDoorJbx
import Derived.Test.YthhmdkdpfeofjaaDoorPun
namespace Go.Proofs.YthhmdkdpfeofjaaDoor
open Go.RowKit Go.Lib Go.Shelf Sg Jd Hd

/-- What ToJid answers. -/
def tjv (v : Bool) (N d : ByteArray) : Value := if v then .tuple #[.agg #[.string N, .string d, .string ⟨#[]⟩], .int .i64 0] else .tuple #[.agg #[.string ⟨#[]⟩, .string ⟨#[]⟩, .string ⟨#[]⟩], .int .i64 40]
theorem more4 {B : Nat} {w w1 w2 : World} (h : Below B w w1) (hw : B ≤ w.heap.size) (h2 : Below w1.heap.size w1 w2) : Below B w w2 := h.trans (h2.mono (Nat.le_trans hw h.size))
set_option maxRecDepth 100000 in
set_option maxHeartbeats 8000000 in
theorem toJid_go (s d M N : ByteArray) (w : World) (er nv ov : Bool)
    (NO : Hid (∀ W, Calls Tryd.prog 11 #[.string s] W fun e w' => e = .returned (.string M) ∧ Below W.heap.size W w'))
    (ES : Hid (∀ W, Calls Tryd.prog 24 #[.string M] W fun e w' => e = .returned (.tuple #[.string N, .int .i64 (if er then 20 else 0)]) ∧ Below W.heap.size W w'))
    (CL : Hid (∀ W, Calls Tryd.prog 25 #[.string d] W fun e w' => e = .returned (.string d) ∧ Below W.heap.size W w'))
    (CK : Hid (∀ W, Calls Tryd.prog 9 #[.string s] W fun e w' => e = .returned (.int .i64 (hcd nv)) ∧ Below W.heap.size W w'))
    (JC : Hid (∀ W, Calls Tryd.prog 26 #[.agg #[.string N, .string d, .string ⟨#[]⟩]] W fun e w' => e = .returned (.int .i64 (cd ov)) ∧ Below W.heap.size W w')) :
    Calls Tryd.prog 14 #[.string s, .string d] w fun e w' => e = .returned (tjv (nv && !er && ov) N d) ∧ Below w.heap.size w w' := by
  have X0 : Hid (Bx w.heap.size (.string ⟨#[]⟩) (.string ⟨#[]⟩) (.string ⟨#[]⟩) (w.alloc (.cells #[.string ⟨#[]⟩, .string ⟨#[]⟩, .string ⟨#[]⟩] 30))) := Bx.new w _ _ _ _
  have HB0 : Hid (Below w.heap.size w (w.alloc (.cells #[.string ⟨#[]⟩, .string ⟨#[]⟩, .string ⟨#[]⟩] 30))) := (Below.refl _ _).alloc (Nat.le_refl _) _
  cases nv
  · change Calls _ _ _ _ (fun e w' => e = .returned (.tuple #[.agg #[.string ⟨#[]⟩, .string ⟨#[]⟩, .string ⟨#[]⟩], .int .i64 40]) ∧ Below w.heap.size w w')
    cases er
    · go_enter Tryd.func14, Tryd.ntmps14
      go_wp2_with fail
      refine (NO.out _).mono ?_
      rintro e w1 ⟨rfl, hb1⟩
      have X1 := Lib.hid (X0.out.below hb1)
      have HB1 := Lib.hid (more4 HB0.out (Nat.le_refl _) hb1)
      clear hb1
      go_wp2_with fail
      refine (ES.out _).mono ?_
      rintro e w2 ⟨rfl, hb2⟩
      have X2 := Lib.hid (X1.out.below hb2)
      have HB2 := Lib.hid (more4 HB1.out (Nat.le_refl _) hb2)
      clear hb2 X1
      go_wp2_with fail
      refine (CL.out _).mono ?_
      rintro e w3 ⟨rfl, hb3⟩
      have X3 := Lib.hid ((X2.out.below hb3).alloc (.cells #[.string N, .string d, .string ⟨#[]⟩] 30))
      have Y3 := Lib.hid (Bx.new w3 (.string N) (.string d) (.string ⟨#[]⟩) 30)
      have HB3 := Lib.hid ((more4 HB2.out (Nat.le_refl _) hb3).alloc (more4 HB2.out (Nat.le_refl _) hb3).size (.cells #[.string N, .string d, .string ⟨#[]⟩] 30))
      clear hb3 X2
      go_wp2_with fail
      refine (CK.out _).mono ?_
      rintro e w4 ⟨rfl, hb4⟩
      have X4 := Lib.hid (X3.out.below hb4)
      have Y4 := Lib.hid (Y3.out.below hb4)
      have HB4 := Lib.hid (more4 HB3.out (Nat.le_refl _) hb4)
      clear hb4 X3 Y3
      obtain ⟨_, c0, c1, c2, cf⟩ := X4.out
      go_wp2_with fail
      refine bodyPost_ret (v := .tuple #[.agg #[.string ⟨#[]⟩, .string ⟨#[]⟩, .string ⟨#[]⟩], .int .i64 40]) (by simp [results, Tryd.results14, go_sem, c0, c1, c2]) rfl ⟨rfl, ?_⟩
      exact ((HB4.out.setCell (Nat.le_refl _) _).setCell (Nat.le_refl _) _).setCell (Nat.le_refl _) _
    · go_enter Tryd.func14, Tryd.ntmps14
      go_wp2_with fail
      refine (NO.out _).mono ?_
      rintro e w1 ⟨rfl, hb1⟩
      have X1 := Lib.hid (X0.out.below hb1)
      have HB1 := Lib.hid (more4 HB0.out (Nat.le_refl _) hb1)
      clear hb1
      go_wp2_with fail
      refine (ES.out _).mono ?_
      rintro e w2 ⟨rfl, hb2⟩
      have X2 := Lib.hid (X1.out.below hb2)
      have HB2 := Lib.hid (more4 HB1.out (Nat.le_refl _) hb2)
      clear hb2 X1
      go_wp2_with fail
      refine (CL.out _).mono ?_
      rintro e w3 ⟨rfl, hb3⟩
      have X3 := Lib.hid ((X2.out.below hb3).alloc (.cells #[.string N, .string d, .string ⟨#[]⟩] 30))
      have Y3 := Lib.hid (Bx.new w3 (.string N) (.string d) (.string ⟨#[]⟩) 30)
      have HB3 := Lib.hid ((more4 HB2.out (Nat.le_refl _) hb3).alloc (more4 HB2.out (Nat.le_refl _) hb3).size (.cells #[.string N, .string d, .string ⟨#[]⟩] 30))
      clear hb3 X2
      go_wp2_with fail
      refine (CK.out _).mono ?_
      rintro e w4 ⟨rfl, hb4⟩
      have X4 := Lib.hid (X3.out.below hb4)
      have Y4 := Lib.hid (Y3.out.below hb4)
      have HB4 := Lib.hid (more4 HB3.out (Nat.le_refl _) hb4)
      clear hb4 X3 Y3
      obtain ⟨_, c0, c1, c2, cf⟩ := X4.out
      go_wp2_with fail
      refine bodyPost_ret (v := .tuple #[.agg #[.string ⟨#[]⟩, .string ⟨#[]⟩, .string ⟨#[]⟩], .int .i64 40]) (by simp [results, Tryd.results14, go_sem, c0, c1, c2]) rfl ⟨rfl, ?_⟩
      exact ((HB4.out.setCell (Nat.le_refl _) _).setCell (Nat.le_refl _) _).setCell (Nat.le_refl _) _
  cases er
  · cases ov
    · change Calls _ _ _ _ (fun e w' => e = .returned (.tuple #[.agg #[.string ⟨#[]⟩, .string ⟨#[]⟩, .string ⟨#[]⟩], .int .i64 40]) ∧ Below w.heap.size w w')
      go_enter Tryd.func14, Tryd.ntmps14
      go_wp2_with fail
      refine (NO.out _).mono ?_
      rintro e w1 ⟨rfl, hb1⟩
      have X1 := Lib.hid (X0.out.below hb1)
      have HB1 := Lib.hid (more4 HB0.out (Nat.le_refl _) hb1)
      clear hb1
      go_wp2_with fail
      refine (ES.out _).mono ?_
      rintro e w2 ⟨rfl, hb2⟩
      have X2 := Lib.hid (X1.out.below hb2)
      have HB2 := Lib.hid (more4 HB1.out (Nat.le_refl _) hb2)
      clear hb2 X1
      go_wp2_with fail
      refine (CL.out _).mono ?_
      rintro e w3 ⟨rfl, hb3⟩
      have X3 := Lib.hid ((X2.out.below hb3).alloc (.cells #[.string N, .string d, .string ⟨#[]⟩] 30))
      have Y3 := Lib.hid (Bx.new w3 (.string N) (.string d) (.string ⟨#[]⟩) 30)
      have HB3 := Lib.hid ((more4 HB2.out (Nat.le_refl _) hb3).alloc (more4 HB2.out (Nat.le_refl _) hb3).size (.cells #[.string N, .string d, .string ⟨#[]⟩] 30))
      clear hb3 X2
      go_wp2_with fail
      refine (CK.out _).mono ?_
      rintro e w4 ⟨rfl, hb4⟩
      have X4 := Lib.hid (X3.out.below hb4)
      have Y4 := Lib.hid (Y3.out.below hb4)
      have HB4 := Lib.hid (more4 HB3.out (Nat.le_refl _) hb4)
      clear hb4 X3 Y3
      obtain ⟨_, d0, d1, d2, df⟩ := Y4.out
      go_wp2_with fail
      refine (JC.out _).mono ?_
      rintro e w5 ⟨rfl, hb5⟩
      clear d0 d1 d2 df
      have X5 := Lib.hid (X4.out.below hb5)
      have Y5 := Lib.hid (Y4.out.below hb5)
      have HB5 := Lib.hid (more4 HB4.out (Nat.le_refl _) hb5)
      clear hb5 X4 Y4
      obtain ⟨_, c0, c1, c2, cf⟩ := X5.out
      obtain ⟨_, d0, d1, d2, df⟩ := Y5.out
      go_wp2_with fail
      refine bodyPost_ret (v := .tuple #[.agg #[.string ⟨#[]⟩, .string ⟨#[]⟩, .string ⟨#[]⟩], .int .i64 40]) (by simp [results, Tryd.results14, go_sem, c0, c1, c2]) rfl ⟨rfl, ?_⟩
      exact ((HB5.out.setCell (Nat.le_refl _) _).setCell (Nat.le_refl _) _).setCell (Nat.le_refl _) _
    · change Calls _ _ _ _ (fun e w' => e = .returned (.tuple #[.agg #[.string N, .string d, .string ⟨#[]⟩], .int .i64 0]) ∧ Below w.heap.size w w')
      go_enter Tryd.func14, Tryd.ntmps14
      go_wp2_with fail
      refine (NO.out _).mono ?_
      rintro e w1 ⟨rfl, hb1⟩
      have X1 := Lib.hid (X0.out.below hb1)
      have HB1 := Lib.hid (more4 HB0.out (Nat.le_refl _) hb1)
      clear hb1
      go_wp2_with fail
      refine (ES.out _).mono ?_
      rintro e w2 ⟨rfl, hb2⟩
      have X2 := Lib.hid (X1.out.below hb2)
      have HB2 := Lib.hid (more4 HB1.out (Nat.le_refl _) hb2)
      clear hb2 X1
      go_wp2_with fail
      refine (CL.out _).mono ?_
      rintro e w3 ⟨rfl, hb3⟩
      have X3 := Lib.hid ((X2.out.below hb3).alloc (.cells #[.string N, .string d, .string ⟨#[]⟩] 30))
      have Y3 := Lib.hid (Bx.new w3 (.string N) (.string d) (.string ⟨#[]⟩) 30)
      have HB3 := Lib.hid ((more4 HB2.out (Nat.le_refl _) hb3).alloc (more4 HB2.out (Nat.le_refl _) hb3).size (.cells #[.string N, .string d, .string ⟨#[]⟩] 30))
      clear hb3 X2
      go_wp2_with fail
      refine (CK.out _).mono ?_
      rintro e w4 ⟨rfl, hb4⟩
      have X4 := Lib.hid (X3.out.below hb4)
      have Y4 := Lib.hid (Y3.out.below hb4)
      have HB4 := Lib.hid (more4 HB3.out (Nat.le_refl _) hb4)
      clear hb4 X3 Y3
      obtain ⟨_, d0, d1, d2, df⟩ := Y4.out
      go_wp2_with fail
      refine (JC.out _).mono ?_
      rintro e w5 ⟨rfl, hb5⟩
      clear d0 d1 d2 df
      have X5 := Lib.hid (X4.out.below hb5)
      have Y5 := Lib.hid (Y4.out.below hb5)
      have HB5 := Lib.hid (more4 HB4.out (Nat.le_refl _) hb5)
      clear hb5 X4 Y4
      obtain ⟨_, c0, c1, c2, cf⟩ := X5.out
      obtain ⟨_, d0, d1, d2, df⟩ := Y5.out
      go_wp2_with fail
      refine bodyPost_ret (v := .tuple #[.agg #[.string N, .string d, .string ⟨#[]⟩], .int .i64 0]) (by simp [results, Tryd.results14, go_sem, c0, c1, c2]) rfl ⟨rfl, ?_⟩
      exact ((HB5.out.setCell (Nat.le_refl _) _).setCell (Nat.le_refl _) _).setCell (Nat.le_refl _) _
  · change Calls _ _ _ _ (fun e w' => e = .returned (.tuple #[.agg #[.string ⟨#[]⟩, .string ⟨#[]⟩, .string ⟨#[]⟩], .int .i64 40]) ∧ Below w.heap.size w w')
    go_enter Tryd.func14, Tryd.ntmps14
    go_wp2_with fail
    refine (NO.out _).mono ?_
    rintro e w1 ⟨rfl, hb1⟩
    have X1 := Lib.hid (X0.out.below hb1)
    have HB1 := Lib.hid (more4 HB0.out (Nat.le_refl _) hb1)
    clear hb1
    go_wp2_with fail
    refine (ES.out _).mono ?_
    rintro e w2 ⟨rfl, hb2⟩
    have X2 := Lib.hid (X1.out.below hb2)
    have HB2 := Lib.hid (more4 HB1.out (Nat.le_refl _) hb2)
    clear hb2 X1
    go_wp2_with fail
    refine (CL.out _).mono ?_
    rintro e w3 ⟨rfl, hb3⟩
    have X3 := Lib.hid ((X2.out.below hb3).alloc (.cells #[.string N, .string d, .string ⟨#[]⟩] 30))
    have Y3 := Lib.hid (Bx.new w3 (.string N) (.string d) (.string ⟨#[]⟩) 30)
    have HB3 := Lib.hid ((more4 HB2.out (Nat.le_refl _) hb3).alloc (more4 HB2.out (Nat.le_refl _) hb3).size (.cells #[.string N, .string d, .string ⟨#[]⟩] 30))
    clear hb3 X2
    go_wp2_with fail
    refine (CK.out _).mono ?_
    rintro e w4 ⟨rfl, hb4⟩
    have X4 := Lib.hid (X3.out.below hb4)
    have Y4 := Lib.hid (Y3.out.below hb4)
    have HB4 := Lib.hid (more4 HB3.out (Nat.le_refl _) hb4)
    clear hb4 X3 Y3
    obtain ⟨_, c0, c1, c2, cf⟩ := X4.out
    go_wp2_with fail
    refine bodyPost_ret (v := .tuple #[.agg #[.string ⟨#[]⟩, .string ⟨#[]⟩, .string ⟨#[]⟩], .int .i64 40]) (by simp [results, Tryd.results14, go_sem, c0, c1, c2]) rfl ⟨rfl, ?_⟩
    exact ((HB4.out.setCell (Nat.le_refl _) _).setCell (Nat.le_refl _) _).setCell (Nat.le_refl _) _
theorem okB (N d : ByteArray) : ok ⟨N.data.toList, d.data.toList, []⟩ = ok (jd N d ⟨#[]⟩) := rfl
def tjj : Option J → Value
  | none => .tuple #[.agg #[.string ⟨#[]⟩, .string ⟨#[]⟩, .string ⟨#[]⟩], .int .i64 40]
  | some j => .tuple #[.agg #[.string (mk j.n), .string (mk j.d), .string (mk j.r)], .int .i64 0]
theorem toJid_any (s d : ByteArray) (w : World) (hs : s.size ≤ 300000) (hd : d.size ≤ 1048576) :
    Calls Tryd.prog 14 #[.string s, .string d] w fun e w' => e = .returned (tjj (toj s.data.toList d.data.toList)) ∧ Below w.heap.size w w' := by
  have hM : (mk (nl s.data.toList)).size ≤ 300000 := by rw [mk_size]; have := nl_le s.data.toList; rw [← Lib.size_eq] at this; omega
  have CL : Hid (∀ W, Calls Tryd.prog 25 #[.string d] W fun e w' => e = .returned (.string d) ∧ Below W.heap.size W w') := fun W => clone_any d W (by omega)
  have NO : Hid (∀ W, Calls Tryd.prog 11 #[.string s] W fun e w' => e = .returned (.string (mk (nl s.data.toList))) ∧ Below W.heap.size W w') := fun W => hnorm_any s W (by omega)
  have CK := Lib.hid (fun W => hcheck_any s W (by omega))
  by_cases hb : Esc.bad (nl s.data.toList) = true
  · have hn : nm s.data.toList = false := by
      rw [Bool.eq_false_iff]
      intro e
      rw [nm_good e] at hb
      cases hb
    have et : toj s.data.toList d.data.toList = none := by unfold toj; rw [hn]; rfl
    have ES : Hid (∀ W, Calls Tryd.prog 24 #[.string (mk (nl s.data.toList))] W fun e w' => e = .returned (.tuple #[.string ⟨#[]⟩, .int .i64 (if true then 20 else 0)]) ∧ Below W.heap.size W w') := fun W => escape_bad _ W (by omega) (by rw [mk_list]; exact hb)
    have JC := Lib.hid (fun W => check_any ⟨#[]⟩ d ⟨#[]⟩ W (by decide) hd (by decide))
    have := toJid_go s d _ _ w true _ _ NO ES CL CK JC
    rw [et]
    rw [hn] at this
    exact this
  · have hg : Esc.bad (nl s.data.toList) = false := by simpa using hb
    have hE : (mk (Esc.E (nl s.data.toList))).size ≤ 1048576 := by rw [mk_size]; have := E_small (s := s.data.toList); rw [← Lib.size_eq] at this; omega
    have ES : Hid (∀ W, Calls Tryd.prog 24 #[.string (mk (nl s.data.toList))] W fun e w' => e = .returned (.tuple #[.string (mk (Esc.E (nl s.data.toList))), .int .i64 (if false then 20 else 0)]) ∧ Below W.heap.size W w') := fun W => by
      have := escape_good (mk (nl s.data.toList)) W (by omega) (by rw [mk_list]; exact hg)
      rw [mk_list] at this
      exact this
    have JC := Lib.hid (fun W => check_any (mk (Esc.E (nl s.data.toList))) d ⟨#[]⟩ W hE hd (by decide))
    have := toJid_go s d _ _ w false _ _ NO ES CL CK JC
    have e : tjv (nm s.data.toList && !false && ok (jd (mk (Esc.E (nl s.data.toList))) d ⟨#[]⟩)) (mk (Esc.E (nl s.data.toList))) d = tjj (toj s.data.toList d.data.toList) := by
      unfold toj
      rw [← okB, mk_list]
      by_cases h1 : nm s.data.toList = true
      · by_cases h2 : ok ⟨Esc.E (nl s.data.toList), d.data.toList, []⟩ = true
        · rw [if_pos ⟨h1, h2⟩, h1, h2]
          unfold tjv tjj
          simp only [mk_of]
          rfl
        · rw [if_neg (fun e => h2 e.2), show ok ⟨Esc.E (nl s.data.toList), d.data.toList, []⟩ = false by simpa using h2, Bool.and_false]
          rfl
      · rw [if_neg (fun e => h1 e.1), show nm s.data.toList = false by simpa using h1]
        rfl
    rw [← e]
    exact this
end Go.Proofs.YthhmdkdpfeofjaaDoor
