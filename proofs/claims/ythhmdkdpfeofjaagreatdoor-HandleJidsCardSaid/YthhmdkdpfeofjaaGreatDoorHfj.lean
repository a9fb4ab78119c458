/- Contract of handle.FromJid: an address's name. Condition: each text has at most 1048576 bytes. -/
import Derived.Test.YthhmdkdpfeofjaaGreatDoorHtj
namespace Go.Proofs.YthhmdkdpfeofjaaGreatDoor
open Go.RowKit Go.Lib Go.Shelf Sg Jd Hd

def fjv (v : Bool) (x : ByteArray) : Value := if v then .tuple #[.string x, .int .i64 0] else .tuple #[.string ⟨#[]⟩, .int .i64 40]
set_option maxRecDepth 100000 in
set_option maxHeartbeats 8000000 in
theorem fromJid_go (n d r dom x M : ByteArray) (w : World) (nv : Bool)
    (UN : Hid (∀ W, Calls Tryz.prog 20 #[.string n] W fun e w' => e = .returned (.string x) ∧ Below W.heap.size W w'))
    (CK : Hid (∀ W, Calls Tryz.prog 10 #[.string x] W fun e w' => e = .returned (.int .i64 (hcd nv)) ∧ Below W.heap.size W w'))
    (NO : Hid (∀ W, Calls Tryz.prog 12 #[.string x] W fun e w' => e = .returned (.string M) ∧ Below W.heap.size W w')) :
    Calls Tryz.prog 7 #[.agg #[.string n, .string d, .string r], .string dom] w fun e w' => e = .returned (fjv (decide (d = dom) && nv && decide (x = M)) x) ∧ Below w.heap.size w w' := by
  have X0 : Hid (Bx w.heap.size (.string n) (.string d) (.string r) (w.alloc (.cells #[.string n, .string d, .string r] 23))) := Bx.new w _ _ _ _
  have HB0 : Hid (Below w.heap.size w (w.alloc (.cells #[.string n, .string d, .string r] 23))) := (Below.refl _ _).alloc (Nat.le_refl _) _
  by_cases hd : ¬ d.toList = dom.toList
  · have hne : ¬ d = dom := fun e => hd (by rw [e])
    rw [show decide (d = dom) = false from decide_eq_false hne, Bool.false_and, Bool.false_and]
    change Calls _ _ _ _ (fun e w' => e = .returned (.tuple #[.string ⟨#[]⟩, .int .i64 40]) ∧ Below w.heap.size w w')
    clear hne
    go_enter Tryz.func7, Tryz.ntmps7
    obtain ⟨_, c0, c1, c2, cf⟩ := X0.out
    go_wp2_with fail
    refine (UN.out _).mono ?_
    rintro e w1 ⟨rfl, hb1⟩
    clear c0 c1 c2 cf
    have X1 := Lib.hid (X0.out.below hb1)
    have HB1 := Lib.hid (more4 HB0.out (Nat.le_refl _) hb1)
    clear hb1
    obtain ⟨_, c0, c1, c2, cf⟩ := X1.out
    go_wp2_with fail
    go_ret2
    exact ⟨rfl, HB1.out⟩
  have hdd : d = dom := toList_inj (Classical.not_not.1 hd)
  subst hdd
  clear hd
  rw [show decide (d = d) = true from decide_eq_true rfl, Bool.true_and]
  cases nv
  · rw [Bool.false_and]
    change Calls _ _ _ _ (fun e w' => e = .returned (.tuple #[.string ⟨#[]⟩, .int .i64 40]) ∧ Below w.heap.size w w')
    go_enter Tryz.func7, Tryz.ntmps7
    obtain ⟨_, c0, c1, c2, cf⟩ := X0.out
    go_wp2_with fail
    refine (UN.out _).mono ?_
    rintro e w1 ⟨rfl, hb1⟩
    clear c0 c1 c2 cf
    have X1 := Lib.hid (X0.out.below hb1)
    have HB1 := Lib.hid (more4 HB0.out (Nat.le_refl _) hb1)
    clear hb1
    obtain ⟨_, c0, c1, c2, cf⟩ := X1.out
    go_wp2_with fail
    refine (CK.out _).mono ?_
    rintro e w2 ⟨rfl, hb2⟩
    have HB2 := Lib.hid (more4 HB1.out (Nat.le_refl _) hb2)
    clear hb2 c0 c1 c2 cf
    go_wp2_with fail
    go_ret2
    exact ⟨rfl, HB2.out⟩
  rw [Bool.true_and]
  by_cases hm : ¬ x.toList = M.toList
  · have hne : ¬ x = M := fun e => hm (by rw [e])
    rw [show decide (x = M) = false from decide_eq_false hne]
    change Calls _ _ _ _ (fun e w' => e = .returned (.tuple #[.string ⟨#[]⟩, .int .i64 40]) ∧ Below w.heap.size w w')
    clear hne
    have hbq : (x.toList == M.toList) = false := by simpa using hm
    go_enter Tryz.func7, Tryz.ntmps7
    obtain ⟨_, c0, c1, c2, cf⟩ := X0.out
    go_wp2_with fail
    refine (UN.out _).mono ?_
    rintro e w1 ⟨rfl, hb1⟩
    clear c0 c1 c2 cf
    have X1 := Lib.hid (X0.out.below hb1)
    have HB1 := Lib.hid (more4 HB0.out (Nat.le_refl _) hb1)
    clear hb1
    obtain ⟨_, c0, c1, c2, cf⟩ := X1.out
    go_wp2_with fail
    refine (CK.out _).mono ?_
    rintro e w2 ⟨rfl, hb2⟩
    have HB2 := Lib.hid (more4 HB1.out (Nat.le_refl _) hb2)
    clear hb2 c0 c1 c2 cf
    go_wp2_with fail
    refine (NO.out _).mono ?_
    rintro e w3 ⟨rfl, hb3⟩
    have HB3 := Lib.hid (more4 HB2.out (Nat.le_refl _) hb3)
    clear hb3
    go_wp2_with fail
    go_ret2
    exact ⟨rfl, HB3.out⟩
  have hxm : x = M := toList_inj (Classical.not_not.1 hm)
  subst hxm
  clear hm
  rw [show decide (x = x) = true from decide_eq_true rfl]
  · change Calls _ _ _ _ (fun e w' => e = .returned (.tuple #[.string x, .int .i64 0]) ∧ Below w.heap.size w w')
    have hbq : (x.toList == x.toList) = true := by simp
    go_enter Tryz.func7, Tryz.ntmps7
    obtain ⟨_, c0, c1, c2, cf⟩ := X0.out
    go_wp2_with fail
    refine (UN.out _).mono ?_
    rintro e w1 ⟨rfl, hb1⟩
    clear c0 c1 c2 cf
    have X1 := Lib.hid (X0.out.below hb1)
    have HB1 := Lib.hid (more4 HB0.out (Nat.le_refl _) hb1)
    clear hb1
    obtain ⟨_, c0, c1, c2, cf⟩ := X1.out
    go_wp2_with fail
    refine (CK.out _).mono ?_
    rintro e w2 ⟨rfl, hb2⟩
    have HB2 := Lib.hid (more4 HB1.out (Nat.le_refl _) hb2)
    clear hb2 c0 c1 c2 cf
    go_wp2_with fail
    refine (NO.out _).mono ?_
    rintro e w3 ⟨rfl, hb3⟩
    have HB3 := Lib.hid (more4 HB2.out (Nat.le_refl _) hb3)
    clear hb3
    go_wp2_with fail
    go_ret2
    exact ⟨rfl, HB3.out⟩
def fjj : Option (List UInt8) → Value
  | none => .tuple #[.string ⟨#[]⟩, .int .i64 40]
  | some x => .tuple #[.string (mk x), .int .i64 0]
theorem fromJid_any (n d r dom : ByteArray) (w : World) (hn : n.size ≤ 1048576) :
    Calls Tryz.prog 7 #[.agg #[.string n, .string d, .string r], .string dom] w fun e w' => e = .returned (fjj (frj (jd n d r) dom.data.toList)) ∧ Below w.heap.size w w' := by
  have hU : (mk (Esc.U true n.data.toList)).size ≤ 1048576 := by rw [mk_size]; have := Esc.U_len _ n.data.toList true (Nat.le_refl _); rw [← Lib.size_eq n] at this; omega
  have UN : Hid (∀ W, Calls Tryz.prog 20 #[.string n] W fun e w' => e = .returned (.string (mk (Esc.U true n.data.toList))) ∧ Below W.heap.size W w') := fun W => unescape_any n W hn
  have CK := Lib.hid (fun W => hcheck_any (mk (Esc.U true n.data.toList)) W hU)
  have NO := Lib.hid (fun W => hnorm_any (mk (Esc.U true n.data.toList)) W hU)
  have := fromJid_go n d r dom _ _ w _ UN CK NO
  rw [mk_list] at this
  have e : fjv (decide (d = dom) && nm (Esc.U true n.data.toList) && decide (mk (Esc.U true n.data.toList) = mk (nl (Esc.U true n.data.toList)))) (mk (Esc.U true n.data.toList)) = fjj (frj (jd n d r) dom.data.toList) := by
    unfold frj jd
    simp only
    generalize Esc.U true n.data.toList = x
    have e1 : (decide (d = dom)) = decide (d.data.toList = dom.data.toList) := by
      rw [Bool.eq_iff_iff]; simp only [decide_eq_true_eq]
      exact ⟨fun e => by rw [e], fun e => by rw [← mk_of d, ← mk_of dom, e]⟩
    have e2 : (decide (mk x = mk (nl x))) = decide (nl x = x) := by
      rw [Bool.eq_iff_iff]; simp only [decide_eq_true_eq]
      exact ⟨fun e => (mk_inj.1 e).symm, fun e => by rw [e]⟩
    rw [e1, e2]
    by_cases h1 : d.data.toList = dom.data.toList
    · by_cases h2 : nm x = true
      · by_cases h3 : nl x = x
        · rw [if_pos ⟨h1, h2, h3⟩, decide_eq_true h1, h2, decide_eq_true h3]; rfl
        · rw [if_neg (fun e => h3 e.2.2), decide_eq_false h3, Bool.and_false]; rfl
      · rw [if_neg (fun e => h2 e.2.1), show nm x = false by simpa using h2, Bool.and_false, Bool.false_and]; rfl
    · rw [if_neg (fun e => h1 e.1), decide_eq_false h1]; rfl
  rw [← e]
  exact this
end Go.Proofs.YthhmdkdpfeofjaaGreatDoor
