/- Contract: the document's own Put. Conditions: those of each theorem's head. -/
import Derived.Test.YtiodjaeonoheiaaGreatDoorBc
import Derived.Test.YtiodjaeonoheiaaGreatDoorZb
import Derived.Test.YtiodjaeonoheiaaGreatDoorIg
set_option maxRecDepth 100000
set_option maxHeartbeats 8000000
namespace Go.Proofs.YtiodjaeonoheiaaGreatDoor.T
open Go.RowKit Go.Lib
theorem rput14_n (n : Nt) (req : Int) (ai az : Option Addr) (ci cz : Nat) (w : World) (h : NtL w ai az n) (h1 : may n = false) : Calls Tryz.prog 8 #[.agg #[.int .i64 n.k, .string n.n, .string n.x, .string n.d, .int .i64 n.c, .int .i64 n.s, .int .i64 n.e, .int .i64 n.t, .bool n.o, .slice ai n.l.length ci, .slice az n.z.length cz], .int .i64 req] w (Gives (.tuple #[.int .i64 0, .string ⟨#[]⟩, .int .i64 140]) w) := by
  have CC := Lib.hid (fun W (hb : Below w.heap.size w W) => ris_any n ai az ci cz W (h.below hb))
  rw [h1] at CC
  unfold nA at CC
  obtain ⟨HX, HB0⟩ := nOne n ai az ci cz w
  clear h h1
  have mX := bx11 HX.out
  go_enter Tryz.func8, Tryz.ntmps8
  go_wp2_with fail
  refine (CC.out _ HB0.out).mono ?_
  rintro e w1 ⟨rfl, hb⟩
  clear mX
  replace HX := kpB hb HX
  have HB1 := trB HB0 hb
  clear hb
  have mX := bx11 HX.out
  go_wp2_with fail
  go_ret3
  exact ⟨rfl, HB1.out⟩
theorem rput14_f (n : Nt) (req : Int) (ai az : Option Addr) (ci cz : Nat) (w : World) (h : NtL w ai az n) (h1 : may n = true) (h2 : ¬ (plc n.k).1 = 2) : Calls Tryz.prog 8 #[.agg #[.int .i64 n.k, .string n.n, .string n.x, .string n.d, .int .i64 n.c, .int .i64 n.s, .int .i64 n.e, .int .i64 n.t, .bool n.o, .slice ai n.l.length ci, .slice az n.z.length cz], .int .i64 req] w (Gives (.tuple #[.int .i64 ((plc n.k).1 : Int), .string (mk (bodyL n)), .int .i64 0]) w) := by
  have CC := Lib.hid (fun W (hb : Below w.heap.size w W) => ris_any n ai az ci cz W (h.below hb))
  rw [h1] at CC
  unfold nA at CC
  have hs := may_small h1
  have CW := Lib.hid (fun W (hb : Below w.heap.size w W) => rbody_any n ai az ci cz W (h.below hb))
  unfold nA at CW
  have CP := Lib.hid (fun W => rplace_any n.k W)
  have hz : (mk (bodyL n)).size ≤ 10000000000 := by rw [mk_size]; exact body_len ⟨h.hn, h.hx, h.hd, h.hin, h.hiz, h.hzn⟩ (Nat.le_refl _) (Nat.le_trans hs.1 (by decide)) (Nat.le_trans hs.2 (by decide))
  generalize mk (bodyL n) = B at CW hz ⊢
  unfold plT at CP
  generalize plc n.k = p at CP h2 ⊢
  obtain ⟨pc, pf, ps⟩ := p
  simp only at CP h2 ⊢
  have q2 : ((pc : Int) == 2) = false := by rw [beq_eq_false_iff_ne]; omega
  clear h2
  obtain ⟨HX, HB0⟩ := nOne n ai az ci cz w
  clear h h1 hs hz
  have mX := bx11 HX.out
  go_enter Tryz.func8, Tryz.ntmps8
  go_wp2_with fail
  refine (CC.out _ HB0.out).mono ?_
  rintro e w1 ⟨rfl, hb⟩
  clear mX
  replace HX := kpB hb HX
  have HB1 := trB HB0 hb
  clear hb
  have mX := bx11 HX.out
  go_wp2_with fail
  refine (CP.out _).mono ?_
  rintro e wz ⟨rfl, hw⟩
  have hw := hw.symm
  subst hw
  go_wp2_with fail
  refine (CW.out _ HB1.out).mono ?_
  rintro e w2 ⟨rfl, hb⟩
  clear mX
  replace HX := kpB hb HX
  have HB2 := trB HB1 hb
  clear hb
  have mX := bx11 HX.out
  go_wp2_with fail
  go_ret3
  exact ⟨rfl, HB2.out⟩
theorem rput14_e (n : Nt) (req : Int) (ai az : Option Addr) (ci cz : Nat) (w : World) (h : NtL w ai az n) (h1 : may n = true) (h2 : (plc n.k).1 = 2) (h3 : ¬ Q.chk (plc n.k).2.1 (plc n.k).2.2 0 req (mk (bodyL n)) = 0) : Calls Tryz.prog 8 #[.agg #[.int .i64 n.k, .string n.n, .string n.x, .string n.d, .int .i64 n.c, .int .i64 n.s, .int .i64 n.e, .int .i64 n.t, .bool n.o, .slice ai n.l.length ci, .slice az n.z.length cz], .int .i64 req] w (Gives (.tuple #[.int .i64 0, .string ⟨#[]⟩, .int .i64 140]) w) := by
  have CC := Lib.hid (fun W (hb : Below w.heap.size w W) => ris_any n ai az ci cz W (h.below hb))
  rw [h1] at CC
  unfold nA at CC
  have hs := may_small h1
  have CW := Lib.hid (fun W (hb : Below w.heap.size w W) => rbody_any n ai az ci cz W (h.below hb))
  unfold nA at CW
  have CP := Lib.hid (fun W => rplace_any n.k W)
  have hz : (mk (bodyL n)).size ≤ 10000000000 := by rw [mk_size]; exact body_len ⟨h.hn, h.hx, h.hd, h.hin, h.hiz, h.hzn⟩ (Nat.le_refl _) (Nat.le_trans hs.1 (by decide)) (Nat.le_trans hs.2 (by decide))
  have CS := Lib.hid (fun W => Q.rput_any (plc n.k).2.1 (plc n.k).2.2 0 req (mk (bodyL n)) W (by omega))
  rw [Q.put_not h3] at CS
  generalize Q.chk (plc n.k).2.1 (plc n.k).2.2 0 req (mk (bodyL n)) = E at CS h3
  have q3 : (E != 0) = true := by simpa using h3
  generalize mk (bodyL n) = B at CW hz CS
  unfold plT at CP
  generalize plc n.k = p at CP h2 CS
  obtain ⟨pc, pf, ps⟩ := p
  simp only at CP h2 CS
  subst h2
  have CP2 : Hid (∀ W, Calls Tryz.prog 23 #[.int .i64 n.k] W (Pure (.tuple #[.int .i64 2, .int .i64 (pf : Int), .int .i64 (ps : Int)]) W)) := CP
  clear CP
  have CP := CP2
  clear CP2
  obtain ⟨HX, HB0⟩ := nOne n ai az ci cz w
  clear h h1 hs hz h3
  have mX := bx11 HX.out
  go_enter Tryz.func8, Tryz.ntmps8
  go_wp2_with fail
  refine (CC.out _ HB0.out).mono ?_
  rintro e w1 ⟨rfl, hb⟩
  clear mX
  replace HX := kpB hb HX
  have HB1 := trB HB0 hb
  clear hb
  have mX := bx11 HX.out
  go_wp2_with fail
  refine (CP.out _).mono ?_
  rintro e wz ⟨rfl, hw⟩
  have hw := hw.symm
  subst hw
  go_wp2_with fail
  refine (CW.out _ HB1.out).mono ?_
  rintro e w2 ⟨rfl, hb⟩
  clear mX
  replace HX := kpB hb HX
  have HB2 := trB HB1 hb
  clear hb
  have mX := bx11 HX.out
  go_wp2_with fail
  refine (CS.out _).mono ?_
  rintro e w3 ⟨rfl, hb⟩
  clear mX
  replace HX := kpB hb HX
  have HB3 := trB HB2 hb
  clear hb
  have mX := bx11 HX.out
  go_wp2_with fail
  go_ret3
  exact ⟨rfl, HB3.out⟩
theorem rput14_y (n : Nt) (req : Int) (ai az : Option Addr) (ci cz : Nat) (w : World) (h : NtL w ai az n) (h1 : may n = true) (h2 : (plc n.k).1 = 2) (h3 : Q.chk (plc n.k).2.1 (plc n.k).2.2 0 req (mk (bodyL n)) = 0) : Calls Tryz.prog 8 #[.agg #[.int .i64 n.k, .string n.n, .string n.x, .string n.d, .int .i64 n.c, .int .i64 n.s, .int .i64 n.e, .int .i64 n.t, .bool n.o, .slice ai n.l.length ci, .slice az n.z.length cz], .int .i64 req] w (Gives (.tuple #[.int .i64 2, .string (Q.hdS (plc n.k).2.1 (plc n.k).2.2 0 req ++ mk (bodyL n)), .int .i64 0]) w) := by
  have CC := Lib.hid (fun W (hb : Below w.heap.size w W) => ris_any n ai az ci cz W (h.below hb))
  rw [h1] at CC
  unfold nA at CC
  have hs := may_small h1
  have CW := Lib.hid (fun W (hb : Below w.heap.size w W) => rbody_any n ai az ci cz W (h.below hb))
  unfold nA at CW
  have CP := Lib.hid (fun W => rplace_any n.k W)
  have hz : (mk (bodyL n)).size ≤ 10000000000 := by rw [mk_size]; exact body_len ⟨h.hn, h.hx, h.hd, h.hin, h.hiz, h.hzn⟩ (Nat.le_refl _) (Nat.le_trans hs.1 (by decide)) (Nat.le_trans hs.2 (by decide))
  have CS := Lib.hid (fun W => Q.rput_any (plc n.k).2.1 (plc n.k).2.2 0 req (mk (bodyL n)) W (by omega))
  rw [(Q.put_ok h3).1, h3] at CS
  generalize mk (bodyL n) = B at CW hz CS ⊢
  unfold plT at CP
  generalize plc n.k = p at CP h2 CS ⊢
  obtain ⟨pc, pf, ps⟩ := p
  simp only at CP h2 CS ⊢
  subst h2
  have CP2 : Hid (∀ W, Calls Tryz.prog 23 #[.int .i64 n.k] W (Pure (.tuple #[.int .i64 2, .int .i64 (pf : Int), .int .i64 (ps : Int)]) W)) := CP
  clear CP
  have CP := CP2
  clear CP2
  generalize Q.hdS pf ps 0 req ++ B = HB9 at CS ⊢
  obtain ⟨HX, HB0⟩ := nOne n ai az ci cz w
  clear h h1 hs hz
  have mX := bx11 HX.out
  go_enter Tryz.func8, Tryz.ntmps8
  go_wp2_with fail
  refine (CC.out _ HB0.out).mono ?_
  rintro e w1 ⟨rfl, hb⟩
  clear mX
  replace HX := kpB hb HX
  have HB1 := trB HB0 hb
  clear hb
  have mX := bx11 HX.out
  go_wp2_with fail
  refine (CP.out _).mono ?_
  rintro e wz ⟨rfl, hw⟩
  have hw := hw.symm
  subst hw
  go_wp2_with fail
  refine (CW.out _ HB1.out).mono ?_
  rintro e w2 ⟨rfl, hb⟩
  clear mX
  replace HX := kpB hb HX
  have HB2 := trB HB1 hb
  clear hb
  have mX := bx11 HX.out
  go_wp2_with fail
  refine (CS.out _).mono ?_
  rintro e w3 ⟨rfl, hb⟩
  clear mX
  replace HX := kpB hb HX
  have HB3 := trB HB2 hb
  clear hb
  have mX := bx11 HX.out
  go_wp2_with fail
  go_ret3
  exact ⟨rfl, HB3.out⟩
theorem rput14_any (n : Nt) (req : Int) (ai az : Option Addr) (ci cz : Nat) (w : World) (h : NtL w ai az n) : Calls Tryz.prog 8 #[nA n ai az ci cz, .int .i64 req] w (Gives (.tuple #[.int .i64 (lputC n req), .string (lputB n req), .int .i64 (lputX n req)]) w) := by
  unfold lputC lputB lputX lputOk nA
  cases h1 : may n
  · exact rput14_n n req ai az ci cz w h h1
  by_cases h2 : (plc n.k).1 = 2
  · rw [decide_eq_true h2]
    by_cases h3 : Q.chk (plc n.k).2.1 (plc n.k).2.2 0 req (mk (bodyL n)) = 0
    · rw [decide_eq_true h3]
      have q := rput14_y n req ai az ci cz w h h1 h2 h3
      simp only [Bool.not_true, Bool.or_true, Bool.and_true, if_pos, h2]
      exact q
    · rw [decide_eq_false h3]
      exact rput14_e n req ai az ci cz w h h1 h2 h3
  · rw [decide_eq_false h2]
    have q := rput14_f n req ai az ci cz w h h1 h2
    simp only [Bool.not_false, Bool.true_or, Bool.and_true, if_pos, if_neg h2]
    exact q
end Go.Proofs.YtiodjaeonoheiaaGreatDoor.T
