/- Contracts: Put and Parse of package legacy. Conditions: the tables of places and of widths hold what the program's text lays; those of each theorem's head. -/
import Derived.Test.YtiodjaeonoheiaaGreatDoorZa
import Derived.Test.YtiodjaeonoheiaaGreatDoorZp
set_option maxRecDepth 100000
set_option maxHeartbeats 8000000
namespace Go.Proofs.YtiodjaeonoheiaaGreatDoor.T
open Go.RowKit Go.Lib
theorem l_num (n m : Int) : (numL' n m).length ≤ 4 := by have := ln_num [] n m; simpa using this
theorem l_txt (s : ByteArray) (m : Int) : (txtL s m).length ≤ s.size + 4 := by have := ln_txt [] s m; simpa using this
theorem l_val (k : Int) (s : ByteArray) : (valL k s).length ≤ s.size + 4 := by have := ln_val [] k s; simpa using this
theorem cds_len : ∀ l : List Int, (cdsL l).length ≤ l.length * 4
  | [] => Nat.zero_le _
  | c :: l => by
    have h1 := l_num c 2
    have h2 := cds_len l
    have e : cdsL (c :: l) = numL' c 2 ++ cdsL l := rfl
    rw [e, List.length_append, List.length_cons]
    omega
theorem body_len {n : Nt} {M : Nat} (h : Sm M n) (hM : M ≤ 1000000) (h1 : n.l.length ≤ 1000) (h2 : n.z.length ≤ 1000) : (bodyL n).length ≤ 10000000000 := by
  have hn := h.hn
  have hx := h.hx
  have hd := h.hd
  have hi := its_len (l := n.l) fun y hy => ⟨Nat.le_trans (h.hiz y hy).1 hM, Nat.le_trans (h.hiz y hy).2 hM⟩
  have hz := cds_len n.z
  have i1 := l_txt n.n 1
  have i2 := l_txt n.x 2
  have i3 := l_txt n.d 2
  have i4 := l_val 1 n.n
  have i5 := l_val 37 n.d
  have i6 := l_val 6 n.d
  have i7 := l_val 2 n.x
  have c1 := fun k a b => l_val k (intS a b)
  have c2 := fun a b => intS_len a b
  by_cases hk : 1 ≤ n.k ∧ n.k ≤ 29
  · obtain ⟨K, hK⟩ : ∃ K : Nat, n.k = K := ⟨n.k.toNat, by omega⟩
    rw [bodyL_of n K hK (by omega) (by omega)]
    have hKK : K = 1 ∨ K = 2 ∨ K = 3 ∨ K = 4 ∨ K = 5 ∨ K = 6 ∨ K = 7 ∨ K = 8 ∨ K = 9 ∨ K = 10 ∨ K = 11 ∨ K = 12 ∨ K = 13 ∨ K = 14 ∨ K = 15 ∨ K = 16 ∨ K = 17 ∨ K = 18 ∨ K = 19 ∨ K = 20 ∨ K = 21 ∨ K = 22 ∨ K = 23 ∨ K = 24 ∨ K = 25 ∨ K = 26 ∨ K = 27 ∨ K = 28 ∨ K = 29 := by omega
    rcases hKK with rfl | rfl | rfl | rfl | rfl | rfl | rfl | rfl | rfl | rfl | rfl | rfl | rfl | rfl | rfl | rfl | rfl | rfl | rfl | rfl | rfl | rfl | rfl | rfl | rfl | rfl | rfl | rfl | rfl
    · show (numL' 1 4).length ≤ _
      have := l_num 1 4
      omega
    · show (numL' 1 4 ++ valL 6 n.d).length ≤ _
      have := l_num 1 4
      rw [List.length_append]
      omega
    · show (if n.c = 0 then [] else valL 9 (intS n.c 2)).length ≤ _
      have := c1 9 n.c 2
      have := c2 n.c 2
      split
      · exact Nat.zero_le _
      · omega
    · exact Nat.zero_le _
    · show (valL 1 n.n).length ≤ _
      omega
    · show (txtL n.d 2).length ≤ _
      omega
    · show (valL 1 n.n ++ valL 37 n.d).length ≤ _
      rw [List.length_append]
      omega
    · show (valL 1 n.n ++ (if n.d.size = 0 then valL 8 (intS n.c 2) else valL 6 n.d)).length ≤ _
      have := c1 8 n.c 2
      have := c2 n.c 2
      rw [List.length_append]
      split <;> omega
    · exact Nat.zero_le _
    · exact Nat.zero_le _
    · show (valL 6 (intS n.s 4)).length ≤ _
      have := c1 6 n.s 4
      have := c2 n.s 4
      omega
    · show (numL' n.e 4).length ≤ _
      have := l_num n.e 4
      omega
    · show (txtL n.n 1 ++ valL 6 (intS n.s 4) ++ valL 4 (intS n.e 2)).length ≤ _
      have := c1 6 n.s 4
      have := c2 n.s 4
      have := c1 4 n.e 2
      have := c2 n.e 2
      rw [List.length_append, List.length_append]
      omega
    · show (txtL n.n 1).length ≤ _
      omega
    · show (n.d.data.toList ++ txtL n.n 1 ++ valL 2 n.x).length ≤ _
      have := By.len_size n.d
      rw [List.length_append, List.length_append]
      omega
    · show (n.d.data.toList ++ txtL n.n 1 ++ valL 2 n.x).length ≤ _
      have := By.len_size n.d
      rw [List.length_append, List.length_append]
      omega
    · show (numL' n.t 4 ++ numL' n.c 2).length ≤ _
      have := l_num n.t 4
      have := l_num n.c 2
      rw [List.length_append]
      omega
    · show (numL' n.l.length 2 ++ itsL n.l ++ numL' n.t 4).length ≤ _
      have := l_num n.l.length 2
      have := l_num n.t 4
      rw [List.length_append, List.length_append]
      omega
    · show (numL' n.t 4 ++ numL' n.c 2).length ≤ _
      have := l_num n.t 4
      have := l_num n.c 2
      rw [List.length_append]
      omega
    · show (itsL n.l).length ≤ _
      omega
    · show (itsL n.l).length ≤ _
      omega
    · show (itsL n.l).length ≤ _
      omega
    · exact Nat.zero_le _
    · exact Nat.zero_le _
    · show (cdsL n.z).length ≤ _
      omega
    · show (txtL n.n 1 ++ txtL n.x 2).length ≤ _
      rw [List.length_append]
      omega
    · show (txtL n.n 1 ++ txtL n.x 2).length ≤ _
      rw [List.length_append]
      omega
    · show (txtL n.n 1 ++ numL' (if n.o = true then 1 else 0) 1 ++ txtL n.x 2).length ≤ _
      have := l_num (if n.o = true then 1 else 0) 1
      rw [List.length_append, List.length_append]
      omega
    · show (txtL n.n 1 ++ numL' (if n.o = true then 1 else 0) 1 ++ txtL n.x 2).length ≤ _
      have := l_num (if n.o = true then 1 else 0) 1
      rw [List.length_append, List.length_append]
      omega
  · rw [bodyL_no n hk]
    exact Nat.zero_le _
noncomputable def lputOk (n : Nt) (req : Int) : Bool := may n && (!decide ((plc n.k).1 = 2) || decide (Q.chk (plc n.k).2.1 (plc n.k).2.2 0 req (mk (bodyL n)) = 0))
noncomputable def lputC (n : Nt) (req : Int) : Int := if lputOk n req = true then ((plc n.k).1 : Int) else 0
noncomputable def lputB (n : Nt) (req : Int) : ByteArray := if lputOk n req = true then (if (plc n.k).1 = 2 then Q.hdS (plc n.k).2.1 (plc n.k).2.2 0 req ++ mk (bodyL n) else mk (bodyL n)) else ⟨#[]⟩
noncomputable def lputX (n : Nt) (req : Int) : Int := if lputOk n req = true then 0 else 140
theorem lput_n (n : Nt) (req : Int) (ai az : Option Addr) (ci cz : Nat) (w : World) (h : NtL w ai az n) (_hG : Gp w) (h1 : may n = false) : Calls Tryz.prog 7 #[.agg #[.int .i64 n.k, .string n.n, .string n.x, .string n.d, .int .i64 n.c, .int .i64 n.s, .int .i64 n.e, .int .i64 n.t, .bool n.o, .slice ai n.l.length ci, .slice az n.z.length cz], .int .i64 req] w (Gives (.tuple #[.int .i64 0, .string ⟨#[]⟩, .int .i64 140]) w) := by
  have CC := Lib.hid (fun W (hb : Below w.heap.size w W) => lcheck_any n ai az ci cz W (h.below hb))
  rw [h1] at CC
  unfold nA at CC
  rw [if_neg (by decide)] at CC
  obtain ⟨HX, HB0⟩ := nOne n ai az ci cz w
  clear h h1
  have mX := bx11 HX.out
  go_enter Tryz.func7, Tryz.ntmps7
  go_wp2_with fail
  refine (CC.out _ HB0.out).mono ?_
  rintro e w1 ⟨rfl, hb⟩
  clear mX
  replace HX := kpB hb HX
  have HB1 := trB HB0 hb
  clear hb
  have mX := bx11 HX.out
  go_wp2_with fail
  go_ret3
  exact ⟨rfl, HB1.out⟩
theorem lput_f (n : Nt) (req : Int) (ai az : Option Addr) (ci cz : Nat) (w : World) (h : NtL w ai az n) (hG : Gp w) (h1 : may n = true) (h2 : ¬ (plc n.k).1 = 2) : Calls Tryz.prog 7 #[.agg #[.int .i64 n.k, .string n.n, .string n.x, .string n.d, .int .i64 n.c, .int .i64 n.s, .int .i64 n.e, .int .i64 n.t, .bool n.o, .slice ai n.l.length ci, .slice az n.z.length cz], .int .i64 req] w (Gives (.tuple #[.int .i64 ((plc n.k).1 : Int), .string (mk (bodyL n)), .int .i64 0]) w) := by
  have CC := Lib.hid (fun W (hb : Below w.heap.size w W) => lcheck_any n ai az ci cz W (h.below hb))
  rw [h1] at CC
  unfold nA at CC
  rw [if_pos rfl] at CC
  have hs := may_small h1
  have CW := Lib.hid (fun W (hb : Below w.heap.size w W) => write_any n ai az ci cz W (h.toNtS.below hb) (Nat.le_trans hs.1 (by decide)) h.hiz (Nat.le_trans hs.2 (by decide)))
  have CP := Lib.hid (fun W (hb : Below w.heap.size w W) => placeOf_any n.k W (hG.below hb))
  have hz : (mk (bodyL n)).size ≤ 10000000000 := by rw [mk_size]; exact body_len ⟨h.hn, h.hx, h.hd, h.hin, h.hiz, h.hzn⟩ (Nat.le_refl _) (Nat.le_trans hs.1 (by decide)) (Nat.le_trans hs.2 (by decide))
  generalize mk (bodyL n) = B at CW hz ⊢ 
  generalize plc n.k = p at CP h2 ⊢
  obtain ⟨pc, pf, ps⟩ := p
  unfold pA at CP
  simp only at CP h2 ⊢
  have q2 : ((pc : Int) != 2) = true := by simp; omega
  clear h2
  obtain ⟨HX, HB0⟩ := nOne n ai az ci cz w
  clear h hG h1 hs hz
  have mX := bx11 HX.out
  go_enter Tryz.func7, Tryz.ntmps7
  go_wp2_with fail
  refine (CC.out _ HB0.out).mono ?_
  rintro e w1 ⟨rfl, hb⟩
  clear mX
  replace HX := kpB hb HX
  have HB1 := trB HB0 hb
  clear hb
  have mX := bx11 HX.out
  go_wp2_with fail
  refine (CP.out _ HB1.out).mono ?_
  rintro e w2 ⟨rfl, hb⟩
  clear mX
  replace HX := kpB hb HX
  have HB2 := trB HB1 hb
  clear hb
  have HP := Lib.hid (box_new w2 #[.int .i64 (pc : Int), .int .i64 pf, .int .i64 ps] 48)
  replace HX := Lib.hid ((Below.heap_alloc w2 (.cells #[.int .i64 (pc : Int), .int .i64 pf, .int .i64 ps] 48) _ (heap_lt HX.out)).trans HX.out)
  have HB2a := Lib.hid (HB2.out.alloc HB2.out.size (.cells #[.int .i64 (pc : Int), .int .i64 pf, .int .i64 ps] 48))
  have mX := bx11 HX.out
  have pX := bx3p HP.out
  go_wp2_with fail
  refine (CW.out _ HB2a.out).mono ?_
  rintro e w3 ⟨rfl, hb⟩
  clear pX
  clear mX
  replace HX := kpB hb HX
  replace HP := kpB hb HP
  have HB3 := trB HB2a hb
  clear hb
  have mX := bx11 HX.out
  have pX := bx3p HP.out
  go_wp2_with fail
  go_ret3
  exact ⟨rfl, HB3.out⟩
theorem lput_e (n : Nt) (req : Int) (ai az : Option Addr) (ci cz : Nat) (w : World) (h : NtL w ai az n) (hG : Gp w) (h1 : may n = true) (h2 : (plc n.k).1 = 2) (h3 : ¬ Q.chk (plc n.k).2.1 (plc n.k).2.2 0 req (mk (bodyL n)) = 0) : Calls Tryz.prog 7 #[.agg #[.int .i64 n.k, .string n.n, .string n.x, .string n.d, .int .i64 n.c, .int .i64 n.s, .int .i64 n.e, .int .i64 n.t, .bool n.o, .slice ai n.l.length ci, .slice az n.z.length cz], .int .i64 req] w (Gives (.tuple #[.int .i64 0, .string ⟨#[]⟩, .int .i64 140]) w) := by
  have CC := Lib.hid (fun W (hb : Below w.heap.size w W) => lcheck_any n ai az ci cz W (h.below hb))
  rw [h1] at CC
  unfold nA at CC
  rw [if_pos rfl] at CC
  have hs := may_small h1
  have CW := Lib.hid (fun W (hb : Below w.heap.size w W) => write_any n ai az ci cz W (h.toNtS.below hb) (Nat.le_trans hs.1 (by decide)) h.hiz (Nat.le_trans hs.2 (by decide)))
  have CP := Lib.hid (fun W (hb : Below w.heap.size w W) => placeOf_any n.k W (hG.below hb))
  have hz : (mk (bodyL n)).size ≤ 10000000000 := by rw [mk_size]; exact body_len ⟨h.hn, h.hx, h.hd, h.hin, h.hiz, h.hzn⟩ (Nat.le_refl _) (Nat.le_trans hs.1 (by decide)) (Nat.le_trans hs.2 (by decide))
  have CS := Lib.hid (fun W (hb : Below w.heap.size w W) => Q.put_any (plc n.k).2.1 (plc n.k).2.2 0 req (mk (bodyL n)) W (by omega) (hG.below hb).wd)
  rw [Q.put_not h3] at CS
  generalize Q.chk (plc n.k).2.1 (plc n.k).2.2 0 req (mk (bodyL n)) = E at CS h3
  have q3 : (E != 0) = true := by simpa using h3
  generalize mk (bodyL n) = B at CW hz CS 
  generalize plc n.k = p at CP h2 CS
  obtain ⟨pc, pf, ps⟩ := p
  unfold pA at CP
  simp only at CP h2 CS
  subst h2
  have CP2 : Hid (∀ W (_ : Below w.heap.size w W), Calls Tryz.prog 20 #[.int .i64 n.k] W (Gives (.agg #[.int .i64 2, .int .i64 (pf : Int), .int .i64 (ps : Int)]) W)) := CP
  clear CP
  have CP := CP2
  clear CP2
  obtain ⟨HX, HB0⟩ := nOne n ai az ci cz w
  clear h hG h1 hs hz h3
  have mX := bx11 HX.out
  go_enter Tryz.func7, Tryz.ntmps7
  go_wp2_with fail
  refine (CC.out _ HB0.out).mono ?_
  rintro e w1 ⟨rfl, hb⟩
  clear mX
  replace HX := kpB hb HX
  have HB1 := trB HB0 hb
  clear hb
  have mX := bx11 HX.out
  go_wp2_with fail
  refine (CP.out _ HB1.out).mono ?_
  rintro e w2 ⟨rfl, hb⟩
  clear mX
  replace HX := kpB hb HX
  have HB2 := trB HB1 hb
  clear hb
  have HP := Lib.hid (box_new w2 #[.int .i64 (2 : Int), .int .i64 pf, .int .i64 ps] 48)
  replace HX := Lib.hid ((Below.heap_alloc w2 (.cells #[.int .i64 (2 : Int), .int .i64 pf, .int .i64 ps] 48) _ (heap_lt HX.out)).trans HX.out)
  have HB2a := Lib.hid (HB2.out.alloc HB2.out.size (.cells #[.int .i64 (2 : Int), .int .i64 pf, .int .i64 ps] 48))
  have mX := bx11 HX.out
  have pX := bx3p HP.out
  go_wp2_with fail
  refine (CW.out _ HB2a.out).mono ?_
  rintro e w3 ⟨rfl, hb⟩
  clear pX
  clear mX
  replace HX := kpB hb HX
  replace HP := kpB hb HP
  have HB3 := trB HB2a hb
  clear hb
  have mX := bx11 HX.out
  have pX := bx3p HP.out
  go_wp2_with fail
  refine (CS.out _ HB3.out).mono ?_
  rintro e w4 ⟨rfl, hb⟩
  clear pX
  clear mX
  replace HX := kpB hb HX
  replace HP := kpB hb HP
  have HB4 := trB HB3 hb
  clear hb
  have mX := bx11 HX.out
  have pX := bx3p HP.out
  go_wp2_with fail
  go_ret3
  exact ⟨rfl, HB4.out⟩
theorem lput_y (n : Nt) (req : Int) (ai az : Option Addr) (ci cz : Nat) (w : World) (h : NtL w ai az n) (hG : Gp w) (h1 : may n = true) (h2 : (plc n.k).1 = 2) (h3 : Q.chk (plc n.k).2.1 (plc n.k).2.2 0 req (mk (bodyL n)) = 0) : Calls Tryz.prog 7 #[.agg #[.int .i64 n.k, .string n.n, .string n.x, .string n.d, .int .i64 n.c, .int .i64 n.s, .int .i64 n.e, .int .i64 n.t, .bool n.o, .slice ai n.l.length ci, .slice az n.z.length cz], .int .i64 req] w (Gives (.tuple #[.int .i64 2, .string (Q.hdS (plc n.k).2.1 (plc n.k).2.2 0 req ++ mk (bodyL n)), .int .i64 0]) w) := by
  have CC := Lib.hid (fun W (hb : Below w.heap.size w W) => lcheck_any n ai az ci cz W (h.below hb))
  rw [h1] at CC
  unfold nA at CC
  rw [if_pos rfl] at CC
  have hs := may_small h1
  have CW := Lib.hid (fun W (hb : Below w.heap.size w W) => write_any n ai az ci cz W (h.toNtS.below hb) (Nat.le_trans hs.1 (by decide)) h.hiz (Nat.le_trans hs.2 (by decide)))
  have CP := Lib.hid (fun W (hb : Below w.heap.size w W) => placeOf_any n.k W (hG.below hb))
  have hz : (mk (bodyL n)).size ≤ 10000000000 := by rw [mk_size]; exact body_len ⟨h.hn, h.hx, h.hd, h.hin, h.hiz, h.hzn⟩ (Nat.le_refl _) (Nat.le_trans hs.1 (by decide)) (Nat.le_trans hs.2 (by decide))
  have CS := Lib.hid (fun W (hb : Below w.heap.size w W) => Q.put_any (plc n.k).2.1 (plc n.k).2.2 0 req (mk (bodyL n)) W (by omega) (hG.below hb).wd)
  rw [(Q.put_ok h3).1, h3] at CS
  generalize mk (bodyL n) = B at CW hz CS ⊢ 
  generalize plc n.k = p at CP h2 CS ⊢
  obtain ⟨pc, pf, ps⟩ := p
  unfold pA at CP
  simp only at CP h2 CS ⊢
  subst h2
  have CP2 : Hid (∀ W (_ : Below w.heap.size w W), Calls Tryz.prog 20 #[.int .i64 n.k] W (Gives (.agg #[.int .i64 2, .int .i64 (pf : Int), .int .i64 (ps : Int)]) W)) := CP
  clear CP
  have CP := CP2
  clear CP2
  generalize Q.hdS pf ps 0 req ++ B = HB9 at CS ⊢
  obtain ⟨HX, HB0⟩ := nOne n ai az ci cz w
  clear h hG h1 hs hz
  have mX := bx11 HX.out
  go_enter Tryz.func7, Tryz.ntmps7
  go_wp2_with fail
  refine (CC.out _ HB0.out).mono ?_
  rintro e w1 ⟨rfl, hb⟩
  clear mX
  replace HX := kpB hb HX
  have HB1 := trB HB0 hb
  clear hb
  have mX := bx11 HX.out
  go_wp2_with fail
  refine (CP.out _ HB1.out).mono ?_
  rintro e w2 ⟨rfl, hb⟩
  clear mX
  replace HX := kpB hb HX
  have HB2 := trB HB1 hb
  clear hb
  have HP := Lib.hid (box_new w2 #[.int .i64 (2 : Int), .int .i64 pf, .int .i64 ps] 48)
  replace HX := Lib.hid ((Below.heap_alloc w2 (.cells #[.int .i64 (2 : Int), .int .i64 pf, .int .i64 ps] 48) _ (heap_lt HX.out)).trans HX.out)
  have HB2a := Lib.hid (HB2.out.alloc HB2.out.size (.cells #[.int .i64 (2 : Int), .int .i64 pf, .int .i64 ps] 48))
  have mX := bx11 HX.out
  have pX := bx3p HP.out
  go_wp2_with fail
  refine (CW.out _ HB2a.out).mono ?_
  rintro e w3 ⟨rfl, hb⟩
  clear pX
  clear mX
  replace HX := kpB hb HX
  replace HP := kpB hb HP
  have HB3 := trB HB2a hb
  clear hb
  have mX := bx11 HX.out
  have pX := bx3p HP.out
  go_wp2_with fail
  refine (CS.out _ HB3.out).mono ?_
  rintro e w4 ⟨rfl, hb⟩
  clear pX
  clear mX
  replace HX := kpB hb HX
  replace HP := kpB hb HP
  have HB4 := trB HB3 hb
  clear hb
  have mX := bx11 HX.out
  have pX := bx3p HP.out
  go_wp2_with fail
  go_ret3
  exact ⟨rfl, HB4.out⟩
theorem lput_any (n : Nt) (req : Int) (ai az : Option Addr) (ci cz : Nat) (w : World) (h : NtL w ai az n) (hG : Gp w) : Calls Tryz.prog 7 #[nA n ai az ci cz, .int .i64 req] w (Gives (.tuple #[.int .i64 (lputC n req), .string (lputB n req), .int .i64 (lputX n req)]) w) := by
  unfold lputC lputB lputX lputOk nA
  cases h1 : may n
  · exact lput_n n req ai az ci cz w h hG h1
  by_cases h2 : (plc n.k).1 = 2
  · rw [decide_eq_true h2]
    by_cases h3 : Q.chk (plc n.k).2.1 (plc n.k).2.2 0 req (mk (bodyL n)) = 0
    · rw [decide_eq_true h3]
      have q := lput_y n req ai az ci cz w h hG h1 h2 h3
      simp only [Bool.not_true, Bool.or_true, Bool.and_true, if_pos, h2]
      exact q
    · rw [decide_eq_false h3]
      exact lput_e n req ai az ci cz w h hG h1 h2 h3
  · rw [decide_eq_false h2]
    have q := lput_f n req ai az ci cz w h hG h1 h2
    simp only [Bool.not_false, Bool.true_or, Bool.and_true, if_pos, if_neg h2]
    exact q
end Go.Proofs.YtiodjaeonoheiaaGreatDoor.T
