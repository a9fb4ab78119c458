/- Contracts: the document's within, text, item, items, codes. Conditions: those of each theorem's head. -/
import Derived.Test.YtiodjaeonoheiaaGreatDoorZv
set_option maxRecDepth 100000
set_option maxHeartbeats 8000000
namespace Go.Proofs.YtiodjaeonoheiaaGreatDoor.T
open Go.RowKit Go.Lib
theorem rwithin_any (n lo hi : Int) (w : World) : Calls Tryz.prog 30 #[.int .i64 n, .int .i64 lo, .int .i64 hi] w (Pure (.bool (inB n lo hi)) w) := by
  unfold inB
  by_cases h1 : lo ≤ n
  · by_cases h2 : n ≤ hi
    · rw [decide_eq_true h1, decide_eq_true h2]
      have q1 : decide (lo ≤ n) = true := decide_eq_true h1
      have q2 : decide (n ≤ hi) = true := decide_eq_true h2
      go_enter Tryz.func30, Tryz.ntmps30
      go_wp2_with fail
      go_ret
      exact ⟨rfl, rfl⟩
    · rw [decide_eq_true h1, decide_eq_false h2]
      have q1 : decide (lo ≤ n) = true := decide_eq_true h1
      have q2 : decide (n ≤ hi) = false := decide_eq_false h2
      go_enter Tryz.func30, Tryz.ntmps30
      go_wp2_with fail
      go_ret
      exact ⟨rfl, rfl⟩
  · rw [decide_eq_false h1, Bool.false_and]
    have q1 : decide (lo ≤ n) = false := decide_eq_false h1
    go_enter Tryz.func30, Tryz.ntmps30
    go_wp2_with fail
    go_ret
    exact ⟨rfl, rfl⟩
theorem rtext14_any (s : ByteArray) (m : Int) (w : World) (hs : s.size ≤ 1048576) : Calls Tryz.prog 31 #[.string s, .int .i64 m] w (Gives (.bool (txB s m)) w) := by
  have C := Lib.hid (rSigns_any s w hs)
  unfold txB
  cases ht : isT s
  · have HT := Lib.hid (isT_not.1 ht)
    rw [Bool.and_false]
    clear hs ht
    go_enter Tryz.func31, Tryz.ntmps31
    go_wp2_with fail
    refine C.out.mono ?_
    rintro e w1 ⟨⟨cs, v, hcs, rfl, -⟩ | ⟨-, rfl⟩, hb⟩
    · exact absurd hcs (HT.out cs)
    · have HB := Lib.hid hb
      clear hb
      go_wp2_with fail
      go_ret
      exact ⟨rfl, HB.out⟩
  · have HT := Lib.hid (isT_iff.1 ht)
    rw [Bool.and_true]
    clear ht
    by_cases h1 : (s.size : Int) ≤ m
    · rw [decide_eq_true h1]
      have q1 : decide ((s.size : Int) ≤ m) = true := decide_eq_true h1
      clear hs
      go_enter Tryz.func31, Tryz.ntmps31
      go_wp2_with fail
      refine C.out.mono ?_
      rintro e w1 ⟨⟨cs, v, hcs, rfl, -⟩ | ⟨hno, -⟩, hb⟩
      · have HB := Lib.hid hb
        clear hb hcs
        go_wp2_with fail
        go_ret
        exact ⟨rfl, HB.out⟩
      · exact absurd HT.out.choose_spec (hno _)
    · rw [decide_eq_false h1]
      have q1 : decide ((s.size : Int) ≤ m) = false := decide_eq_false h1
      clear hs
      go_enter Tryz.func31, Tryz.ntmps31
      go_wp2_with fail
      refine C.out.mono ?_
      rintro e w1 ⟨⟨cs, v, hcs, rfl, -⟩ | ⟨hno, -⟩, hb⟩
      · have HB := Lib.hid hb
        clear hb hcs
        go_wp2_with fail
        go_ret
        exact ⟨rfl, HB.out⟩
      · exact absurd HT.out.choose_spec (hno _)
theorem risN_any (s : ByteArray) (w : World) (hs : s.size ≤ 1048576) : Calls Tryz.prog 29 #[.string s] w (Gives (.bool (nmB s true)) w) := (rhIs_any s w hs)
theorem ritem_g (n a : ByteArray) (g i t : Int) (v : Bool) (w : World) (_hn : n.size ≤ 1048576) (_ha : a.size ≤ 1048576) (h1 : inB g 0 65535 = false) : Calls Tryz.prog 63 #[.agg #[.string n, .int .i64 g, .int .i64 i, .int .i64 t, .string a, .bool v]] w (Gives (.bool false) w) := by
  have CG := Lib.hid (fun W => rwithin_any g 0 65535 W)
  have CI := Lib.hid (fun W => rwithin_any i 0 65535 W)
  rw [h1] at CG
  clear h1 _hn _ha
  obtain ⟨HX, HB0⟩ := bxOne w #[.string n, .int .i64 g, .int .i64 i, .int .i64 t, .string a, .bool v] 45
  have cX := bx6 HX.out
  go_enter Tryz.func63, Tryz.ntmps63
  go_wp2_with fail
  refine (CG.out _).mono ?_
  rintro e wz ⟨rfl, hw⟩
  have hw := hw.symm
  subst hw
  go_wp2_with fail
  go_ret
  exact ⟨rfl, HB0.out⟩
theorem ritem_i (n a : ByteArray) (g i t : Int) (v : Bool) (w : World) (_hn : n.size ≤ 1048576) (_ha : a.size ≤ 1048576) (h1 : inB g 0 65535 = true) (h2 : inB i 0 65535 = false) : Calls Tryz.prog 63 #[.agg #[.string n, .int .i64 g, .int .i64 i, .int .i64 t, .string a, .bool v]] w (Gives (.bool false) w) := by
  have CG := Lib.hid (fun W => rwithin_any g 0 65535 W)
  have CI := Lib.hid (fun W => rwithin_any i 0 65535 W)
  rw [h1] at CG
  rw [h2] at CI
  clear h1 h2 _hn _ha
  obtain ⟨HX, HB0⟩ := bxOne w #[.string n, .int .i64 g, .int .i64 i, .int .i64 t, .string a, .bool v] 45
  have cX := bx6 HX.out
  go_enter Tryz.func63, Tryz.ntmps63
  go_wp2_with fail
  refine (CG.out _).mono ?_
  rintro e wz ⟨rfl, hw⟩
  have hw := hw.symm
  subst hw
  go_wp2_with fail
  refine (CI.out _).mono ?_
  rintro e wz ⟨rfl, hw⟩
  have hw := hw.symm
  subst hw
  go_wp2_with fail
  go_ret
  exact ⟨rfl, HB0.out⟩
theorem ritem_t (n a : ByteArray) (g i t : Int) (v : Bool) (w : World) (_hn : n.size ≤ 1048576) (_ha : a.size ≤ 1048576) (h1 : inB g 0 65535 = true) (h2 : inB i 0 65535 = true) (h3 : ¬ t = 0) (h4 : ¬ t = 1) : Calls Tryz.prog 63 #[.agg #[.string n, .int .i64 g, .int .i64 i, .int .i64 t, .string a, .bool v]] w (Gives (.bool false) w) := by
  have CG := Lib.hid (fun W => rwithin_any g 0 65535 W)
  have CI := Lib.hid (fun W => rwithin_any i 0 65535 W)
  rw [h1] at CG
  rw [h2] at CI
  clear h1 h2
  have q3 : (t == 0) = false := by simpa using h3
  have q4 : (t == 1) = false := by simpa using h4
  clear h3 h4 _hn _ha
  obtain ⟨HX, HB0⟩ := bxOne w #[.string n, .int .i64 g, .int .i64 i, .int .i64 t, .string a, .bool v] 45
  have cX := bx6 HX.out
  go_enter Tryz.func63, Tryz.ntmps63
  go_wp2_with fail
  refine (CG.out _).mono ?_
  rintro e wz ⟨rfl, hw⟩
  have hw := hw.symm
  subst hw
  go_wp2_with fail
  refine (CI.out _).mono ?_
  rintro e wz ⟨rfl, hw⟩
  have hw := hw.symm
  subst hw
  go_wp2_with fail
  go_ret
  exact ⟨rfl, HB0.out⟩
theorem ritem_B0 (n a : ByteArray) (g i : Int) (v : Bool) (w : World) (hn : n.size ≤ 1048576) (_ha : a.size ≤ 1048576) (h1 : inB g 0 65535 = true) (h2 : inB i 0 65535 = true) (h5 : nmB n true = false) : Calls Tryz.prog 63 #[.agg #[.string n, .int .i64 g, .int .i64 i, .int .i64 0, .string a, .bool v]] w (Gives (.bool false) w) := by
  have CG := Lib.hid (fun W => rwithin_any g 0 65535 W)
  have CI := Lib.hid (fun W => rwithin_any i 0 65535 W)
  rw [h1] at CG
  rw [h2] at CI
  clear h1 h2
  have CN := Lib.hid (fun W => risN_any n W hn)
  rw [h5] at CN
  clear h5
  clear hn _ha
  obtain ⟨HX, HB0⟩ := bxOne w #[.string n, .int .i64 g, .int .i64 i, .int .i64 0, .string a, .bool v] 45
  have cX := bx6 HX.out
  go_enter Tryz.func63, Tryz.ntmps63
  go_wp2_with fail
  refine (CG.out _).mono ?_
  rintro e wz ⟨rfl, hw⟩
  have hw := hw.symm
  subst hw
  go_wp2_with fail
  refine (CI.out _).mono ?_
  rintro e wz ⟨rfl, hw⟩
  have hw := hw.symm
  subst hw
  go_wp2_with fail
  refine (CN.out _).mono ?_
  rintro e w1 ⟨rfl, hb⟩
  clear cX
  replace HX := kpB hb HX
  have HB1 := trB HB0 hb
  clear hb
  have cX := bx6 HX.out
  go_wp2_with fail
  go_ret
  exact ⟨rfl, HB1.out⟩
theorem ritem_B1 (n a : ByteArray) (g i : Int) (v : Bool) (w : World) (hn : n.size ≤ 1048576) (ha : a.size ≤ 1048576) (h1 : inB g 0 65535 = true) (h2 : inB i 0 65535 = true) (h5 : nmB n true = true) : Calls Tryz.prog 63 #[.agg #[.string n, .int .i64 g, .int .i64 i, .int .i64 0, .string a, .bool v]] w (Gives (.bool (txB a 64)) w) := by
  have CG := Lib.hid (fun W => rwithin_any g 0 65535 W)
  have CI := Lib.hid (fun W => rwithin_any i 0 65535 W)
  rw [h1] at CG
  rw [h2] at CI
  clear h1 h2
  have CN := Lib.hid (fun W => risN_any n W hn)
  rw [h5] at CN
  clear h5
  have CT := Lib.hid (fun W => rtext14_any a 64 W ha)
  clear hn ha
  generalize txB a 64 = R at CT ⊢
  obtain ⟨HX, HB0⟩ := bxOne w #[.string n, .int .i64 g, .int .i64 i, .int .i64 0, .string a, .bool v] 45
  have cX := bx6 HX.out
  go_enter Tryz.func63, Tryz.ntmps63
  go_wp2_with fail
  refine (CG.out _).mono ?_
  rintro e wz ⟨rfl, hw⟩
  have hw := hw.symm
  subst hw
  go_wp2_with fail
  refine (CI.out _).mono ?_
  rintro e wz ⟨rfl, hw⟩
  have hw := hw.symm
  subst hw
  go_wp2_with fail
  refine (CN.out _).mono ?_
  rintro e w1 ⟨rfl, hb⟩
  clear cX
  replace HX := kpB hb HX
  have HB1 := trB HB0 hb
  clear hb
  have cX := bx6 HX.out
  go_wp2_with fail
  refine (CT.out _).mono ?_
  rintro e w2 ⟨rfl, hb⟩
  clear cX
  replace HX := kpB hb HX
  have HB2 := trB HB1 hb
  clear hb
  have cX := bx6 HX.out
  go_wp2_with fail
  go_ret
  exact ⟨rfl, HB2.out⟩
theorem ritem_G0 (n a : ByteArray) (g i : Int) (v : Bool) (w : World) (hn : n.size ≤ 1048576) (_ha : a.size ≤ 1048576) (h1 : inB g 0 65535 = true) (h2 : inB i 0 65535 = true) (h5 : txB n 64 = false) : Calls Tryz.prog 63 #[.agg #[.string n, .int .i64 g, .int .i64 i, .int .i64 1, .string a, .bool v]] w (Gives (.bool false) w) := by
  have CG := Lib.hid (fun W => rwithin_any g 0 65535 W)
  have CI := Lib.hid (fun W => rwithin_any i 0 65535 W)
  rw [h1] at CG
  rw [h2] at CI
  clear h1 h2
  have CN := Lib.hid (fun W => rtext14_any n 64 W hn)
  rw [h5] at CN
  clear h5
  clear hn _ha
  obtain ⟨HX, HB0⟩ := bxOne w #[.string n, .int .i64 g, .int .i64 i, .int .i64 1, .string a, .bool v] 45
  have cX := bx6 HX.out
  go_enter Tryz.func63, Tryz.ntmps63
  go_wp2_with fail
  refine (CG.out _).mono ?_
  rintro e wz ⟨rfl, hw⟩
  have hw := hw.symm
  subst hw
  go_wp2_with fail
  refine (CI.out _).mono ?_
  rintro e wz ⟨rfl, hw⟩
  have hw := hw.symm
  subst hw
  go_wp2_with fail
  refine (CN.out _).mono ?_
  rintro e w1 ⟨rfl, hb⟩
  clear cX
  replace HX := kpB hb HX
  have HB1 := trB HB0 hb
  clear hb
  have cX := bx6 HX.out
  go_wp2_with fail
  go_ret
  exact ⟨rfl, HB1.out⟩
theorem ritem_G10 (n a : ByteArray) (g i : Int) (v : Bool) (w : World) (hn : n.size ≤ 1048576) (_ha : a.size ≤ 1048576) (h1 : inB g 0 65535 = true) (h2 : inB i 0 65535 = true) (h5 : txB n 64 = true) (h6 : ¬ a.size = 0) : Calls Tryz.prog 63 #[.agg #[.string n, .int .i64 g, .int .i64 i, .int .i64 1, .string a, .bool v]] w (Gives (.bool false) w) := by
  have CG := Lib.hid (fun W => rwithin_any g 0 65535 W)
  have CI := Lib.hid (fun W => rwithin_any i 0 65535 W)
  rw [h1] at CG
  rw [h2] at CI
  clear h1 h2
  have CN := Lib.hid (fun W => rtext14_any n 64 W hn)
  rw [h5] at CN
  clear h5
  have hne := By.nonempty h6
  clear h6 hn _ha
  obtain ⟨HX, HB0⟩ := bxOne w #[.string n, .int .i64 g, .int .i64 i, .int .i64 1, .string a, .bool v] 45
  have cX := bx6 HX.out
  go_enter Tryz.func63, Tryz.ntmps63
  go_wp2_with fail
  refine (CG.out _).mono ?_
  rintro e wz ⟨rfl, hw⟩
  have hw := hw.symm
  subst hw
  go_wp2_with fail
  refine (CI.out _).mono ?_
  rintro e wz ⟨rfl, hw⟩
  have hw := hw.symm
  subst hw
  go_wp2_with fail
  refine (CN.out _).mono ?_
  rintro e w1 ⟨rfl, hb⟩
  clear cX
  replace HX := kpB hb HX
  have HB1 := trB HB0 hb
  clear hb
  have cX := bx6 HX.out
  go_wp2_with fail
  go_ret
  exact ⟨rfl, HB1.out⟩
theorem ritem_G110 (n : ByteArray) (g i : Int) (w : World) (hn : n.size ≤ 1048576) (h1 : inB g 0 65535 = true) (h2 : inB i 0 65535 = true) (h5 : txB n 64 = true) : Calls Tryz.prog 63 #[.agg #[.string n, .int .i64 g, .int .i64 i, .int .i64 1, .string ⟨#[]⟩, .bool false]] w (Gives (.bool true) w) := by
  have CG := Lib.hid (fun W => rwithin_any g 0 65535 W)
  have CI := Lib.hid (fun W => rwithin_any i 0 65535 W)
  rw [h1] at CG
  rw [h2] at CI
  clear h1 h2
  have CN := Lib.hid (fun W => rtext14_any n 64 W hn)
  rw [h5] at CN
  clear h5
  clear hn
  obtain ⟨HX, HB0⟩ := bxOne w #[.string n, .int .i64 g, .int .i64 i, .int .i64 1, .string ⟨#[]⟩, .bool false] 45
  have cX := bx6 HX.out
  go_enter Tryz.func63, Tryz.ntmps63
  go_wp2_with fail
  refine (CG.out _).mono ?_
  rintro e wz ⟨rfl, hw⟩
  have hw := hw.symm
  subst hw
  go_wp2_with fail
  refine (CI.out _).mono ?_
  rintro e wz ⟨rfl, hw⟩
  have hw := hw.symm
  subst hw
  go_wp2_with fail
  refine (CN.out _).mono ?_
  rintro e w1 ⟨rfl, hb⟩
  clear cX
  replace HX := kpB hb HX
  have HB1 := trB HB0 hb
  clear hb
  have cX := bx6 HX.out
  go_wp2_with fail
  go_ret
  exact ⟨rfl, HB1.out⟩
theorem ritem_G111 (n : ByteArray) (g i : Int) (w : World) (hn : n.size ≤ 1048576) (h1 : inB g 0 65535 = true) (h2 : inB i 0 65535 = true) (h5 : txB n 64 = true) : Calls Tryz.prog 63 #[.agg #[.string n, .int .i64 g, .int .i64 i, .int .i64 1, .string ⟨#[]⟩, .bool true]] w (Gives (.bool false) w) := by
  have CG := Lib.hid (fun W => rwithin_any g 0 65535 W)
  have CI := Lib.hid (fun W => rwithin_any i 0 65535 W)
  rw [h1] at CG
  rw [h2] at CI
  clear h1 h2
  have CN := Lib.hid (fun W => rtext14_any n 64 W hn)
  rw [h5] at CN
  clear h5
  clear hn
  obtain ⟨HX, HB0⟩ := bxOne w #[.string n, .int .i64 g, .int .i64 i, .int .i64 1, .string ⟨#[]⟩, .bool true] 45
  have cX := bx6 HX.out
  go_enter Tryz.func63, Tryz.ntmps63
  go_wp2_with fail
  refine (CG.out _).mono ?_
  rintro e wz ⟨rfl, hw⟩
  have hw := hw.symm
  subst hw
  go_wp2_with fail
  refine (CI.out _).mono ?_
  rintro e wz ⟨rfl, hw⟩
  have hw := hw.symm
  subst hw
  go_wp2_with fail
  refine (CN.out _).mono ?_
  rintro e w1 ⟨rfl, hb⟩
  clear cX
  replace HX := kpB hb HX
  have HB1 := trB HB0 hb
  clear hb
  have cX := bx6 HX.out
  go_wp2_with fail
  go_ret
  exact ⟨rfl, HB1.out⟩
theorem ritem_any (x : It) (w : World) (hn : x.n.size ≤ 1048576) (ha : x.a.size ≤ 1048576) : Calls Tryz.prog 63 #[.agg #[.string x.n, .int .i64 x.g, .int .i64 x.i, .int .i64 x.t, .string x.a, .bool x.w]] w (Gives (.bool (itB x)) w) := by
  unfold itB
  cases x with | mk n g i t a v =>
  simp only at hn ha ⊢
  cases h1 : inB g 0 65535
  · exact ritem_g n a g i t v w hn ha h1
  cases h2 : inB i 0 65535
  · exact ritem_i n a g i t v w hn ha h1 h2
  by_cases h3 : t = 0
  · subst h3
    rw [if_pos rfl]
    have e : isN n = nmB n true := rfl
    rw [e]
    cases h5 : nmB n true
    · exact ritem_B0 n a g i v w hn ha h1 h2 h5
    · exact ritem_B1 n a g i v w hn ha h1 h2 h5
  · rw [if_neg h3]
    by_cases h4 : t = 1
    · subst h4
      rw [if_pos rfl]
      cases h5 : txB n 64
      · exact ritem_G0 n a g i v w hn ha h1 h2 h5
      · by_cases h6 : a.size = 0
        · rw [decide_eq_true h6]
          obtain rfl := By.empty_of h6
          cases v
          · exact ritem_G110 n g i w hn h1 h2 h5
          · exact ritem_G111 n g i w hn h1 h2 h5
        · rw [decide_eq_false h6]
          exact ritem_G10 n a g i v w hn ha h1 h2 h5 h6
    · rw [if_neg h4]
      exact ritem_t n a g i t v w hn ha h1 h2 h3 h4
theorem rcodes_any (l : List Int) (a : Option Addr) (c : Nat) (w : World) (hL : CdS w a l) (hn : l.length ≤ 1000000) : Calls Tryz.prog 33 #[.slice a l.length c] w (Gives (.bool (inB l.length 1 100 && (l.all fun c => inB c 0 65535))) w) := by
  have HL := Lib.hid fun W (hb : Below w.heap.size w W) => hL.below hb
  clear hL
  unfold inB
  by_cases h1 : (1 : Int) ≤ l.length
  · by_cases h2 : (l.length : Int) ≤ 100
    · rw [decide_eq_true h1, decide_eq_true h2, Bool.true_and, Bool.true_and]
      have q1 : ¬ ((l.length : Int) < 1) := by omega
      have q2 : ¬ ((100 : Int) < l.length) := by omega
      have HA : Hid (∀ i (h : i < l.length), inB l[i] 0 65535 = false → (l.all fun c => inB c 0 65535) = false) := fun i h e => by
        rw [Bool.eq_false_iff]
        intro q
        rw [List.all_eq_true] at q
        have := q _ (List.getElem_mem h)
        rw [e] at this
        cases this
      have HY : Hid ((∀ i (h : i < l.length), inB l[i] 0 65535 = true) → (l.all fun c => inB c 0 65535) = true) := fun h => by
        rw [List.all_eq_true]
        intro x hx
        obtain ⟨i, hi, rfl⟩ := List.getElem_of_mem hx
        exact h i hi
      change Calls _ _ _ _ (Gives (.bool (l.all fun c => inB c 0 65535)) w)
      generalize (l.all fun c => inB c 0 65535) = R at HA HY ⊢
      clear h1 h2
      go_enter Tryz.func33, Tryz.ntmps33
      go_wp2_with fail
      go_loopw [3] (fun i wr => ∃ j : Nat, i = .int .i64 j ∧ j ≤ l.length ∧ Hid (Below w.heap.size w wr) ∧ Hid (∀ i (h : i < l.length), i < j → inB l[i] 0 65535 = true)) (fun i _ => l.length - (RowKit.intOf i).toNat)
      case atStart => exact ⟨0, rfl, Nat.zero_le _, Below.refl _ _, fun i _ h => absurd h (Nat.not_lt_zero _)⟩
      case round =>
        obtain ⟨j, rfl, hj, HW, HN⟩ := hrel
        by_cases hlt : j < l.length
        · obtain ⟨b, p, rfl, c0⟩ := HL.out _ HW.out j hlt
          have HAj := Lib.hid (HA.out j hlt)
          have HNj : Hid (inB l[j] 0 65535 = true → ∀ i (h : i < l.length), i < j + 1 → inB l[i] 0 65535 = true) := fun e i h h2 => by
            by_cases h3 : i < j
            · exact HN.out i h h3
            · obtain rfl : i = j := by omega
              exact e
          have C := Lib.hid (fun W => rwithin_any l[j] 0 65535 W)
          generalize inB l[j] 0 65535 = q at HAj HNj C
          generalize l[j] = y at c0 C
          cases q
          · have e9 := HAj.out rfl
            subst e9
            clear HA HY HAj HNj HN HL
            go_wp2_with fail
            refine (C.out _).mono ?_
            rintro e wz ⟨rfl, hw⟩
            have hw := hw.symm
            subst hw
            have HB := Lib.hid HW.out
            clear HW
            go_wp2_with fail
            go_ret
            exact ⟨rfl, HB.out⟩
          · have HN2 := Lib.hid (HNj.out rfl)
            clear HAj HNj HN HL
            go_wp2_with fail
            refine (C.out _).mono ?_
            rintro e wz ⟨rfl, hw⟩
            have hw := hw.symm
            subst hw
            have HB := Lib.hid HW.out
            clear HW
            go_wp2_with fail
            exact ⟨⟨j + 1, by go_num, by omega, HB.out, HN2.out⟩, by simp [RowKit.intOf]; omega⟩
        · obtain rfl : j = l.length := by omega
          have e9 := HY.out fun i h => HN.out i h h
          subst e9
          clear HA HY HN HL
          go_wp2_with fail
          go_ret
          exact ⟨rfl, HW.out⟩
    · rw [decide_eq_false h2, Bool.and_false, Bool.false_and]
      have q1 : ¬ ((l.length : Int) < 1) := by omega
      have q2 : ((100 : Int) < l.length) := by omega
      clear h1 h2 HL
      go_enter Tryz.func33, Tryz.ntmps33
      go_wp2_with fail
      go_ret
      exact ⟨rfl, Below.refl _ _⟩
  · rw [decide_eq_false h1, Bool.false_and, Bool.false_and]
    have q1 : ((l.length : Int) < 1) := by omega
    clear h1 HL
    go_enter Tryz.func33, Tryz.ntmps33
    go_wp2_with fail
    go_ret
    exact ⟨rfl, Below.refl _ _⟩
theorem ritems_any (l : List It) (a : Option Addr) (c : Nat) (lo : Int) (w : World) (hL : ItS w a l) (hn : l.length ≤ 1000000) (hz : ∀ y ∈ l, y.n.size ≤ 1048576 ∧ y.a.size ≤ 1048576) : Calls Tryz.prog 32 #[.slice a l.length c, .int .i64 lo] w (Gives (.bool (inB l.length lo 100 && (l.all itB))) w) := by
  have HL := Lib.hid fun W (hb : Below w.heap.size w W) => hL.below hb
  have HZ := Lib.hid hz
  clear hL hz
  unfold inB
  by_cases h1 : (lo : Int) ≤ l.length
  · by_cases h2 : (l.length : Int) ≤ 100
    · rw [decide_eq_true h1, decide_eq_true h2, Bool.true_and, Bool.true_and]
      have q1 : ¬ ((l.length : Int) < lo) := by omega
      have q2 : ¬ ((100 : Int) < l.length) := by omega
      have HA : Hid (∀ i (h : i < l.length), itB l[i] = false → (l.all itB) = false) := fun i h e => by
        rw [Bool.eq_false_iff]
        intro q
        rw [List.all_eq_true] at q
        have := q _ (List.getElem_mem h)
        rw [e] at this
        cases this
      have HY : Hid ((∀ i (h : i < l.length), itB l[i] = true) → (l.all itB) = true) := fun h => by
        rw [List.all_eq_true]
        intro x hx
        obtain ⟨i, hi, rfl⟩ := List.getElem_of_mem hx
        exact h i hi
      change Calls _ _ _ _ (Gives (.bool (l.all itB)) w)
      generalize (l.all itB) = R at HA HY ⊢
      clear h1 h2
      go_enter Tryz.func32, Tryz.ntmps32
      go_wp2_with fail
      go_loopw [5] (fun i wr => ∃ j : Nat, i = .int .i64 j ∧ j ≤ l.length ∧ Hid (Below w.heap.size w wr) ∧ Hid (∀ i (h : i < l.length), i < j → itB l[i] = true)) (fun i _ => l.length - (RowKit.intOf i).toNat)
      case atStart => exact ⟨0, rfl, Nat.zero_le _, Below.refl _ _, fun i _ h => absurd h (Nat.not_lt_zero _)⟩
      case round =>
        obtain ⟨j, rfl, hj, HW, HN⟩ := hrel
        by_cases hlt : j < l.length
        · obtain ⟨b, p, rfl, c0, c1, c2, c3, c4, c5⟩ := HL.out _ HW.out j hlt
          have HAj := Lib.hid (HA.out j hlt)
          have HNj : Hid (itB l[j] = true → ∀ i (h : i < l.length), i < j + 1 → itB l[i] = true) := fun e i h h2 => by
            by_cases h3 : i < j
            · exact HN.out i h h3
            · obtain rfl : i = j := by omega
              exact e
          have C := Lib.hid (fun W => ritem_any l[j] W (HZ.out _ (List.getElem_mem hlt)).1 (HZ.out _ (List.getElem_mem hlt)).2)
          generalize itB l[j] = q at HAj HNj C
          generalize l[j] = y at c0 c1 c2 c3 c4 c5 C
          cases q
          · have e9 := HAj.out rfl
            subst e9
            clear HA HY HAj HNj HN HL HZ
            go_wp2_with fail
            refine (C.out _).mono ?_
            rintro e w1 ⟨rfl, hb⟩
            have HB := trB HW hb
            clear hb
            clear HW
            go_wp2_with fail
            go_ret
            exact ⟨rfl, HB.out⟩
          · have HN2 := Lib.hid (HNj.out rfl)
            clear HAj HNj HN HL HZ
            go_wp2_with fail
            refine (C.out _).mono ?_
            rintro e w1 ⟨rfl, hb⟩
            have HB := trB HW hb
            clear hb
            clear HW
            go_wp2_with fail
            exact ⟨⟨j + 1, by go_num, by omega, HB.out, HN2.out⟩, by simp [RowKit.intOf]; omega⟩
        · obtain rfl : j = l.length := by omega
          have e9 := HY.out fun i h => HN.out i h h
          subst e9
          clear HA HY HN HL HZ
          go_wp2_with fail
          go_ret
          exact ⟨rfl, HW.out⟩
    · rw [decide_eq_false h2, Bool.and_false, Bool.false_and]
      have q1 : ¬ ((l.length : Int) < lo) := by omega
      have q2 : ((100 : Int) < l.length) := by omega
      clear h1 h2 HL HZ
      go_enter Tryz.func32, Tryz.ntmps32
      go_wp2_with fail
      go_ret
      exact ⟨rfl, Below.refl _ _⟩
  · rw [decide_eq_false h1, Bool.false_and, Bool.false_and]
    have q1 : ((l.length : Int) < lo) := by omega
    clear h1 HL HZ
    go_enter Tryz.func32, Tryz.ntmps32
    go_wp2_with fail
    go_ret
    exact ⟨rfl, Below.refl _ _⟩
end Go.Proofs.YtiodjaeonoheiaaGreatDoor.T
