/- Contracts: Check of package legacy, and what it calls, whatever the note. Conditions: those of each theorem's head. -/
import Derived.Test.YtdmbngkkbgmlfaaGreatDoorS4
import Derived.Test.YtdmbngkkbgmlfaaGreatDoorAe
namespace Go.Proofs.YtdmbngkkbgmlfaaGreatDoor.T
open Go.RowKit Go.Lib

set_option maxRecDepth 100000 in
set_option maxHeartbeats 8000000 in
theorem isIn_any (n lo hi : Int) (w : World) : Calls Tryz.prog 58 #[.int .i64 n, .int .i64 lo, .int .i64 hi] w (Pure (.bool (inB n lo hi)) w) := by
  unfold inB
  by_cases h1 : lo ≤ n
  · by_cases h2 : n ≤ hi
    · rw [decide_eq_true h1, decide_eq_true h2]
      have q1 : decide (lo ≤ n) = true := decide_eq_true h1
      have q2 : decide (n ≤ hi) = true := decide_eq_true h2
      go_enter Tryz.func58, Tryz.ntmps58
      go_wp2_with fail
      go_ret
      exact ⟨rfl, rfl⟩
    · rw [decide_eq_true h1, decide_eq_false h2]
      have q1 : decide (lo ≤ n) = true := decide_eq_true h1
      have q2 : decide (n ≤ hi) = false := decide_eq_false h2
      go_enter Tryz.func58, Tryz.ntmps58
      go_wp2_with fail
      go_ret
      exact ⟨rfl, rfl⟩
  · rw [decide_eq_false h1, Bool.false_and]
    have q1 : decide (lo ≤ n) = false := decide_eq_false h1
    go_enter Tryz.func58, Tryz.ntmps58
    go_wp2_with fail
    go_ret
    exact ⟨rfl, rfl⟩
set_option maxRecDepth 100000 in
set_option maxHeartbeats 8000000 in
theorem isIn64_any (n lo hi : Int) (w : World) : Calls Tryz.prog 59 #[.int .i64 n, .int .i64 lo, .int .i64 hi] w (Pure (.bool (inB n lo hi)) w) := by
  unfold inB
  by_cases h1 : lo ≤ n
  · by_cases h2 : n ≤ hi
    · rw [decide_eq_true h1, decide_eq_true h2]
      have q1 : decide (lo ≤ n) = true := decide_eq_true h1
      have q2 : decide (n ≤ hi) = true := decide_eq_true h2
      go_enter Tryz.func59, Tryz.ntmps59
      go_wp2_with fail
      go_ret
      exact ⟨rfl, rfl⟩
    · rw [decide_eq_true h1, decide_eq_false h2]
      have q1 : decide (lo ≤ n) = true := decide_eq_true h1
      have q2 : decide (n ≤ hi) = false := decide_eq_false h2
      go_enter Tryz.func59, Tryz.ntmps59
      go_wp2_with fail
      go_ret
      exact ⟨rfl, rfl⟩
  · rw [decide_eq_false h1, Bool.false_and]
    have q1 : decide (lo ≤ n) = false := decide_eq_false h1
    go_enter Tryz.func59, Tryz.ntmps59
    go_wp2_with fail
    go_ret
    exact ⟨rfl, rfl⟩
set_option maxRecDepth 100000 in
set_option maxHeartbeats 8000000 in
theorem isName_any (s : ByteArray) (b : Bool) (w : World) (hs : s.size ≤ 1048576) : Calls Tryz.prog 56 #[.string s, .bool b] w (Gives (.bool (nmB s b)) w) := by
  unfold nmB
  cases b
  · rw [if_neg (by decide)]
    by_cases h0 : s.size = 0
    · rw [decide_eq_true h0]
      obtain rfl := By.empty_of h0
      clear h0 hs
      go_enter Tryz.func56, Tryz.ntmps56
      go_wp2_with fail
      go_ret
      exact ⟨rfl, Below.refl _ _⟩
    · rw [decide_eq_false h0]
      have hne := By.nonempty h0
      clear h0 hs
      go_enter Tryz.func56, Tryz.ntmps56
      go_wp2_with fail
      go_ret
      exact ⟨rfl, Below.refl _ _⟩
  · rw [if_pos rfl]
    have C := Lib.hid (hcheck_any s w hs)
    unfold isN
    generalize Hd.nm s.data.toList = q at C ⊢
    cases q
    · rw [show hcd false = 40 from rfl] at C
      clear hs
      go_enter Tryz.func56, Tryz.ntmps56
      go_wp2_with fail
      refine C.out.mono ?_
      rintro e w1 ⟨rfl, hb⟩
      have HB := Lib.hid hb
      clear hb
      go_wp2_with fail
      go_ret
      exact ⟨rfl, HB.out⟩
    · rw [show hcd true = 0 from rfl] at C
      clear hs
      go_enter Tryz.func56, Tryz.ntmps56
      go_wp2_with fail
      refine C.out.mono ?_
      rintro e w1 ⟨rfl, hb⟩
      have HB := Lib.hid hb
      clear hb
      go_wp2_with fail
      go_ret
      exact ⟨rfl, HB.out⟩
set_option maxRecDepth 100000 in
set_option maxHeartbeats 8000000 in
theorem isText_any (s : ByteArray) (m : Int) (w : World) (hs : s.size ≤ 1048576) : Calls Tryz.prog 57 #[.string s, .int .i64 m] w (Gives (.bool (txB s m)) w) := by
  unfold txB
  by_cases h1 : (s.size : Int) ≤ m
  · rw [decide_eq_true h1, Bool.true_and]
    have q1 : decide ((s.size : Int) ≤ m) = true := decide_eq_true h1
    cases ht : isT s
    · have C := Lib.hid (check_no s w hs (isT_not.1 ht))
      clear hs ht
      go_enter Tryz.func57, Tryz.ntmps57
      go_wp2_with fail
      refine C.out.mono ?_
      rintro e w1 ⟨rfl, hb⟩
      have HB := Lib.hid hb
      clear hb
      go_wp2_with fail
      go_ret
      exact ⟨rfl, HB.out⟩
    · obtain ⟨cs, hcs⟩ := isT_iff.1 ht
      have C := Lib.hid (check_yes s w hs hcs)
      clear hs ht hcs
      go_enter Tryz.func57, Tryz.ntmps57
      go_wp2_with fail
      refine C.out.mono ?_
      rintro e w1 ⟨rfl, hb⟩
      have HB := Lib.hid hb
      clear hb
      go_wp2_with fail
      go_ret
      exact ⟨rfl, HB.out⟩
  · rw [decide_eq_false h1, Bool.false_and]
    have q1 : decide ((s.size : Int) ≤ m) = false := decide_eq_false h1
    clear hs
    go_enter Tryz.func57, Tryz.ntmps57
    go_wp2_with fail
    go_ret
    exact ⟨rfl, Below.refl _ _⟩
set_option maxRecDepth 100000 in
set_option maxHeartbeats 8000000 in
theorem areShort_any (l : List Int) (a : Option Addr) (c : Nat) (w : World) (hL : CdS w a l) (hn : l.length ≤ 1000000) : Calls Tryz.prog 61 #[.slice a l.length c] w (Pure (.bool (l.all fun c => inB c 0 65535)) w) := by
  have HL := Lib.hid hL
  have HA : Hid (∀ i (h : i < l.length), inB l[i] 0 65535 = false → (l.all fun c => inB c 0 65535) = false) := fun i h e => by
    rw [Bool.eq_false_iff]
    intro q
    rw [List.all_eq_true] at q
    have := q _ (List.getElem_mem h)
    rw [e] at this
    cases this
  have HY : Hid ((∀ i (h : i < l.length), inB l[i] 0 65535 = true) → (l.all fun c => inB c 0 65535) = true) := fun h => by
    rw [List.all_eq_true]
    intro x hx
    obtain ⟨i, hi, rfl⟩ := List.getElem_of_mem hx
    exact h i hi
  generalize (l.all fun c => inB c 0 65535) = R at HA HY ⊢
  clear hL
  go_enter Tryz.func61, Tryz.ntmps61
  go_wp2_with fail
  go_loopw [7] (fun i wr => ∃ j : Nat, i = .int .i64 j ∧ j ≤ l.length ∧ wr = w ∧ Hid (∀ i (h : i < l.length), i < j → inB l[i] 0 65535 = true)) (fun i _ => l.length - (RowKit.intOf i).toNat)
  case atStart => exact ⟨0, rfl, Nat.zero_le _, rfl, fun i _ h => absurd h (Nat.not_lt_zero _)⟩
  case round =>
    obtain ⟨j, rfl, hj, rfl, HN⟩ := hrel
    by_cases hlt : j < l.length
    · obtain ⟨b, p, rfl, c0⟩ := HL.out j hlt
      have HAj := Lib.hid (HA.out j hlt)
      have HNj : Hid (inB l[j] 0 65535 = true → ∀ i (h : i < l.length), i < j + 1 → inB l[i] 0 65535 = true) := fun e i h h2 => by
        by_cases h3 : i < j
        · exact HN.out i h h3
        · obtain rfl : i = j := by omega
          exact e
      have C := Lib.hid (fun W => isIn_any l[j] 0 65535 W)
      generalize inB l[j] 0 65535 = q at HAj HNj C
      generalize l[j] = y at c0 C
      cases q
      · have e9 := HAj.out rfl
        subst e9
        clear HA HY HAj HNj
        go_wp2_with fail
        refine (C.out _).mono ?_
        rintro e wz ⟨rfl, hw⟩
        have hw := hw.symm
        subst hw
        go_wp2_with fail
        go_ret
        exact ⟨rfl, rfl⟩
      · have HN2 := Lib.hid (HNj.out rfl)
        clear HAj HNj HN
        go_wp2_with fail
        refine (C.out _).mono ?_
        rintro e wz ⟨rfl, hw⟩
        have hw := hw.symm
        subst hw
        go_wp2_with fail
        exact ⟨⟨j + 1, by go_num, by omega, trivial, HN2.out⟩, by simp [RowKit.intOf]; omega⟩
    · obtain rfl : j = l.length := by omega
      have e9 := HY.out fun i h => HN.out i h h
      subst e9
      clear HA HY HN
      go_wp2_with fail
      go_ret
      exact ⟨rfl, rfl⟩
set_option maxRecDepth 100000 in
set_option maxHeartbeats 8000000 in
theorem item_g (n a : ByteArray) (g i t : Int) (v : Bool) (w : World) (_hn : n.size ≤ 1048576) (_ha : a.size ≤ 1048576) (h1 : inB g 0 65535 = false) : Calls Tryz.prog 72 #[.agg #[.string n, .int .i64 g, .int .i64 i, .int .i64 t, .string a, .bool v]] w (Gives (.bool false) w) := by
  have CG := Lib.hid (fun W => isIn_any g 0 65535 W)
  have CI := Lib.hid (fun W => isIn_any i 0 65535 W)
  rw [h1] at CG
  clear h1 _hn _ha
  have HX := Lib.hid (box_new w #[.string n, .int .i64 g, .int .i64 i, .int .i64 t, .string a, .bool v] 26)
  have HB0 : Hid (Below w.heap.size w (w.alloc (.cells #[.string n, .int .i64 g, .int .i64 i, .int .i64 t, .string a, .bool v] 26))) := (Below.refl _ w).alloc (Nat.le_refl _) _
  obtain ⟨c0, c1, c2, c3, c4, c5⟩ := bx6 HX.out
  go_enter Tryz.func72, Tryz.ntmps72
  go_wp2_with fail
  refine (CG.out _).mono ?_
  rintro e wz ⟨rfl, hw⟩
  have hw := hw.symm
  subst hw
  go_wp2_with fail
  go_ret
  exact ⟨rfl, HB0.out⟩
set_option maxRecDepth 100000 in
set_option maxHeartbeats 8000000 in
theorem item_i (n a : ByteArray) (g i t : Int) (v : Bool) (w : World) (_hn : n.size ≤ 1048576) (_ha : a.size ≤ 1048576) (h1 : inB g 0 65535 = true) (h2 : inB i 0 65535 = false) : Calls Tryz.prog 72 #[.agg #[.string n, .int .i64 g, .int .i64 i, .int .i64 t, .string a, .bool v]] w (Gives (.bool false) w) := by
  have CG := Lib.hid (fun W => isIn_any g 0 65535 W)
  have CI := Lib.hid (fun W => isIn_any i 0 65535 W)
  rw [h1] at CG
  rw [h2] at CI
  clear h1 h2 _hn _ha
  have HX := Lib.hid (box_new w #[.string n, .int .i64 g, .int .i64 i, .int .i64 t, .string a, .bool v] 26)
  have HB0 : Hid (Below w.heap.size w (w.alloc (.cells #[.string n, .int .i64 g, .int .i64 i, .int .i64 t, .string a, .bool v] 26))) := (Below.refl _ w).alloc (Nat.le_refl _) _
  obtain ⟨c0, c1, c2, c3, c4, c5⟩ := bx6 HX.out
  go_enter Tryz.func72, Tryz.ntmps72
  go_wp2_with fail
  refine (CG.out _).mono ?_
  rintro e wz ⟨rfl, hw⟩
  have hw := hw.symm
  subst hw
  go_wp2_with fail
  refine (CI.out _).mono ?_
  rintro e wz ⟨rfl, hw⟩
  have hw := hw.symm
  subst hw
  go_wp2_with fail
  go_ret
  exact ⟨rfl, HB0.out⟩
set_option maxRecDepth 100000 in
set_option maxHeartbeats 8000000 in
theorem item_t (n a : ByteArray) (g i t : Int) (v : Bool) (w : World) (_hn : n.size ≤ 1048576) (_ha : a.size ≤ 1048576) (h1 : inB g 0 65535 = true) (h2 : inB i 0 65535 = true) (h3 : ¬ t = 0) (h4 : ¬ t = 1) : Calls Tryz.prog 72 #[.agg #[.string n, .int .i64 g, .int .i64 i, .int .i64 t, .string a, .bool v]] w (Gives (.bool false) w) := by
  have CG := Lib.hid (fun W => isIn_any g 0 65535 W)
  have CI := Lib.hid (fun W => isIn_any i 0 65535 W)
  rw [h1] at CG
  rw [h2] at CI
  clear h1 h2
  have q3 : (t == 0) = false := by simpa using h3
  have q4 : (t == 1) = false := by simpa using h4
  clear h3 h4 _hn _ha
  have HX := Lib.hid (box_new w #[.string n, .int .i64 g, .int .i64 i, .int .i64 t, .string a, .bool v] 26)
  have HB0 : Hid (Below w.heap.size w (w.alloc (.cells #[.string n, .int .i64 g, .int .i64 i, .int .i64 t, .string a, .bool v] 26))) := (Below.refl _ w).alloc (Nat.le_refl _) _
  obtain ⟨c0, c1, c2, c3, c4, c5⟩ := bx6 HX.out
  go_enter Tryz.func72, Tryz.ntmps72
  go_wp2_with fail
  refine (CG.out _).mono ?_
  rintro e wz ⟨rfl, hw⟩
  have hw := hw.symm
  subst hw
  go_wp2_with fail
  refine (CI.out _).mono ?_
  rintro e wz ⟨rfl, hw⟩
  have hw := hw.symm
  subst hw
  go_wp2_with fail
  go_ret
  exact ⟨rfl, HB0.out⟩
set_option maxRecDepth 100000 in
set_option maxHeartbeats 8000000 in
theorem item_B0 (n a : ByteArray) (g i : Int) (v : Bool) (w : World) (hn : n.size ≤ 1048576) (_ha : a.size ≤ 1048576) (h1 : inB g 0 65535 = true) (h2 : inB i 0 65535 = true) (h5 : nmB n true = false) : Calls Tryz.prog 72 #[.agg #[.string n, .int .i64 g, .int .i64 i, .int .i64 0, .string a, .bool v]] w (Gives (.bool false) w) := by
  have CG := Lib.hid (fun W => isIn_any g 0 65535 W)
  have CI := Lib.hid (fun W => isIn_any i 0 65535 W)
  rw [h1] at CG
  rw [h2] at CI
  clear h1 h2
  have CN := Lib.hid (fun W => isName_any n true W hn)
  rw [h5] at CN
  clear h5
  clear hn _ha
  have HX := Lib.hid (box_new w #[.string n, .int .i64 g, .int .i64 i, .int .i64 0, .string a, .bool v] 26)
  have HB0 : Hid (Below w.heap.size w (w.alloc (.cells #[.string n, .int .i64 g, .int .i64 i, .int .i64 0, .string a, .bool v] 26))) := (Below.refl _ w).alloc (Nat.le_refl _) _
  obtain ⟨c0, c1, c2, c3, c4, c5⟩ := bx6 HX.out
  go_enter Tryz.func72, Tryz.ntmps72
  go_wp2_with fail
  refine (CG.out _).mono ?_
  rintro e wz ⟨rfl, hw⟩
  have hw := hw.symm
  subst hw
  go_wp2_with fail
  refine (CI.out _).mono ?_
  rintro e wz ⟨rfl, hw⟩
  have hw := hw.symm
  subst hw
  go_wp2_with fail
  refine (CN.out _).mono ?_
  rintro e w1 ⟨rfl, hb⟩
  clear c0 c1 c2 c3 c4 c5
  have HX' := Lib.hid ((hb.block _ (heap_lt HX.out)).trans HX.out)
  clear HX
  have HX := HX'
  clear HX'
  have HB1 := Lib.hid (HB0.out.trans (hb.mono HB0.out.size))
  clear hb
  obtain ⟨c0, c1, c2, c3, c4, c5⟩ := bx6 HX.out
  go_wp2_with fail
  go_ret
  exact ⟨rfl, HB1.out⟩
set_option maxRecDepth 100000 in
set_option maxHeartbeats 8000000 in
theorem item_B1 (n a : ByteArray) (g i : Int) (v : Bool) (w : World) (hn : n.size ≤ 1048576) (ha : a.size ≤ 1048576) (h1 : inB g 0 65535 = true) (h2 : inB i 0 65535 = true) (h5 : nmB n true = true) : Calls Tryz.prog 72 #[.agg #[.string n, .int .i64 g, .int .i64 i, .int .i64 0, .string a, .bool v]] w (Gives (.bool (txB a 64)) w) := by
  have CG := Lib.hid (fun W => isIn_any g 0 65535 W)
  have CI := Lib.hid (fun W => isIn_any i 0 65535 W)
  rw [h1] at CG
  rw [h2] at CI
  clear h1 h2
  have CN := Lib.hid (fun W => isName_any n true W hn)
  rw [h5] at CN
  clear h5
  have CT := Lib.hid (fun W => isText_any a 64 W ha)
  clear hn ha
  generalize txB a 64 = R at CT ⊢
  have HX := Lib.hid (box_new w #[.string n, .int .i64 g, .int .i64 i, .int .i64 0, .string a, .bool v] 26)
  have HB0 : Hid (Below w.heap.size w (w.alloc (.cells #[.string n, .int .i64 g, .int .i64 i, .int .i64 0, .string a, .bool v] 26))) := (Below.refl _ w).alloc (Nat.le_refl _) _
  obtain ⟨c0, c1, c2, c3, c4, c5⟩ := bx6 HX.out
  go_enter Tryz.func72, Tryz.ntmps72
  go_wp2_with fail
  refine (CG.out _).mono ?_
  rintro e wz ⟨rfl, hw⟩
  have hw := hw.symm
  subst hw
  go_wp2_with fail
  refine (CI.out _).mono ?_
  rintro e wz ⟨rfl, hw⟩
  have hw := hw.symm
  subst hw
  go_wp2_with fail
  refine (CN.out _).mono ?_
  rintro e w1 ⟨rfl, hb⟩
  clear c0 c1 c2 c3 c4 c5
  have HX' := Lib.hid ((hb.block _ (heap_lt HX.out)).trans HX.out)
  clear HX
  have HX := HX'
  clear HX'
  have HB1 := Lib.hid (HB0.out.trans (hb.mono HB0.out.size))
  clear hb
  obtain ⟨c0, c1, c2, c3, c4, c5⟩ := bx6 HX.out
  go_wp2_with fail
  refine (CT.out _).mono ?_
  rintro e w2 ⟨rfl, hb⟩
  clear c0 c1 c2 c3 c4 c5
  have HX' := Lib.hid ((hb.block _ (heap_lt HX.out)).trans HX.out)
  clear HX
  have HX := HX'
  clear HX'
  have HB2 := Lib.hid (HB1.out.trans (hb.mono HB1.out.size))
  clear hb
  obtain ⟨c0, c1, c2, c3, c4, c5⟩ := bx6 HX.out
  go_wp2_with fail
  go_ret
  exact ⟨rfl, HB2.out⟩
set_option maxRecDepth 100000 in
set_option maxHeartbeats 8000000 in
theorem item_G0 (n a : ByteArray) (g i : Int) (v : Bool) (w : World) (hn : n.size ≤ 1048576) (_ha : a.size ≤ 1048576) (h1 : inB g 0 65535 = true) (h2 : inB i 0 65535 = true) (h5 : txB n 64 = false) : Calls Tryz.prog 72 #[.agg #[.string n, .int .i64 g, .int .i64 i, .int .i64 1, .string a, .bool v]] w (Gives (.bool false) w) := by
  have CG := Lib.hid (fun W => isIn_any g 0 65535 W)
  have CI := Lib.hid (fun W => isIn_any i 0 65535 W)
  rw [h1] at CG
  rw [h2] at CI
  clear h1 h2
  have CN := Lib.hid (fun W => isText_any n 64 W hn)
  rw [h5] at CN
  clear h5
  clear hn _ha
  have HX := Lib.hid (box_new w #[.string n, .int .i64 g, .int .i64 i, .int .i64 1, .string a, .bool v] 26)
  have HB0 : Hid (Below w.heap.size w (w.alloc (.cells #[.string n, .int .i64 g, .int .i64 i, .int .i64 1, .string a, .bool v] 26))) := (Below.refl _ w).alloc (Nat.le_refl _) _
  obtain ⟨c0, c1, c2, c3, c4, c5⟩ := bx6 HX.out
  go_enter Tryz.func72, Tryz.ntmps72
  go_wp2_with fail
  refine (CG.out _).mono ?_
  rintro e wz ⟨rfl, hw⟩
  have hw := hw.symm
  subst hw
  go_wp2_with fail
  refine (CI.out _).mono ?_
  rintro e wz ⟨rfl, hw⟩
  have hw := hw.symm
  subst hw
  go_wp2_with fail
  refine (CN.out _).mono ?_
  rintro e w1 ⟨rfl, hb⟩
  clear c0 c1 c2 c3 c4 c5
  have HX' := Lib.hid ((hb.block _ (heap_lt HX.out)).trans HX.out)
  clear HX
  have HX := HX'
  clear HX'
  have HB1 := Lib.hid (HB0.out.trans (hb.mono HB0.out.size))
  clear hb
  obtain ⟨c0, c1, c2, c3, c4, c5⟩ := bx6 HX.out
  go_wp2_with fail
  go_ret
  exact ⟨rfl, HB1.out⟩
set_option maxRecDepth 100000 in
set_option maxHeartbeats 8000000 in
theorem item_G10 (n a : ByteArray) (g i : Int) (v : Bool) (w : World) (hn : n.size ≤ 1048576) (_ha : a.size ≤ 1048576) (h1 : inB g 0 65535 = true) (h2 : inB i 0 65535 = true) (h5 : txB n 64 = true) (h6 : ¬ a.size = 0) : Calls Tryz.prog 72 #[.agg #[.string n, .int .i64 g, .int .i64 i, .int .i64 1, .string a, .bool v]] w (Gives (.bool false) w) := by
  have CG := Lib.hid (fun W => isIn_any g 0 65535 W)
  have CI := Lib.hid (fun W => isIn_any i 0 65535 W)
  rw [h1] at CG
  rw [h2] at CI
  clear h1 h2
  have CN := Lib.hid (fun W => isText_any n 64 W hn)
  rw [h5] at CN
  clear h5
  have hne := By.nonempty h6
  clear h6 hn _ha
  have HX := Lib.hid (box_new w #[.string n, .int .i64 g, .int .i64 i, .int .i64 1, .string a, .bool v] 26)
  have HB0 : Hid (Below w.heap.size w (w.alloc (.cells #[.string n, .int .i64 g, .int .i64 i, .int .i64 1, .string a, .bool v] 26))) := (Below.refl _ w).alloc (Nat.le_refl _) _
  obtain ⟨c0, c1, c2, c3, c4, c5⟩ := bx6 HX.out
  go_enter Tryz.func72, Tryz.ntmps72
  go_wp2_with fail
  refine (CG.out _).mono ?_
  rintro e wz ⟨rfl, hw⟩
  have hw := hw.symm
  subst hw
  go_wp2_with fail
  refine (CI.out _).mono ?_
  rintro e wz ⟨rfl, hw⟩
  have hw := hw.symm
  subst hw
  go_wp2_with fail
  refine (CN.out _).mono ?_
  rintro e w1 ⟨rfl, hb⟩
  clear c0 c1 c2 c3 c4 c5
  have HX' := Lib.hid ((hb.block _ (heap_lt HX.out)).trans HX.out)
  clear HX
  have HX := HX'
  clear HX'
  have HB1 := Lib.hid (HB0.out.trans (hb.mono HB0.out.size))
  clear hb
  obtain ⟨c0, c1, c2, c3, c4, c5⟩ := bx6 HX.out
  go_wp2_with fail
  go_ret
  exact ⟨rfl, HB1.out⟩
set_option maxRecDepth 100000 in
set_option maxHeartbeats 8000000 in
theorem item_G110 (n : ByteArray) (g i : Int) (w : World) (hn : n.size ≤ 1048576) (h1 : inB g 0 65535 = true) (h2 : inB i 0 65535 = true) (h5 : txB n 64 = true) : Calls Tryz.prog 72 #[.agg #[.string n, .int .i64 g, .int .i64 i, .int .i64 1, .string ⟨#[]⟩, .bool false]] w (Gives (.bool true) w) := by
  have CG := Lib.hid (fun W => isIn_any g 0 65535 W)
  have CI := Lib.hid (fun W => isIn_any i 0 65535 W)
  rw [h1] at CG
  rw [h2] at CI
  clear h1 h2
  have CN := Lib.hid (fun W => isText_any n 64 W hn)
  rw [h5] at CN
  clear h5
  clear hn
  have HX := Lib.hid (box_new w #[.string n, .int .i64 g, .int .i64 i, .int .i64 1, .string ⟨#[]⟩, .bool false] 26)
  have HB0 : Hid (Below w.heap.size w (w.alloc (.cells #[.string n, .int .i64 g, .int .i64 i, .int .i64 1, .string ⟨#[]⟩, .bool false] 26))) := (Below.refl _ w).alloc (Nat.le_refl _) _
  obtain ⟨c0, c1, c2, c3, c4, c5⟩ := bx6 HX.out
  go_enter Tryz.func72, Tryz.ntmps72
  go_wp2_with fail
  refine (CG.out _).mono ?_
  rintro e wz ⟨rfl, hw⟩
  have hw := hw.symm
  subst hw
  go_wp2_with fail
  refine (CI.out _).mono ?_
  rintro e wz ⟨rfl, hw⟩
  have hw := hw.symm
  subst hw
  go_wp2_with fail
  refine (CN.out _).mono ?_
  rintro e w1 ⟨rfl, hb⟩
  clear c0 c1 c2 c3 c4 c5
  have HX' := Lib.hid ((hb.block _ (heap_lt HX.out)).trans HX.out)
  clear HX
  have HX := HX'
  clear HX'
  have HB1 := Lib.hid (HB0.out.trans (hb.mono HB0.out.size))
  clear hb
  obtain ⟨c0, c1, c2, c3, c4, c5⟩ := bx6 HX.out
  go_wp2_with fail
  go_ret
  exact ⟨rfl, HB1.out⟩
set_option maxRecDepth 100000 in
set_option maxHeartbeats 8000000 in
theorem item_G111 (n : ByteArray) (g i : Int) (w : World) (hn : n.size ≤ 1048576) (h1 : inB g 0 65535 = true) (h2 : inB i 0 65535 = true) (h5 : txB n 64 = true) : Calls Tryz.prog 72 #[.agg #[.string n, .int .i64 g, .int .i64 i, .int .i64 1, .string ⟨#[]⟩, .bool true]] w (Gives (.bool false) w) := by
  have CG := Lib.hid (fun W => isIn_any g 0 65535 W)
  have CI := Lib.hid (fun W => isIn_any i 0 65535 W)
  rw [h1] at CG
  rw [h2] at CI
  clear h1 h2
  have CN := Lib.hid (fun W => isText_any n 64 W hn)
  rw [h5] at CN
  clear h5
  clear hn
  have HX := Lib.hid (box_new w #[.string n, .int .i64 g, .int .i64 i, .int .i64 1, .string ⟨#[]⟩, .bool true] 26)
  have HB0 : Hid (Below w.heap.size w (w.alloc (.cells #[.string n, .int .i64 g, .int .i64 i, .int .i64 1, .string ⟨#[]⟩, .bool true] 26))) := (Below.refl _ w).alloc (Nat.le_refl _) _
  obtain ⟨c0, c1, c2, c3, c4, c5⟩ := bx6 HX.out
  go_enter Tryz.func72, Tryz.ntmps72
  go_wp2_with fail
  refine (CG.out _).mono ?_
  rintro e wz ⟨rfl, hw⟩
  have hw := hw.symm
  subst hw
  go_wp2_with fail
  refine (CI.out _).mono ?_
  rintro e wz ⟨rfl, hw⟩
  have hw := hw.symm
  subst hw
  go_wp2_with fail
  refine (CN.out _).mono ?_
  rintro e w1 ⟨rfl, hb⟩
  clear c0 c1 c2 c3 c4 c5
  have HX' := Lib.hid ((hb.block _ (heap_lt HX.out)).trans HX.out)
  clear HX
  have HX := HX'
  clear HX'
  have HB1 := Lib.hid (HB0.out.trans (hb.mono HB0.out.size))
  clear hb
  obtain ⟨c0, c1, c2, c3, c4, c5⟩ := bx6 HX.out
  go_wp2_with fail
  go_ret
  exact ⟨rfl, HB1.out⟩
theorem isItem_any (x : It) (w : World) (hn : x.n.size ≤ 1048576) (ha : x.a.size ≤ 1048576) : Calls Tryz.prog 72 #[.agg #[.string x.n, .int .i64 x.g, .int .i64 x.i, .int .i64 x.t, .string x.a, .bool x.w]] w (Gives (.bool (itB x)) w) := by
  unfold itB
  cases x with | mk n g i t a v =>
  simp only at hn ha ⊢
  cases h1 : inB g 0 65535
  · exact item_g n a g i t v w hn ha h1
  cases h2 : inB i 0 65535
  · exact item_i n a g i t v w hn ha h1 h2
  by_cases h3 : t = 0
  · subst h3
    rw [if_pos rfl]
    have e : isN n = nmB n true := rfl
    rw [e]
    cases h5 : nmB n true
    · exact item_B0 n a g i v w hn ha h1 h2 h5
    · exact item_B1 n a g i v w hn ha h1 h2 h5
  · rw [if_neg h3]
    by_cases h4 : t = 1
    · subst h4
      rw [if_pos rfl]
      cases h5 : txB n 64
      · exact item_G0 n a g i v w hn ha h1 h2 h5
      · by_cases h6 : a.size = 0
        · rw [decide_eq_true h6]
          obtain rfl := By.empty_of h6
          cases v
          · exact item_G110 n g i w hn h1 h2 h5
          · exact item_G111 n g i w hn h1 h2 h5
        · rw [decide_eq_false h6]
          exact item_G10 n a g i v w hn ha h1 h2 h5 h6
    · rw [if_neg h4]
      exact item_t n a g i t v w hn ha h1 h2 h3 h4
end Go.Proofs.YtdmbngkkbgmlfaaGreatDoor.T
