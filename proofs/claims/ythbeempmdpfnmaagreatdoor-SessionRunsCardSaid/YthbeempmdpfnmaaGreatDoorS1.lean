/- Contracts: small functions of package session, and of the document's own. Conditions: those of each theorem's head. -/
import Derived.Test.YthbeempmdpfnmaaGreatDoorSm
import Derived.Test.YthbeempmdpfnmaaGreatDoorAd
namespace Go.Proofs.YthbeempmdpfnmaaGreatDoor.T
open Go.RowKit Go.Lib

theorem bxOne (w : World) (A : Array Value) (t : TypeId) : Hid ((w.alloc (.cells A t)).heap[w.heap.size]? = some (.cells A t (0, 0))) ∧ Hid (Below w.heap.size w (w.alloc (.cells A t))) := ⟨box_new w A t, (Below.refl _ w).alloc (Nat.le_refl _) _⟩
theorem kpB {w w' : World} {b : Nat} {o : Obj} (hb : Below w.heap.size w w') (h : Hid (w.heap[b]? = some o)) : Hid (w'.heap[b]? = some o) := (hb.block _ (heap_lt h.out)).trans h.out
set_option maxRecDepth 100000 in
set_option maxHeartbeats 8000000 in
theorem isIn_any (n m : Int) (w : World) : Calls Tryz.prog 31 #[.int .i64 n, .int .i64 m] w (Pure (.bool (inB n 0 m)) w) := by
  unfold inB
  by_cases h : 0 ≤ n
  · by_cases k : n ≤ m
    · rw [decide_eq_true h, decide_eq_true k]
      go_enter Tryz.func31, Tryz.ntmps31
      go_wp2_with fail
      go_ret
      exact ⟨rfl, rfl⟩
    · rw [decide_eq_true h, decide_eq_false k]
      go_enter Tryz.func31, Tryz.ntmps31
      go_wp2_with fail
      go_ret
      exact ⟨rfl, rfl⟩
  · rw [decide_eq_false h]
    go_enter Tryz.func31, Tryz.ntmps31
    go_wp2_with fail
    go_ret
    exact ⟨rfl, rfl⟩
set_option maxRecDepth 100000 in
set_option maxHeartbeats 8000000 in
theorem undr_any (s : Ss) (w : World) : Calls Tryz.prog 34 #[.agg #[.int .i64 s.p, .string s.n, .string s.d, .int .i64 s.s, .int .i64 s.t, .int .i64 s.c, .int .i64 s.h, .int .i64 s.a, .int .i64 s.e]] w (Gives (.bool (undr s.p)) w) := by
  obtain ⟨HX, HB⟩ := bxOne w #[.int .i64 s.p, .string s.n, .string s.d, .int .i64 s.s, .int .i64 s.t, .int .i64 s.c, .int .i64 s.h, .int .i64 s.a, .int .i64 s.e] 28
  obtain ⟨m0, m1, m2, m3, m4, m5, m6, m7, m8⟩ := bx9 HX.out
  unfold undr
  by_cases h : 1 ≤ s.p
  · by_cases k : s.p ≤ 5
    · rw [decide_eq_true h, decide_eq_true k]
      go_enter Tryz.func34, Tryz.ntmps34
      go_wp2_with fail
      go_ret
      exact ⟨rfl, HB.out⟩
    · rw [decide_eq_true h, decide_eq_false k]
      go_enter Tryz.func34, Tryz.ntmps34
      go_wp2_with fail
      go_ret
      exact ⟨rfl, HB.out⟩
  · rw [decide_eq_false h]
    go_enter Tryz.func34, Tryz.ntmps34
    go_wp2_with fail
    go_ret
    exact ⟨rfl, HB.out⟩
set_option maxRecDepth 100000 in
set_option maxHeartbeats 8000000 in
theorem rundr_any (s : Ss) (w : World) : Calls Tryz.prog 49 #[.agg #[.int .i64 s.p, .string s.n, .string s.d, .int .i64 s.s, .int .i64 s.t, .int .i64 s.c, .int .i64 s.h, .int .i64 s.a, .int .i64 s.e]] w (Gives (.bool (undr s.p)) w) := by
  obtain ⟨HX, HB⟩ := bxOne w #[.int .i64 s.p, .string s.n, .string s.d, .int .i64 s.s, .int .i64 s.t, .int .i64 s.c, .int .i64 s.h, .int .i64 s.a, .int .i64 s.e] 28
  obtain ⟨m0, m1, m2, m3, m4, m5, m6, m7, m8⟩ := bx9 HX.out
  unfold undr
  by_cases h : 1 ≤ s.p
  · by_cases k : s.p ≤ 5
    · rw [decide_eq_true h, decide_eq_true k]
      go_enter Tryz.func49, Tryz.ntmps49
      go_wp2_with fail
      go_ret
      exact ⟨rfl, HB.out⟩
    · rw [decide_eq_true h, decide_eq_false k]
      go_enter Tryz.func49, Tryz.ntmps49
      go_wp2_with fail
      go_ret
      exact ⟨rfl, HB.out⟩
  · rw [decide_eq_false h]
    go_enter Tryz.func49, Tryz.ntmps49
    go_wp2_with fail
    go_ret
    exact ⟨rfl, HB.out⟩
set_option maxRecDepth 100000 in
set_option maxHeartbeats 8000000 in
theorem later_any (n : Int) (w : World) (h : 0 ≤ n) (hh : n ≤ 1000000000) : Calls Tryz.prog 48 #[.int .i64 n] w (Pure (.int .i64 (n + 1)) w) := by
  have hm : max n (n + 1) = n + 1 := by omega
  go_enter Tryz.func48, Tryz.ntmps48
  go_wp2_with fail
  go_ret
  exact ⟨rfl, rfl⟩
set_option maxRecDepth 100000 in
set_option maxHeartbeats 8000000 in
theorem lasting_no (c : Int) (w : World) (h0 : (c == 1) = false) (h1 : (c == 4) = false) (h2 : (c == 5) = false) (h3 : (c == 7) = false) (h4 : (c == 8) = false) (h5 : (c == 17) = false) : Calls Tryz.prog 10 #[.int .i64 c] w (Pure (.bool false) w) := by
  go_enter Tryz.func10, Tryz.ntmps10
  go_wp2_with fail
  go_ret
  exact ⟨rfl, rfl⟩
set_option maxRecDepth 100000 in
set_option maxHeartbeats 8000000 in
theorem lasting_1 (w : World) : Calls Tryz.prog 10 #[.int .i64 1] w (Pure (.bool true) w) := by
  go_enter Tryz.func10, Tryz.ntmps10
  go_wp2_with fail
  go_ret
  exact ⟨rfl, rfl⟩
set_option maxRecDepth 100000 in
set_option maxHeartbeats 8000000 in
theorem lasting_4 (w : World) : Calls Tryz.prog 10 #[.int .i64 4] w (Pure (.bool true) w) := by
  go_enter Tryz.func10, Tryz.ntmps10
  go_wp2_with fail
  go_ret
  exact ⟨rfl, rfl⟩
set_option maxRecDepth 100000 in
set_option maxHeartbeats 8000000 in
theorem lasting_5 (w : World) : Calls Tryz.prog 10 #[.int .i64 5] w (Pure (.bool true) w) := by
  go_enter Tryz.func10, Tryz.ntmps10
  go_wp2_with fail
  go_ret
  exact ⟨rfl, rfl⟩
set_option maxRecDepth 100000 in
set_option maxHeartbeats 8000000 in
theorem lasting_7 (w : World) : Calls Tryz.prog 10 #[.int .i64 7] w (Pure (.bool true) w) := by
  go_enter Tryz.func10, Tryz.ntmps10
  go_wp2_with fail
  go_ret
  exact ⟨rfl, rfl⟩
set_option maxRecDepth 100000 in
set_option maxHeartbeats 8000000 in
theorem lasting_8 (w : World) : Calls Tryz.prog 10 #[.int .i64 8] w (Pure (.bool true) w) := by
  go_enter Tryz.func10, Tryz.ntmps10
  go_wp2_with fail
  go_ret
  exact ⟨rfl, rfl⟩
set_option maxRecDepth 100000 in
set_option maxHeartbeats 8000000 in
theorem lasting_17 (w : World) : Calls Tryz.prog 10 #[.int .i64 17] w (Pure (.bool true) w) := by
  go_enter Tryz.func10, Tryz.ntmps10
  go_wp2_with fail
  go_ret
  exact ⟨rfl, rfl⟩
theorem lasting_any (c : Int) (w : World) : Calls Tryz.prog 10 #[.int .i64 c] w (Pure (.bool (lastB c)) w) := by
  unfold lastB
  by_cases h0 : c = 1
  · subst h0
    exact lasting_1 w
  have h0 := beq_eq_false_iff_ne.2 h0
  by_cases h1 : c = 4
  · subst h1
    exact lasting_4 w
  have h1 := beq_eq_false_iff_ne.2 h1
  by_cases h2 : c = 5
  · subst h2
    exact lasting_5 w
  have h2 := beq_eq_false_iff_ne.2 h2
  by_cases h3 : c = 7
  · subst h3
    exact lasting_7 w
  have h3 := beq_eq_false_iff_ne.2 h3
  by_cases h4 : c = 8
  · subst h4
    exact lasting_8 w
  have h4 := beq_eq_false_iff_ne.2 h4
  by_cases h5 : c = 17
  · subst h5
    exact lasting_17 w
  have h5 := beq_eq_false_iff_ne.2 h5
  rw [h0, h1, h2, h3, h4, h5]
  exact lasting_no c w h0 h1 h2 h3 h4 h5
set_option maxRecDepth 100000 in
set_option maxHeartbeats 8000000 in
theorem rlasting_no (c : Int) (w : World) (h0 : (c == 1) = false) (h1 : (c == 4) = false) (h2 : (c == 5) = false) (h3 : (c == 7) = false) (h4 : (c == 8) = false) (h5 : (c == 17) = false) : Calls Tryz.prog 11 #[.int .i64 c] w (Pure (.bool false) w) := by
  go_enter Tryz.func11, Tryz.ntmps11
  go_wp2_with fail
  go_ret
  exact ⟨rfl, rfl⟩
set_option maxRecDepth 100000 in
set_option maxHeartbeats 8000000 in
theorem rlasting_1 (w : World) : Calls Tryz.prog 11 #[.int .i64 1] w (Pure (.bool true) w) := by
  go_enter Tryz.func11, Tryz.ntmps11
  go_wp2_with fail
  go_ret
  exact ⟨rfl, rfl⟩
set_option maxRecDepth 100000 in
set_option maxHeartbeats 8000000 in
theorem rlasting_4 (w : World) : Calls Tryz.prog 11 #[.int .i64 4] w (Pure (.bool true) w) := by
  go_enter Tryz.func11, Tryz.ntmps11
  go_wp2_with fail
  go_ret
  exact ⟨rfl, rfl⟩
set_option maxRecDepth 100000 in
set_option maxHeartbeats 8000000 in
theorem rlasting_5 (w : World) : Calls Tryz.prog 11 #[.int .i64 5] w (Pure (.bool true) w) := by
  go_enter Tryz.func11, Tryz.ntmps11
  go_wp2_with fail
  go_ret
  exact ⟨rfl, rfl⟩
set_option maxRecDepth 100000 in
set_option maxHeartbeats 8000000 in
theorem rlasting_7 (w : World) : Calls Tryz.prog 11 #[.int .i64 7] w (Pure (.bool true) w) := by
  go_enter Tryz.func11, Tryz.ntmps11
  go_wp2_with fail
  go_ret
  exact ⟨rfl, rfl⟩
set_option maxRecDepth 100000 in
set_option maxHeartbeats 8000000 in
theorem rlasting_8 (w : World) : Calls Tryz.prog 11 #[.int .i64 8] w (Pure (.bool true) w) := by
  go_enter Tryz.func11, Tryz.ntmps11
  go_wp2_with fail
  go_ret
  exact ⟨rfl, rfl⟩
set_option maxRecDepth 100000 in
set_option maxHeartbeats 8000000 in
theorem rlasting_17 (w : World) : Calls Tryz.prog 11 #[.int .i64 17] w (Pure (.bool true) w) := by
  go_enter Tryz.func11, Tryz.ntmps11
  go_wp2_with fail
  go_ret
  exact ⟨rfl, rfl⟩
theorem rlasting_any (c : Int) (w : World) : Calls Tryz.prog 11 #[.int .i64 c] w (Pure (.bool (lastB c)) w) := by
  unfold lastB
  by_cases h0 : c = 1
  · subst h0
    exact rlasting_1 w
  have h0 := beq_eq_false_iff_ne.2 h0
  by_cases h1 : c = 4
  · subst h1
    exact rlasting_4 w
  have h1 := beq_eq_false_iff_ne.2 h1
  by_cases h2 : c = 5
  · subst h2
    exact rlasting_5 w
  have h2 := beq_eq_false_iff_ne.2 h2
  by_cases h3 : c = 7
  · subst h3
    exact rlasting_7 w
  have h3 := beq_eq_false_iff_ne.2 h3
  by_cases h4 : c = 8
  · subst h4
    exact rlasting_8 w
  have h4 := beq_eq_false_iff_ne.2 h4
  by_cases h5 : c = 17
  · subst h5
    exact rlasting_17 w
  have h5 := beq_eq_false_iff_ne.2 h5
  rw [h0, h1, h2, h3, h4, h5]
  exact rlasting_no c w h0 h1 h2 h3 h4 h5
set_option maxRecDepth 100000 in
set_option maxHeartbeats 8000000 in
theorem passes_no (k : Int) (w : World) (h0 : (k == 13) = false) (h1 : (k == 14) = false) (h2 : (k == 16) = false) (h3 : (k == 18) = false) (h4 : (k == 19) = false) (h5 : (k == 25) = false) (h6 : (k == 27) = false) (h7 : (k == 29) = false) : Calls Tryz.prog 51 #[.int .i64 k] w (Pure (.bool false) w) := by
  go_enter Tryz.func51, Tryz.ntmps51
  go_wp2_with fail
  go_ret
  exact ⟨rfl, rfl⟩
set_option maxRecDepth 100000 in
set_option maxHeartbeats 8000000 in
theorem passes_13 (w : World) : Calls Tryz.prog 51 #[.int .i64 13] w (Pure (.bool true) w) := by
  go_enter Tryz.func51, Tryz.ntmps51
  go_wp2_with fail
  go_ret
  exact ⟨rfl, rfl⟩
set_option maxRecDepth 100000 in
set_option maxHeartbeats 8000000 in
theorem passes_14 (w : World) : Calls Tryz.prog 51 #[.int .i64 14] w (Pure (.bool true) w) := by
  go_enter Tryz.func51, Tryz.ntmps51
  go_wp2_with fail
  go_ret
  exact ⟨rfl, rfl⟩
set_option maxRecDepth 100000 in
set_option maxHeartbeats 8000000 in
theorem passes_16 (w : World) : Calls Tryz.prog 51 #[.int .i64 16] w (Pure (.bool true) w) := by
  go_enter Tryz.func51, Tryz.ntmps51
  go_wp2_with fail
  go_ret
  exact ⟨rfl, rfl⟩
set_option maxRecDepth 100000 in
set_option maxHeartbeats 8000000 in
theorem passes_18 (w : World) : Calls Tryz.prog 51 #[.int .i64 18] w (Pure (.bool true) w) := by
  go_enter Tryz.func51, Tryz.ntmps51
  go_wp2_with fail
  go_ret
  exact ⟨rfl, rfl⟩
set_option maxRecDepth 100000 in
set_option maxHeartbeats 8000000 in
theorem passes_19 (w : World) : Calls Tryz.prog 51 #[.int .i64 19] w (Pure (.bool true) w) := by
  go_enter Tryz.func51, Tryz.ntmps51
  go_wp2_with fail
  go_ret
  exact ⟨rfl, rfl⟩
set_option maxRecDepth 100000 in
set_option maxHeartbeats 8000000 in
theorem passes_25 (w : World) : Calls Tryz.prog 51 #[.int .i64 25] w (Pure (.bool true) w) := by
  go_enter Tryz.func51, Tryz.ntmps51
  go_wp2_with fail
  go_ret
  exact ⟨rfl, rfl⟩
set_option maxRecDepth 100000 in
set_option maxHeartbeats 8000000 in
theorem passes_27 (w : World) : Calls Tryz.prog 51 #[.int .i64 27] w (Pure (.bool true) w) := by
  go_enter Tryz.func51, Tryz.ntmps51
  go_wp2_with fail
  go_ret
  exact ⟨rfl, rfl⟩
set_option maxRecDepth 100000 in
set_option maxHeartbeats 8000000 in
theorem passes_29 (w : World) : Calls Tryz.prog 51 #[.int .i64 29] w (Pure (.bool true) w) := by
  go_enter Tryz.func51, Tryz.ntmps51
  go_wp2_with fail
  go_ret
  exact ⟨rfl, rfl⟩
theorem passes_any (k : Int) (w : World) : Calls Tryz.prog 51 #[.int .i64 k] w (Pure (.bool (upK k)) w) := by
  unfold upK
  by_cases h0 : k = 13
  · subst h0
    exact passes_13 w
  have h0 := beq_eq_false_iff_ne.2 h0
  by_cases h1 : k = 14
  · subst h1
    exact passes_14 w
  have h1 := beq_eq_false_iff_ne.2 h1
  by_cases h2 : k = 16
  · subst h2
    exact passes_16 w
  have h2 := beq_eq_false_iff_ne.2 h2
  by_cases h3 : k = 18
  · subst h3
    exact passes_18 w
  have h3 := beq_eq_false_iff_ne.2 h3
  by_cases h4 : k = 19
  · subst h4
    exact passes_19 w
  have h4 := beq_eq_false_iff_ne.2 h4
  by_cases h5 : k = 25
  · subst h5
    exact passes_25 w
  have h5 := beq_eq_false_iff_ne.2 h5
  by_cases h6 : k = 27
  · subst h6
    exact passes_27 w
  have h6 := beq_eq_false_iff_ne.2 h6
  by_cases h7 : k = 29
  · subst h7
    exact passes_29 w
  have h7 := beq_eq_false_iff_ne.2 h7
  rw [h0, h1, h2, h3, h4, h5, h6, h7]
  exact passes_no k w h0 h1 h2 h3 h4 h5 h6 h7
end Go.Proofs.YthbeempmdpfnmaaGreatDoor.T
