/- Contracts: what compares numbers and places. Conditions: those of each theorem's head. -/
import Derived.Test.YtdmbngkkbgmlfaaGreatDoorPl
import Derived.Test.YtdmbngkkbgmlfaaGreatDoorS4
import Derived.Lib.FrozenHead2
namespace Go.Proofs.YtdmbngkkbgmlfaaGreatDoor.T
open Go.RowKit Go.Lib

set_option maxRecDepth 100000 in
set_option maxHeartbeats 8000000 in
theorem isNaN_any (a : Int) (w : World) : Calls Tryz.prog 62 #[.int .i64 a] w (Pure (.bool false) w) := by
  have q : ((a : Int) != a) = false := by simp
  go_enter Tryz.func62, Tryz.ntmps62
  go_wp2_with fail
  go_ret
  exact ⟨rfl, rfl⟩
set_option maxRecDepth 100000 in
set_option maxHeartbeats 8000000 in
theorem cmp_lt (a b : Int) (w : World) (h : a < b) : Calls Tryz.prog 43 #[.int .i64 a, .int .i64 b] w (Pure (.int .i64 (-1)) w) := by
  have A := Lib.hid (fun W => isNaN_any a W)
  have B := Lib.hid (fun W => isNaN_any b W)
  go_enter Tryz.func43, Tryz.ntmps43
  go_wp2_with fail
  refine (A.out _).mono ?_
  rintro e wz ⟨rfl, hw⟩
  have hw := hw.symm
  subst hw
  go_wp2_with fail
  refine (B.out _).mono ?_
  rintro e wz ⟨rfl, hw⟩
  have hw := hw.symm
  subst hw
  go_wp2_with fail
  go_ret
  exact ⟨rfl, rfl⟩
set_option maxRecDepth 100000 in
set_option maxHeartbeats 8000000 in
theorem cmp_gt (a b : Int) (w : World) (h : b < a) : Calls Tryz.prog 43 #[.int .i64 a, .int .i64 b] w (Pure (.int .i64 1) w) := by
  have A := Lib.hid (fun W => isNaN_any a W)
  have B := Lib.hid (fun W => isNaN_any b W)
  have h2 : ¬ a < b := by omega
  go_enter Tryz.func43, Tryz.ntmps43
  go_wp2_with fail
  refine (A.out _).mono ?_
  rintro e wz ⟨rfl, hw⟩
  have hw := hw.symm
  subst hw
  go_wp2_with fail
  refine (B.out _).mono ?_
  rintro e wz ⟨rfl, hw⟩
  have hw := hw.symm
  subst hw
  go_wp2_with fail
  go_ret
  exact ⟨rfl, rfl⟩
set_option maxRecDepth 100000 in
set_option maxHeartbeats 8000000 in
theorem cmp_eq (a : Int) (w : World) : Calls Tryz.prog 43 #[.int .i64 a, .int .i64 a] w (Pure (.int .i64 0) w) := by
  have A := Lib.hid (fun W => isNaN_any a W)
  have h : ¬ a < a := by omega
  go_enter Tryz.func43, Tryz.ntmps43
  go_wp2_with fail
  refine (A.out _).mono ?_
  rintro e wz ⟨rfl, hw⟩
  have hw := hw.symm
  subst hw
  go_wp2_with fail
  refine (A.out _).mono ?_
  rintro e wz ⟨rfl, hw⟩
  have hw := hw.symm
  subst hw
  go_wp2_with fail
  go_ret
  exact ⟨rfl, rfl⟩
theorem cmp_any (a b : Int) (w : World) : Calls Tryz.prog 43 #[.int .i64 a, .int .i64 b] w (Pure (.int .i64 (cp a b)) w) := by
  unfold cp
  by_cases h : a < b
  · rw [if_pos h]; exact cmp_lt a b w h
  · rw [if_neg h]
    by_cases k : b < a
    · rw [if_pos k]; exact cmp_gt a b w k
    · rw [if_neg k]
      obtain rfl : a = b := by omega
      exact cmp_eq a w
theorem box_new2 (w : World) (o : Obj) (cs : Array Value) (t : TypeId) : ((w.alloc o).alloc (.cells cs t)).heap[w.heap.size + 1]? = some (.cells cs t (0, 0)) := by
  have h := box_new (w.alloc o) cs t
  simpa using h
theorem bx2 {w : World} {b : Nat} {v0 v1 : Value} {t : TypeId} (h : w.heap[b]? = some (.cells #[v0, v1] t (0, 0))) : w.cell? ⟨b, 0, none⟩ = some v0 ∧ w.cell? ⟨b, 1, none⟩ = some v1 := by
  refine ⟨?_, ?_⟩ <;> (rw [Lib.cell_of_heap h]; rfl)
theorem bx1 {w : World} {b : Nat} {v0 : Value} {t : TypeId} (h : w.heap[b]? = some (.cells #[v0] t (0, 0))) : w.cell? ⟨b, 0, none⟩ = some v0 := by rw [Lib.cell_of_heap h]; rfl
theorem bxf {w : World} {b : Nat} {cs : Array Value} {t : TypeId} (h : w.heap[b]? = some (.cells cs t (0, 0))) (i : Nat) : w.frozen? ⟨b, i, none⟩ = false := Lib.frozen_of_heap h i
set_option maxRecDepth 100000 in
set_option maxHeartbeats 8000000 in
theorem or_a (a b : Int) (B : Nat) (w : World) (h : w.heap[B]? = some (.cells #[.int .i64 a, .int .i64 b] 3 (0, 0))) (ha : ¬ a = 0) : Calls Tryz.prog 42 #[.slice (some ⟨B, 0, none⟩) 2 2] w (Pure (.int .i64 (a)) w) := by
  obtain ⟨c0, c1⟩ := bx2 h
  have q : ((a : Int) != 0) = true := by simpa using ha
  go_enter Tryz.func42, Tryz.ntmps42
  go_wp2_with fail
  refine wp_loop_rounds 1 ?_
  rw [rounds_succ]
  go_wp2_with fail
  go_ret
  exact ⟨rfl, rfl⟩
set_option maxRecDepth 100000 in
set_option maxHeartbeats 8000000 in
theorem or_b (a b : Int) (B : Nat) (w : World) (h : w.heap[B]? = some (.cells #[.int .i64 a, .int .i64 b] 3 (0, 0))) (ha : a = 0) (hb : ¬ b = 0) : Calls Tryz.prog 42 #[.slice (some ⟨B, 0, none⟩) 2 2] w (Pure (.int .i64 (b)) w) := by
  obtain ⟨c0, c1⟩ := bx2 h
  subst ha
  have q : ((b : Int) != 0) = true := by simpa using hb
  go_enter Tryz.func42, Tryz.ntmps42
  go_wp2_with fail
  refine wp_loop_rounds 2 ?_
  rw [rounds_succ]
  go_wp2_with fail
  rw [rounds_succ]
  go_wp2_with fail
  go_ret
  exact ⟨rfl, rfl⟩
set_option maxRecDepth 100000 in
set_option maxHeartbeats 8000000 in
theorem or_c (a b : Int) (B : Nat) (w : World) (h : w.heap[B]? = some (.cells #[.int .i64 a, .int .i64 b] 3 (0, 0))) (ha : a = 0) (hb : b = 0) : Calls Tryz.prog 42 #[.slice (some ⟨B, 0, none⟩) 2 2] w (Pure (.int .i64 (0)) w) := by
  obtain ⟨c0, c1⟩ := bx2 h
  subst ha hb
  go_enter Tryz.func42, Tryz.ntmps42
  go_wp2_with fail
  refine wp_loop_rounds 3 ?_
  rw [rounds_succ]
  go_wp2_with fail
  rw [rounds_succ]
  go_wp2_with fail
  rw [rounds_succ]
  go_wp2_with fail
  go_ret
  exact ⟨rfl, rfl⟩
theorem or_any (a b : Int) (B : Nat) (w : World) (h : w.heap[B]? = some (.cells #[.int .i64 a, .int .i64 b] 3 (0, 0))) : Calls Tryz.prog 42 #[.slice (some ⟨B, 0, none⟩) 2 2] w (Pure (.int .i64 (if a = 0 then b else a)) w) := by
  by_cases ha : a = 0
  · rw [if_pos ha]
    by_cases hb : b = 0
    · rw [hb]; exact or_c a b B w h ha hb
    · exact or_b a b B w h ha hb
  · rw [if_neg ha]; exact or_a a b B w h ha
theorem load_p {w : World} {g : Nat} {v0 v1 : Value} (h : w.heap[g]? = some (.cells #[v0, v1] 53 (0, 0))) : (loadVar 53 ⟨g, 0, none⟩).run Tryz.prog w = .ok (.agg #[v0, v1]) w :=
  run_loadVar_row w g 53 53 _ (0, 0) _ h Tryz.underlying53 rfl (by kernel_rfl)
set_option maxRecDepth 100000 in
set_option maxHeartbeats 8000000 in
theorem placeOf_any (x : It) (w : World) : Calls Tryz.prog 41 #[.agg #[.string x.n, .int .i64 x.g, .int .i64 x.i, .int .i64 x.t, .string x.a, .bool x.w]] w (Gives (.agg #[.int .i64 x.g, .int .i64 x.i]) w) := by
  have HX := Lib.hid (box_new w #[.string x.n, .int .i64 x.g, .int .i64 x.i, .int .i64 x.t, .string x.a, .bool x.w] 26)
  have HB : Hid (Below w.heap.size w (w.alloc (.cells #[.string x.n, .int .i64 x.g, .int .i64 x.i, .int .i64 x.t, .string x.a, .bool x.w] 26))) := (Below.refl _ w).alloc (Nat.le_refl _) _
  obtain ⟨c0, c1, c2, c3, c4, c5⟩ := bx6 HX.out
  go_enter Tryz.func41, Tryz.ntmps41
  go_wp2_with fail
  exact bodyPost_ret (results_cell_row Tryz.results41 _ _ (w.heap.size + 1) 53 _ (0, 0) _ rfl (box_new2 w (.cells #[.string x.n, .int .i64 x.g, .int .i64 x.i, .int .i64 x.t, .string x.a, .bool x.w] 26) #[.int .i64 x.g, .int .i64 x.i] 53) Tryz.underlying53 rfl (by kernel_rfl)) rfl ⟨rfl, HB.out.alloc HB.out.size _⟩
set_option maxRecDepth 100000 in
set_option maxHeartbeats 8000000 in
theorem grp_t (x : It) (w : World) (h1 : ((x.t : Int) == 1) = false) : Calls Tryz.prog 44 #[.agg #[.string x.n, .int .i64 x.g, .int .i64 x.i, .int .i64 x.t, .string x.a, .bool x.w]] w (Gives (.bool false) w) := by
  have HX := Lib.hid (box_new w #[.string x.n, .int .i64 x.g, .int .i64 x.i, .int .i64 x.t, .string x.a, .bool x.w] 26)
  have HB : Hid (Below w.heap.size w (w.alloc (.cells #[.string x.n, .int .i64 x.g, .int .i64 x.i, .int .i64 x.t, .string x.a, .bool x.w] 26))) := (Below.refl _ w).alloc (Nat.le_refl _) _
  obtain ⟨c0, c1, c2, c3, c4, c5⟩ := bx6 HX.out
  go_enter Tryz.func44, Tryz.ntmps44
  go_wp2_with fail
  go_ret
  exact ⟨rfl, HB.out⟩
set_option maxRecDepth 100000 in
set_option maxHeartbeats 8000000 in
theorem grp_g (x : It) (w : World) (h1 : ((x.t : Int) == 1) = true) (h2 : ¬ 0 < x.g) : Calls Tryz.prog 44 #[.agg #[.string x.n, .int .i64 x.g, .int .i64 x.i, .int .i64 x.t, .string x.a, .bool x.w]] w (Gives (.bool false) w) := by
  have HX := Lib.hid (box_new w #[.string x.n, .int .i64 x.g, .int .i64 x.i, .int .i64 x.t, .string x.a, .bool x.w] 26)
  have HB : Hid (Below w.heap.size w (w.alloc (.cells #[.string x.n, .int .i64 x.g, .int .i64 x.i, .int .i64 x.t, .string x.a, .bool x.w] 26))) := (Below.refl _ w).alloc (Nat.le_refl _) _
  obtain ⟨c0, c1, c2, c3, c4, c5⟩ := bx6 HX.out
  go_enter Tryz.func44, Tryz.ntmps44
  go_wp2_with fail
  go_ret
  exact ⟨rfl, HB.out⟩
set_option maxRecDepth 100000 in
set_option maxHeartbeats 8000000 in
theorem grp_i (x : It) (w : World) (h1 : ((x.t : Int) == 1) = true) (h2 : 0 < x.g) (h3 : ((x.i : Int) == 0) = false) : Calls Tryz.prog 44 #[.agg #[.string x.n, .int .i64 x.g, .int .i64 x.i, .int .i64 x.t, .string x.a, .bool x.w]] w (Gives (.bool false) w) := by
  have HX := Lib.hid (box_new w #[.string x.n, .int .i64 x.g, .int .i64 x.i, .int .i64 x.t, .string x.a, .bool x.w] 26)
  have HB : Hid (Below w.heap.size w (w.alloc (.cells #[.string x.n, .int .i64 x.g, .int .i64 x.i, .int .i64 x.t, .string x.a, .bool x.w] 26))) := (Below.refl _ w).alloc (Nat.le_refl _) _
  obtain ⟨c0, c1, c2, c3, c4, c5⟩ := bx6 HX.out
  go_enter Tryz.func44, Tryz.ntmps44
  go_wp2_with fail
  go_ret
  exact ⟨rfl, HB.out⟩
set_option maxRecDepth 100000 in
set_option maxHeartbeats 8000000 in
theorem grp_n (x : It) (w : World) (h1 : ((x.t : Int) == 1) = true) (h2 : 0 < x.g) (h3 : ((x.i : Int) == 0) = true) (h4 : x.n = ⟨#[]⟩) : Calls Tryz.prog 44 #[.agg #[.string x.n, .int .i64 x.g, .int .i64 x.i, .int .i64 x.t, .string x.a, .bool x.w]] w (Gives (.bool false) w) := by
  have HX := Lib.hid (box_new w #[.string x.n, .int .i64 x.g, .int .i64 x.i, .int .i64 x.t, .string x.a, .bool x.w] 26)
  have HB : Hid (Below w.heap.size w (w.alloc (.cells #[.string x.n, .int .i64 x.g, .int .i64 x.i, .int .i64 x.t, .string x.a, .bool x.w] 26))) := (Below.refl _ w).alloc (Nat.le_refl _) _
  obtain ⟨c0, c1, c2, c3, c4, c5⟩ := bx6 HX.out
  obtain ⟨xn, xg, xi, xt, xa, xw⟩ := x
  dsimp only at h1 h2 h3 h4 c0 c1 c2 c3 c4 c5 HX HB ⊢
  subst h4
  go_enter Tryz.func44, Tryz.ntmps44
  go_wp2_with fail
  go_ret
  exact ⟨rfl, HB.out⟩
set_option maxRecDepth 100000 in
set_option maxHeartbeats 8000000 in
theorem grp_y (x : It) (w : World) (h1 : ((x.t : Int) == 1) = true) (h2 : 0 < x.g) (h3 : ((x.i : Int) == 0) = true) (h4 : ¬ x.n.size = 0) : Calls Tryz.prog 44 #[.agg #[.string x.n, .int .i64 x.g, .int .i64 x.i, .int .i64 x.t, .string x.a, .bool x.w]] w (Gives (.bool true) w) := by
  have HX := Lib.hid (box_new w #[.string x.n, .int .i64 x.g, .int .i64 x.i, .int .i64 x.t, .string x.a, .bool x.w] 26)
  have HB : Hid (Below w.heap.size w (w.alloc (.cells #[.string x.n, .int .i64 x.g, .int .i64 x.i, .int .i64 x.t, .string x.a, .bool x.w] 26))) := (Below.refl _ w).alloc (Nat.le_refl _) _
  obtain ⟨c0, c1, c2, c3, c4, c5⟩ := bx6 HX.out
  have q := By.nonempty h4
  go_enter Tryz.func44, Tryz.ntmps44
  go_wp2_with fail
  go_ret
  exact ⟨rfl, HB.out⟩
theorem isGroup_any (x : It) (w : World) : Calls Tryz.prog 44 #[.agg #[.string x.n, .int .i64 x.g, .int .i64 x.i, .int .i64 x.t, .string x.a, .bool x.w]] w (Gives (.bool (grp x)) w) := by
  by_cases h1 : x.t = 1
  · by_cases h2 : 0 < x.g
    · by_cases h3 : x.i = 0
      · by_cases h4 : x.n.size = 0
        · rw [show grp x = false by simp [grp, h4]]; exact grp_n x w (by simpa using h1) h2 (by simpa using h3) (By.empty_of h4)
        · rw [show grp x = true by rw [grp_iff]; exact ⟨h1, h2, h3, h4⟩]; exact grp_y x w (by simpa using h1) h2 (by simpa using h3) h4
      · rw [show grp x = false by simp [grp, h3]]; exact grp_i x w (by simpa using h1) h2 (by simpa using h3)
    · rw [show grp x = false by simp [grp, h2]]; exact grp_g x w (by simpa using h1) h2
  · rw [show grp x = false by simp [grp, h1]]; exact grp_t x w (by simpa using h1)
end Go.Proofs.YtdmbngkkbgmlfaaGreatDoor.T
