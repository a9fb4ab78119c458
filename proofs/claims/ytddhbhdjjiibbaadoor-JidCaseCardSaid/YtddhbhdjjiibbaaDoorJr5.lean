/- The document's own Parse for layer 3: what a text tells. Condition: the text has at most 1048576 bytes. -/
import Derived.Test.YtddhbhdjjiibbaaDoorJr4
import Derived.Test.YtddhbhdjjiibbaaDoorJr2
import Derived.Test.YtddhbhdjjiibbaaDoorJcl
namespace Go.Proofs.YtddhbhdjjiibbaaDoor
open Go.RowKit Go.Lib Go.Shelf Sg Jd

set_option maxRecDepth 100000 in
set_option maxHeartbeats 8000000 in
theorem rparse_re (s rest : ByteArray) (k : Nat) (w : World)
    (F1 : Hid (∀ W, Calls Tryd.prog 25 #[.string s, .int .u8 47] W fun e w' => e = .returned (.int .i64 (k : Nat)) ∧ W = w'))
    (hk : k + 1 ≤ s.size) (hs : s.size ≤ 1048576) (e1 : s.extract (k + 1) s.size = ⟨#[]⟩) (e2 : s.extract 0 k = rest) :
    Calls Tryd.prog 11 #[.string s] w fun e w' => e = .returned (.tuple #[noJ, .int .i64 30]) ∧ Below w.heap.size w w' := by
  have k1 : (k : Int) + 1 ≤ s.size := by omega
  have k2 : (k : Int) ≤ s.size := by omega
  go_enter Tryd.func11, Tryd.ntmps11
  go_wp2_with fail
  refine (F1.out _).mono ?_
  rintro e w1 ⟨rfl, hw1⟩
  subst hw1
  go_wp2_with fail
  refine bodyPost_ret (v := .tuple #[noJ, .int .i64 30]) (by simp [results, noJ, Tryd.results11, go_sem]) rfl ⟨rfl, ?_⟩
  exact ((Below.refl _ _).alloc (Nat.le_refl _) _).alloc (by simp) _
set_option maxRecDepth 100000 in
set_option maxHeartbeats 8000000 in
theorem rparse_rne (s rest res dom : ByteArray) (k q : Nat) (w : World)
    (F1 : Hid (∀ W, Calls Tryd.prog 25 #[.string s, .int .u8 47] W fun e w' => e = .returned (.int .i64 (k : Nat)) ∧ W = w'))
    (F2 : Hid (∀ W, Calls Tryd.prog 25 #[.string rest, .int .u8 64] W fun e w' => e = .returned (.int .i64 (q : Nat)) ∧ W = w'))
    (hk : k + 1 ≤ s.size) (hs : s.size ≤ 1048576) (e1 : s.extract (k + 1) s.size = res) (e2 : s.extract 0 k = rest) (hres : res.toList.isEmpty = false)
    (hq : q + 1 ≤ rest.size) (hs2 : rest.size ≤ 1048576) (e3 : rest.extract 0 q = ⟨#[]⟩) (e4 : rest.extract (q + 1) rest.size = dom) :
    Calls Tryd.prog 11 #[.string s] w fun e w' => e = .returned (.tuple #[noJ, .int .i64 30]) ∧ Below w.heap.size w w' := by
  have k1 : (k : Int) + 1 ≤ s.size := by omega
  have k2 : (k : Int) ≤ s.size := by omega
  have q1 : (q : Int) + 1 ≤ rest.size := by omega
  have q2 : (q : Int) ≤ rest.size := by omega
  go_enter Tryd.func11, Tryd.ntmps11
  go_wp2_with fail
  refine (F1.out _).mono ?_
  rintro e w1 ⟨rfl, hw1⟩
  subst hw1
  go_wp2_with fail
  refine (F2.out _).mono ?_
  rintro e w2 ⟨rfl, hw2⟩
  subst hw2
  go_wp2_with fail
  refine bodyPost_ret (v := .tuple #[noJ, .int .i64 30]) (by simp [results, noJ, Tryd.results11, go_sem]) rfl ⟨rfl, ?_⟩
  exact ((Below.refl _ _).alloc (Nat.le_refl _) _).alloc (by simp) _
set_option maxRecDepth 100000 in
set_option maxHeartbeats 8000000 in
theorem rparse_ne (s dom : ByteArray) (q : Nat) (w : World)
    (F1 : Hid (∀ W, Calls Tryd.prog 25 #[.string s, .int .u8 47] W fun e w' => e = .returned (.int .i64 (-1)) ∧ W = w'))
    (F2 : Hid (∀ W, Calls Tryd.prog 25 #[.string s, .int .u8 64] W fun e w' => e = .returned (.int .i64 (q : Nat)) ∧ W = w'))
    (hq : q + 1 ≤ s.size) (hs2 : s.size ≤ 1048576) (e3 : s.extract 0 q = ⟨#[]⟩) (e4 : s.extract (q + 1) s.size = dom) :
    Calls Tryd.prog 11 #[.string s] w fun e w' => e = .returned (.tuple #[noJ, .int .i64 30]) ∧ Below w.heap.size w w' := by
  have q1 : (q : Int) + 1 ≤ s.size := by omega
  have q2 : (q : Int) ≤ s.size := by omega
  go_enter Tryd.func11, Tryd.ntmps11
  go_wp2_with fail
  refine (F1.out _).mono ?_
  rintro e w1 ⟨rfl, hw1⟩
  subst hw1
  go_wp2_with fail
  refine (F2.out _).mono ?_
  rintro e w2 ⟨rfl, hw2⟩
  subst hw2
  go_wp2_with fail
  refine bodyPost_ret (v := .tuple #[noJ, .int .i64 30]) (by simp [results, noJ, Tryd.results11, go_sem]) rfl ⟨rfl, ?_⟩
  exact ((Below.refl _ _).alloc (Nat.le_refl _) _).alloc (by simp) _
set_option maxRecDepth 100000 in
set_option maxHeartbeats 8000000 in
theorem rparse_00 (s N D : ByteArray) (w : World) (v : Bool)
    (F1 : Hid (∀ W, Calls Tryd.prog 25 #[.string s, .int .u8 47] W fun e w' => e = .returned (.int .i64 (-1)) ∧ W = w'))
    (F2 : Hid (∀ W, Calls Tryd.prog 25 #[.string s, .int .u8 64] W fun e w' => e = .returned (.int .i64 (-1)) ∧ W = w'))
    (NO : Hid (∀ W, Calls Tryd.prog 19 #[.agg #[.string ⟨#[]⟩, .string s, .string ⟨#[]⟩]] W fun e w' => e = .returned (.agg #[.string N, .string D, .string ⟨#[]⟩]) ∧ Below W.heap.size W w'))
    (IS : Hid (∀ W, Calls Tryd.prog 15 #[.agg #[.string N, .string D, .string ⟨#[]⟩]] W fun e w' => e = .returned (.bool v) ∧ Below W.heap.size W w')) :
    Calls Tryd.prog 11 #[.string s] w fun e w' => e = .returned (pv v N D ⟨#[]⟩) ∧ Below w.heap.size w w' := by
  go_enter Tryd.func11, Tryd.ntmps11
  go_wp2_with fail
  refine (F1.out _).mono ?_
  rintro e w1 ⟨rfl, hw1⟩
  subst hw1
  go_wp2_with fail
  refine (F2.out _).mono ?_
  rintro e w2 ⟨rfl, hw2⟩
  subst hw2
  go_wp2_with fail
  have R3 : Hid (Bx w.heap.size (.string ⟨#[]⟩) (.string ⟨#[]⟩) (.string ⟨#[]⟩) ((w.alloc (.cells #[.string ⟨#[]⟩, .string ⟨#[]⟩, .string ⟨#[]⟩] 24)).alloc (.cells #[.string ⟨#[]⟩, .string s, .string ⟨#[]⟩] 24))) := (Bx.new w _ _ _ _).alloc _
  have J3 : Hid (Bx (w.heap.size + 1) (.string ⟨#[]⟩) (.string s) (.string ⟨#[]⟩) ((w.alloc (.cells #[.string ⟨#[]⟩, .string ⟨#[]⟩, .string ⟨#[]⟩] 24)).alloc (.cells #[.string ⟨#[]⟩, .string s, .string ⟨#[]⟩] 24))) := by
    have := Bx.new (w.alloc (.cells #[.string ⟨#[]⟩, .string ⟨#[]⟩, .string ⟨#[]⟩] 24)) (.string ⟨#[]⟩) (.string s) (.string ⟨#[]⟩) 24
    rwa [World.size_alloc] at this
  have B3 : Hid (Below w.heap.size w ((w.alloc (.cells #[.string ⟨#[]⟩, .string ⟨#[]⟩, .string ⟨#[]⟩] 24)).alloc (.cells #[.string ⟨#[]⟩, .string s, .string ⟨#[]⟩] 24))) := ((Below.refl _ _).alloc (Nat.le_refl _) _).alloc (by simp) _
  refine (NO.out _).mono ?_
  rintro e w3 ⟨rfl, hb3⟩
  have R4 := Lib.hid (R3.out.below hb3)
  have J4 := Lib.hid (J3.out.below hb3)
  have B4 := Lib.hid (B3.out.trans (hb3.mono B3.out.size))
  clear hb3 R3 J3 B3
  have R5 := Lib.hid (((R4.out.other (C := w.heap.size + 1) (i := 0) (v := .string N) (by omega)).other (C := w.heap.size + 1) (i := 1) (v := .string D) (by omega)).other (C := w.heap.size + 1) (i := 2) (v := .string ⟨#[]⟩) (by omega))
  have J5 := Lib.hid (J4.out.all (.string N) (.string D) (.string ⟨#[]⟩))
  have B5 := Lib.hid (below_all B4.out (Nat.le_succ _) (.string N) (.string D) (.string ⟨#[]⟩))
  obtain ⟨_, jd0, jd1, jd2, jdf⟩ := J4.out
  obtain ⟨_, je0, je1, je2, jef⟩ := J5.out
  go_wp2_with fail
  refine (IS.out _).mono ?_
  rintro e w4 ⟨rfl, hb4⟩
  have R6 := Lib.hid (R5.out.below hb4)
  have J6 := Lib.hid (J5.out.below hb4)
  have B6 := Lib.hid (B5.out.trans (hb4.mono B5.out.size))
  clear hb4 jd0 jd1 jd2 jdf je0 je1 je2 jef
  obtain ⟨_, jg0, jg1, jg2, jgf⟩ := J6.out
  cases v
  · skip
    obtain ⟨_, er0, er1, er2, erf⟩ := R6.out
    go_wp2_with fail
    refine bodyPost_ret (v := .tuple #[noJ, .int .i64 30]) (by simp [results, noJ, Tryd.results11, go_sem, er0, er1, er2]) rfl ⟨rfl, ?_⟩
    exact below_all B6.out (Nat.le_refl _) _ _ _
  · skip
    obtain ⟨_, er0, er1, er2, erf⟩ := R6.out
    go_wp2_with fail
    refine bodyPost_ret (v := .tuple #[.agg #[.string N, .string D, .string ⟨#[]⟩], .int .i64 0]) (by simp [results, Tryd.results11, go_sem, er0, er1, er2]) rfl ⟨rfl, ?_⟩
    exact below_all B6.out (Nat.le_refl _) _ _ _
set_option maxRecDepth 100000 in
set_option maxHeartbeats 8000000 in
theorem rparse_01 (s node dom N D : ByteArray) (q : Nat) (w : World) (v : Bool)
    (F1 : Hid (∀ W, Calls Tryd.prog 25 #[.string s, .int .u8 47] W fun e w' => e = .returned (.int .i64 (-1)) ∧ W = w'))
    (F2 : Hid (∀ W, Calls Tryd.prog 25 #[.string s, .int .u8 64] W fun e w' => e = .returned (.int .i64 (q : Nat)) ∧ W = w'))
    (hq : q + 1 ≤ s.size) (hs2 : s.size ≤ 1048576) (e3 : s.extract 0 q = node) (e4 : s.extract (q + 1) s.size = dom) (hnode : node.toList.isEmpty = false)
    (NO : Hid (∀ W, Calls Tryd.prog 19 #[.agg #[.string node, .string dom, .string ⟨#[]⟩]] W fun e w' => e = .returned (.agg #[.string N, .string D, .string ⟨#[]⟩]) ∧ Below W.heap.size W w'))
    (IS : Hid (∀ W, Calls Tryd.prog 15 #[.agg #[.string N, .string D, .string ⟨#[]⟩]] W fun e w' => e = .returned (.bool v) ∧ Below W.heap.size W w')) :
    Calls Tryd.prog 11 #[.string s] w fun e w' => e = .returned (pv v N D ⟨#[]⟩) ∧ Below w.heap.size w w' := by
  have q1 : (q : Int) + 1 ≤ s.size := by omega
  have q2 : (q : Int) ≤ s.size := by omega
  go_enter Tryd.func11, Tryd.ntmps11
  go_wp2_with fail
  refine (F1.out _).mono ?_
  rintro e w1 ⟨rfl, hw1⟩
  subst hw1
  go_wp2_with fail
  refine (F2.out _).mono ?_
  rintro e w2 ⟨rfl, hw2⟩
  subst hw2
  go_wp2_with fail
  have R3 : Hid (Bx w.heap.size (.string ⟨#[]⟩) (.string ⟨#[]⟩) (.string ⟨#[]⟩) ((w.alloc (.cells #[.string ⟨#[]⟩, .string ⟨#[]⟩, .string ⟨#[]⟩] 24)).alloc (.cells #[.string node, .string dom, .string ⟨#[]⟩] 24))) := (Bx.new w _ _ _ _).alloc _
  have J3 : Hid (Bx (w.heap.size + 1) (.string node) (.string dom) (.string ⟨#[]⟩) ((w.alloc (.cells #[.string ⟨#[]⟩, .string ⟨#[]⟩, .string ⟨#[]⟩] 24)).alloc (.cells #[.string node, .string dom, .string ⟨#[]⟩] 24))) := by
    have := Bx.new (w.alloc (.cells #[.string ⟨#[]⟩, .string ⟨#[]⟩, .string ⟨#[]⟩] 24)) (.string node) (.string dom) (.string ⟨#[]⟩) 24
    rwa [World.size_alloc] at this
  have B3 : Hid (Below w.heap.size w ((w.alloc (.cells #[.string ⟨#[]⟩, .string ⟨#[]⟩, .string ⟨#[]⟩] 24)).alloc (.cells #[.string node, .string dom, .string ⟨#[]⟩] 24))) := ((Below.refl _ _).alloc (Nat.le_refl _) _).alloc (by simp) _
  refine (NO.out _).mono ?_
  rintro e w3 ⟨rfl, hb3⟩
  have R4 := Lib.hid (R3.out.below hb3)
  have J4 := Lib.hid (J3.out.below hb3)
  have B4 := Lib.hid (B3.out.trans (hb3.mono B3.out.size))
  clear hb3 R3 J3 B3
  have R5 := Lib.hid (((R4.out.other (C := w.heap.size + 1) (i := 0) (v := .string N) (by omega)).other (C := w.heap.size + 1) (i := 1) (v := .string D) (by omega)).other (C := w.heap.size + 1) (i := 2) (v := .string ⟨#[]⟩) (by omega))
  have J5 := Lib.hid (J4.out.all (.string N) (.string D) (.string ⟨#[]⟩))
  have B5 := Lib.hid (below_all B4.out (Nat.le_succ _) (.string N) (.string D) (.string ⟨#[]⟩))
  obtain ⟨_, jd0, jd1, jd2, jdf⟩ := J4.out
  obtain ⟨_, je0, je1, je2, jef⟩ := J5.out
  go_wp2_with fail
  refine (IS.out _).mono ?_
  rintro e w4 ⟨rfl, hb4⟩
  have R6 := Lib.hid (R5.out.below hb4)
  have J6 := Lib.hid (J5.out.below hb4)
  have B6 := Lib.hid (B5.out.trans (hb4.mono B5.out.size))
  clear hb4 jd0 jd1 jd2 jdf je0 je1 je2 jef
  obtain ⟨_, jg0, jg1, jg2, jgf⟩ := J6.out
  cases v
  · skip
    obtain ⟨_, er0, er1, er2, erf⟩ := R6.out
    go_wp2_with fail
    refine bodyPost_ret (v := .tuple #[noJ, .int .i64 30]) (by simp [results, noJ, Tryd.results11, go_sem, er0, er1, er2]) rfl ⟨rfl, ?_⟩
    exact below_all B6.out (Nat.le_refl _) _ _ _
  · skip
    obtain ⟨_, er0, er1, er2, erf⟩ := R6.out
    go_wp2_with fail
    refine bodyPost_ret (v := .tuple #[.agg #[.string N, .string D, .string ⟨#[]⟩], .int .i64 0]) (by simp [results, Tryd.results11, go_sem, er0, er1, er2]) rfl ⟨rfl, ?_⟩
    exact below_all B6.out (Nat.le_refl _) _ _ _
set_option maxRecDepth 100000 in
set_option maxHeartbeats 8000000 in
theorem rparse_10 (s rest res N D : ByteArray) (k : Nat) (w : World) (v : Bool)
    (F1 : Hid (∀ W, Calls Tryd.prog 25 #[.string s, .int .u8 47] W fun e w' => e = .returned (.int .i64 (k : Nat)) ∧ W = w'))
    (F2 : Hid (∀ W, Calls Tryd.prog 25 #[.string rest, .int .u8 64] W fun e w' => e = .returned (.int .i64 (-1)) ∧ W = w'))
    (hk : k + 1 ≤ s.size) (hs : s.size ≤ 1048576) (e1 : s.extract (k + 1) s.size = res) (e2 : s.extract 0 k = rest) (hres : res.toList.isEmpty = false)
    (NO : Hid (∀ W, Calls Tryd.prog 19 #[.agg #[.string ⟨#[]⟩, .string rest, .string res]] W fun e w' => e = .returned (.agg #[.string N, .string D, .string res]) ∧ Below W.heap.size W w'))
    (IS : Hid (∀ W, Calls Tryd.prog 15 #[.agg #[.string N, .string D, .string res]] W fun e w' => e = .returned (.bool v) ∧ Below W.heap.size W w')) :
    Calls Tryd.prog 11 #[.string s] w fun e w' => e = .returned (pv v N D res) ∧ Below w.heap.size w w' := by
  have k1 : (k : Int) + 1 ≤ s.size := by omega
  have k2 : (k : Int) ≤ s.size := by omega
  go_enter Tryd.func11, Tryd.ntmps11
  go_wp2_with fail
  refine (F1.out _).mono ?_
  rintro e w1 ⟨rfl, hw1⟩
  subst hw1
  go_wp2_with fail
  refine (F2.out _).mono ?_
  rintro e w2 ⟨rfl, hw2⟩
  subst hw2
  go_wp2_with fail
  have R3 : Hid (Bx w.heap.size (.string ⟨#[]⟩) (.string ⟨#[]⟩) (.string ⟨#[]⟩) ((w.alloc (.cells #[.string ⟨#[]⟩, .string ⟨#[]⟩, .string ⟨#[]⟩] 24)).alloc (.cells #[.string ⟨#[]⟩, .string rest, .string res] 24))) := (Bx.new w _ _ _ _).alloc _
  have J3 : Hid (Bx (w.heap.size + 1) (.string ⟨#[]⟩) (.string rest) (.string res) ((w.alloc (.cells #[.string ⟨#[]⟩, .string ⟨#[]⟩, .string ⟨#[]⟩] 24)).alloc (.cells #[.string ⟨#[]⟩, .string rest, .string res] 24))) := by
    have := Bx.new (w.alloc (.cells #[.string ⟨#[]⟩, .string ⟨#[]⟩, .string ⟨#[]⟩] 24)) (.string ⟨#[]⟩) (.string rest) (.string res) 24
    rwa [World.size_alloc] at this
  have B3 : Hid (Below w.heap.size w ((w.alloc (.cells #[.string ⟨#[]⟩, .string ⟨#[]⟩, .string ⟨#[]⟩] 24)).alloc (.cells #[.string ⟨#[]⟩, .string rest, .string res] 24))) := ((Below.refl _ _).alloc (Nat.le_refl _) _).alloc (by simp) _
  refine (NO.out _).mono ?_
  rintro e w3 ⟨rfl, hb3⟩
  have R4 := Lib.hid (R3.out.below hb3)
  have J4 := Lib.hid (J3.out.below hb3)
  have B4 := Lib.hid (B3.out.trans (hb3.mono B3.out.size))
  clear hb3 R3 J3 B3
  have R5 := Lib.hid (((R4.out.other (C := w.heap.size + 1) (i := 0) (v := .string N) (by omega)).other (C := w.heap.size + 1) (i := 1) (v := .string D) (by omega)).other (C := w.heap.size + 1) (i := 2) (v := .string res) (by omega))
  have J5 := Lib.hid (J4.out.all (.string N) (.string D) (.string res))
  have B5 := Lib.hid (below_all B4.out (Nat.le_succ _) (.string N) (.string D) (.string res))
  obtain ⟨_, jd0, jd1, jd2, jdf⟩ := J4.out
  obtain ⟨_, je0, je1, je2, jef⟩ := J5.out
  go_wp2_with fail
  refine (IS.out _).mono ?_
  rintro e w4 ⟨rfl, hb4⟩
  have R6 := Lib.hid (R5.out.below hb4)
  have J6 := Lib.hid (J5.out.below hb4)
  have B6 := Lib.hid (B5.out.trans (hb4.mono B5.out.size))
  clear hb4 jd0 jd1 jd2 jdf je0 je1 je2 jef
  obtain ⟨_, jg0, jg1, jg2, jgf⟩ := J6.out
  cases v
  · skip
    obtain ⟨_, er0, er1, er2, erf⟩ := R6.out
    go_wp2_with fail
    refine bodyPost_ret (v := .tuple #[noJ, .int .i64 30]) (by simp [results, noJ, Tryd.results11, go_sem, er0, er1, er2]) rfl ⟨rfl, ?_⟩
    exact below_all B6.out (Nat.le_refl _) _ _ _
  · skip
    obtain ⟨_, er0, er1, er2, erf⟩ := R6.out
    go_wp2_with fail
    refine bodyPost_ret (v := .tuple #[.agg #[.string N, .string D, .string res], .int .i64 0]) (by simp [results, Tryd.results11, go_sem, er0, er1, er2]) rfl ⟨rfl, ?_⟩
    exact below_all B6.out (Nat.le_refl _) _ _ _
set_option maxRecDepth 100000 in
set_option maxHeartbeats 8000000 in
theorem rparse_11 (s rest res node dom N D : ByteArray) (k q : Nat) (w : World) (v : Bool)
    (F1 : Hid (∀ W, Calls Tryd.prog 25 #[.string s, .int .u8 47] W fun e w' => e = .returned (.int .i64 (k : Nat)) ∧ W = w'))
    (F2 : Hid (∀ W, Calls Tryd.prog 25 #[.string rest, .int .u8 64] W fun e w' => e = .returned (.int .i64 (q : Nat)) ∧ W = w'))
    (hk : k + 1 ≤ s.size) (hs : s.size ≤ 1048576) (e1 : s.extract (k + 1) s.size = res) (e2 : s.extract 0 k = rest) (hres : res.toList.isEmpty = false)
    (hq : q + 1 ≤ rest.size) (hs2 : rest.size ≤ 1048576) (e3 : rest.extract 0 q = node) (e4 : rest.extract (q + 1) rest.size = dom) (hnode : node.toList.isEmpty = false)
    (NO : Hid (∀ W, Calls Tryd.prog 19 #[.agg #[.string node, .string dom, .string res]] W fun e w' => e = .returned (.agg #[.string N, .string D, .string res]) ∧ Below W.heap.size W w'))
    (IS : Hid (∀ W, Calls Tryd.prog 15 #[.agg #[.string N, .string D, .string res]] W fun e w' => e = .returned (.bool v) ∧ Below W.heap.size W w')) :
    Calls Tryd.prog 11 #[.string s] w fun e w' => e = .returned (pv v N D res) ∧ Below w.heap.size w w' := by
  have k1 : (k : Int) + 1 ≤ s.size := by omega
  have k2 : (k : Int) ≤ s.size := by omega
  have q1 : (q : Int) + 1 ≤ rest.size := by omega
  have q2 : (q : Int) ≤ rest.size := by omega
  go_enter Tryd.func11, Tryd.ntmps11
  go_wp2_with fail
  refine (F1.out _).mono ?_
  rintro e w1 ⟨rfl, hw1⟩
  subst hw1
  go_wp2_with fail
  refine (F2.out _).mono ?_
  rintro e w2 ⟨rfl, hw2⟩
  subst hw2
  go_wp2_with fail
  have R3 : Hid (Bx w.heap.size (.string ⟨#[]⟩) (.string ⟨#[]⟩) (.string ⟨#[]⟩) ((w.alloc (.cells #[.string ⟨#[]⟩, .string ⟨#[]⟩, .string ⟨#[]⟩] 24)).alloc (.cells #[.string node, .string dom, .string res] 24))) := (Bx.new w _ _ _ _).alloc _
  have J3 : Hid (Bx (w.heap.size + 1) (.string node) (.string dom) (.string res) ((w.alloc (.cells #[.string ⟨#[]⟩, .string ⟨#[]⟩, .string ⟨#[]⟩] 24)).alloc (.cells #[.string node, .string dom, .string res] 24))) := by
    have := Bx.new (w.alloc (.cells #[.string ⟨#[]⟩, .string ⟨#[]⟩, .string ⟨#[]⟩] 24)) (.string node) (.string dom) (.string res) 24
    rwa [World.size_alloc] at this
  have B3 : Hid (Below w.heap.size w ((w.alloc (.cells #[.string ⟨#[]⟩, .string ⟨#[]⟩, .string ⟨#[]⟩] 24)).alloc (.cells #[.string node, .string dom, .string res] 24))) := ((Below.refl _ _).alloc (Nat.le_refl _) _).alloc (by simp) _
  refine (NO.out _).mono ?_
  rintro e w3 ⟨rfl, hb3⟩
  have R4 := Lib.hid (R3.out.below hb3)
  have J4 := Lib.hid (J3.out.below hb3)
  have B4 := Lib.hid (B3.out.trans (hb3.mono B3.out.size))
  clear hb3 R3 J3 B3
  have R5 := Lib.hid (((R4.out.other (C := w.heap.size + 1) (i := 0) (v := .string N) (by omega)).other (C := w.heap.size + 1) (i := 1) (v := .string D) (by omega)).other (C := w.heap.size + 1) (i := 2) (v := .string res) (by omega))
  have J5 := Lib.hid (J4.out.all (.string N) (.string D) (.string res))
  have B5 := Lib.hid (below_all B4.out (Nat.le_succ _) (.string N) (.string D) (.string res))
  obtain ⟨_, jd0, jd1, jd2, jdf⟩ := J4.out
  obtain ⟨_, je0, je1, je2, jef⟩ := J5.out
  go_wp2_with fail
  refine (IS.out _).mono ?_
  rintro e w4 ⟨rfl, hb4⟩
  have R6 := Lib.hid (R5.out.below hb4)
  have J6 := Lib.hid (J5.out.below hb4)
  have B6 := Lib.hid (B5.out.trans (hb4.mono B5.out.size))
  clear hb4 jd0 jd1 jd2 jdf je0 je1 je2 jef
  obtain ⟨_, jg0, jg1, jg2, jgf⟩ := J6.out
  cases v
  · skip
    obtain ⟨_, er0, er1, er2, erf⟩ := R6.out
    go_wp2_with fail
    refine bodyPost_ret (v := .tuple #[noJ, .int .i64 30]) (by simp [results, noJ, Tryd.results11, go_sem, er0, er1, er2]) rfl ⟨rfl, ?_⟩
    exact below_all B6.out (Nat.le_refl _) _ _ _
  · skip
    obtain ⟨_, er0, er1, er2, erf⟩ := R6.out
    go_wp2_with fail
    refine bodyPost_ret (v := .tuple #[.agg #[.string N, .string D, .string res], .int .i64 0]) (by simp [results, Tryd.results11, go_sem, er0, er1, er2]) rfl ⟨rfl, ?_⟩
    exact below_all B6.out (Nat.le_refl _) _ _ _
end Go.Proofs.YtddhbhdjjiibbaaDoor
