/- The document's token at the texts of ScanBounds: what it answers, given what chars, ends, begins answer. Conditions: the text is a text of at most 16384 bytes; the size so far is at most 20000. -/
import Derived.Test.YtolnpfcncmcacaaGreatDoorCb
namespace Go.Proofs.YtolnpfcncmcacaaGreatDoor
open Go.RowKit Go.Lib Go.Shelf Tg Sn

/-- All blocks but those of States are kept. -/
def Kst (W W' : World) : Prop := ∀ (b : Nat) (cs : Array Value) (T : TypeId), T ≠ 31 → W.heap[b]? = some (Obj.cells cs T (0, 0)) → W'.heap[b]? = some (Obj.cells cs T (0, 0))
theorem own_kst {B n k : Nat} {W W' : World} {T : TypeId} {v : Value} {xs : List Value} (h : W.ownsRow B T k v n xs) (hT : T ≠ 31) (hk : Kst W W') : W'.ownsRow B T k v n xs := by
  refine ⟨h.1, ?_⟩
  rcases h.2 with h3 | ⟨g, cap, cur, rfl, q1, q2, q3⟩
  · exact .inl h3
  · exact .inr ⟨g, cap, cur, rfl, q1, hk _ _ _ hT q2, q3⟩
theorem put5_kst {W : World} {N : Nat} {cs : Array Value} (h : W.heap[N]? = some (.cells cs 31 (0, 0))) (v0 v1 v2 v3 v4 : Value) : Kst W (Put5 W N v0 v1 v2 v3 v4) := fun b cs' T hT hb => by
  by_cases e : N = b
  · subst e
    rw [h] at hb
    simp only [Option.some.injEq, Obj.cells.injEq] at hb
    exact absurd hb.2.1.symm hT
  · rw [put5_block e]; exact hb
theorem put_first {w W : World} {s : Sv} (h : Fb w s W) (f : Bool) : Fb w { s with f := f } (W.setCell ⟨w.heap.size, 2, none⟩ (.bool f)) := by
  refine ⟨h.bel.setCell (Nat.le_refl _) _, ?_, ?_⟩
  · simp [World.setCell, Array.getElem?_modify, h.bx]
  · simp [World.setCell, Array.getElem?_modify, h.rt]
theorem put_sz {w W : World} {s : Sv} (h : Fb w s W) (z : Int) : Fb w { s with sz := z } (W.setCell ⟨w.heap.size, 1, none⟩ (.int .i64 z)) := by
  refine ⟨h.bel.setCell (Nat.le_refl _) _, ?_, ?_⟩
  · simp [World.setCell, Array.getElem?_modify, h.bx]
  · simp [World.setCell, Array.getElem?_modify, h.rt]
theorem wrap_in64 {x : Int} (h1 : -9223372036854775808 ≤ x) (h2 : x ≤ 9223372036854775807) : wrap64 x = x := by
  unfold wrap64
  omega
/-- What a function that takes a State answers: one of which K tells; older blocks are kept, but for the row of events. -/
def AnP (K : Sv → World → Prop) (r0 : Option Nat) (W : World) (r : Ending) (W' : World) : Prop := ∃ s2 : Sv, r = .returned s2.val ∧ K s2 W' ∧ W.grownBy W' r0
/-- The size that a token finds. -/
def szOf (n : Nat) (sz : Int) (t : ByteArray) : Int := if 1 < n then sz + t.size else sz
set_option maxRecDepth 100000 in
set_option maxHeartbeats 4000000 in
theorem token_begin (K : Sv → World → Prop) (w : World) (s : Sv) (t : ByteArray) (hK : ∀ s2 W W', K s2 W → Kst W W' → K s2 W') (he : s.e = false) (ht : 2 ≤ t.size) (ht2 : t.size ≤ 16384) (htx : isTx t.data.toList = true) (h0 : By.nb t.data.toList 0 = 60)
    (h1 : By.nb t.data.toList 1 ≠ 63 ∧ By.nb t.data.toList 1 ≠ 33 ∧ By.nb t.data.toList 1 ≠ 47) (hsz : 0 ≤ s.sz ∧ szOf s.n s.sz t ≤ 16384) (hn : s.n ≤ 100) (hr : ∀ b, (Value.slice s.a s.m s.d).ownBlock = some b → b < w.heap.size)
    (hB : ∀ W, Below w.heap.size w W → Calls Tryz.prog 52 #[.agg #[.slice s.o s.n s.c, .int .i64 (szOf s.n s.sz t), .bool false, .bool false, .slice s.a s.m s.d], .string t] W (AnP K (Value.slice s.a s.m s.d).ownBlock W)) :
    Calls Tryz.prog 29 #[.agg #[.slice s.o s.n s.c, .int .i64 s.sz, .bool s.f, .bool s.e, .slice s.a s.m s.d], .string t] w (AnP K (Value.slice s.a s.m s.d).ownBlock w) := by
  obtain ⟨o, n, c, sz, f, e, a, m, d⟩ := s
  obtain rfl : e = false := he
  dsimp only at hsz hn hr hB ⊢
  have F0 := Lib.hid (Fb.new w ⟨o, n, c, sz, f, false, a, m, d⟩)
  have SG := Lib.hid (fun W => rSigns_any t W (by omega))
  have HB := Lib.hid hB
  have HR := Lib.hid hr
  have HKS := Lib.hid hK
  have b0 := (By.byte_nb t 0 (by omega)).trans h0
  have b1 := By.byte_nb t 1 (by omega)
  obtain ⟨e1, e2, e3⟩ := h1
  generalize By.nb t.data.toList 1 = y at b1 e1 e2 e3
  have q1 : ((y : Int) == 63) = false := by rw [beq_eq_false_iff_ne]; omega
  have q2 : ((y : Int) == 33) = false := by rw [beq_eq_false_iff_ne]; omega
  have q3 : ((y : Int) == 47) = false := by rw [beq_eq_false_iff_ne]; omega
  clear hB hr hK h0 e1 e2 e3
  go_enter Tryz.func29, Tryz.ntmps29
  go_upto_region 1 with fail
  generalize (w.alloc (.cells #[.slice o n c, .int .i64 sz, .bool f, .bool false, .slice a m d] 31)).alloc (.cells #[.slice none 0 0, .int .i64 0, .bool false, .bool false, .slice none 0 0] 31) = w1 at F0 ⊢
  obtain ⟨x0, x1, x2, x3, x4⟩ := bx5 F0.out.bx
  dsimp only at x0 x1 x2 x3 x4
  have f2 := Lib.frozen_of_heap F0.out.bx 2
  have lx := heap_lt F0.out.bx
  go_upto_region 3 with fail
  have F1 := Lib.hid (put_first F0.out false)
  generalize w1.setCell ⟨w.heap.size, 2, none⟩ (.bool false) = w2 at F1 ⊢
  clear x0 x1 x2 x3 x4 f2 lx F0
  obtain ⟨x0, x1, x2, x3, x4⟩ := bx5 F1.out.bx
  dsimp only at x0 x1 x2 x3 x4
  have f1 := Lib.frozen_of_heap F1.out.bx 1
  have lx := heap_lt F1.out.bx
  obtain ⟨bb, hbb⟩ : ∃ bb, decide ((1 : Int) < (n : Int)) = bb := ⟨_, rfl⟩
  have HBB := Lib.hid hbb
  go_upto_if 17 with fail
  clear hbb
  go_cut [] (fun wx => Hid (Fb w ⟨o, n, c, szOf n sz t, false, false, a, m, d⟩ wx))
  case first =>
    cases bb with
    | true =>
      have h1n : 1 < n := by have := of_decide_eq_true HBB.out; omega
      have R1 : Hid (szOf n sz t = sz + (t.size : Int)) := if_pos h1n
      have hle : sz + (t.size : Int) ≤ 16384 := by have := hsz.2; rw [R1.out] at this; exact this
      have t2 : decide ((16384 : Int) < sz + (t.size : Int)) = false := by rw [decide_eq_false_iff_not]; omega
      have w1 : wrap64 (sz + (t.size : Int)) = sz + (t.size : Int) := wrap_in64 (by omega) (by omega)
      clear h1n
      go_wp2_with fail
      go_meet
      show Fb _ _ _
      rw [R1.out]
      exact put_sz F1.out _
    | false =>
      have h1n : ¬ 1 < n := by have := of_decide_eq_false HBB.out; omega
      have R1 : Hid (szOf n sz t = sz) := if_neg h1n
      clear h1n
      go_wp2_with fail
      go_meet
      show Fb _ _ _
      rw [R1.out]
      exact F1.out
  case rest =>
    have F2 := hcut
    clear F1 x0 x1 x2 x3 x4 f1 lx hcut
    go_wp2_with fail
    refine (SG.out _).mono ?_
    rintro r w4 ⟨hs, hb⟩
    have F4 := Lib.hid (F2.out.st F2.out.big hb)
    rcases hs with ⟨cs, v, _, rfl, _⟩ | ⟨hno, _⟩
    case inr => exact absurd ((isTx_iff _).1 htx) (fun ⟨cs, h⟩ => hno cs h)
    have HBC := Lib.hid (HB.out w4 F4.out.bel)
    clear F2 hb SG HB htx
    obtain ⟨x0, x1, x2, x3, x4⟩ := bx5 F4.out.bx
    dsimp only at x0 x1 x2 x3 x4
    have lx := heap_lt F4.out.bx
    generalize szOf n sz t = z at F4 HBC x1 hsz
    go_wp2_with fail
    refine HBC.out.mono ?_
    rintro r w5 ⟨s2, hr, hk, hg⟩
    obtain ⟨o2, n2, c2, z2, f2, e2, a2, m2, d2⟩ := s2
    have hr : r = .returned (.agg #[.slice o2 n2 c2, .int .i64 z2, .bool f2, .bool e2, .slice a2 m2 d2]) := hr
    subst hr
    have FG := Lib.hid (F4.out.call hg HR.out)
    have HK := Lib.hid hk
    clear hk hg F4 HBC x0 x1 x2 x3 x4 lx
    obtain ⟨y0, y1, y2, y3, y4⟩ := bx5 FG.out.rt
    have fy := fun i => Lib.frozen_of_heap FG.out.rt i
    have ly := heap_lt FG.out.rt
    go_wp2_with fail
    have hT := fun (v0 v1 v2 v3 v4 : Value) => gb_put5 FG.out.gr (Nat.le_succ w.heap.size) v0 v1 v2 v3 v4
    have hS := fun (v0 v1 v2 v3 v4 : Value) => HKS.out _ _ _ HK.out (put5_kst FG.out.rt v0 v1 v2 v3 v4)
    (try simp only [Exit.inBlock, Exit.then])
    exact bodyPost_ret (v := .agg #[.slice o2 n2 c2, .int .i64 z2, .bool f2, .bool e2, .slice a2 m2 d2]) (by simp [results, Tryz.results29, go_sem, y0, y1, y2, y3, y4]) rfl
      ⟨⟨o2, n2, c2, z2, f2, e2, a2, m2, d2⟩, rfl, hS _ _ _ _ _, hT _ _ _ _ _⟩
set_option maxRecDepth 100000 in
set_option maxHeartbeats 4000000 in
theorem token_big (K : Sv → World → Prop) (w : World) (s : Sv) (t : ByteArray) (hK : ∀ s2 W W', K s2 W → Kst W W' → K s2 W') (he : s.e = false) (ht2 : t.size ≤ 20000) (hsz : 0 ≤ s.sz ∧ 16384 < s.sz + (t.size : Int) ∧ s.sz ≤ 20000) (hn1 : 1 < s.n) (hn : s.n ≤ 100) (hr : ∀ b, (Value.slice s.a s.m s.d).ownBlock = some b → b < w.heap.size)
    (hB : ∀ W, Below w.heap.size w W → Calls Tryz.prog 28 #[.agg #[.slice s.o s.n s.c, .int .i64 (s.sz + (t.size : Int)), .bool false, .bool false, .slice s.a s.m s.d], .int .i64 62] W (AnP K (Value.slice s.a s.m s.d).ownBlock W)) :
    Calls Tryz.prog 29 #[.agg #[.slice s.o s.n s.c, .int .i64 s.sz, .bool s.f, .bool s.e, .slice s.a s.m s.d], .string t] w (AnP K (Value.slice s.a s.m s.d).ownBlock w) := by
  obtain ⟨o, n, c, sz, f, e, a, m, d⟩ := s
  obtain rfl : e = false := he
  dsimp only at hsz hn1 hn hr hB ⊢
  have F0 := Lib.hid (Fb.new w ⟨o, n, c, sz, f, false, a, m, d⟩)
  have HB := Lib.hid hB
  have HR := Lib.hid hr
  have HKS := Lib.hid hK
  clear hB hr hK
  go_enter Tryz.func29, Tryz.ntmps29
  go_upto_region 1 with fail
  generalize (w.alloc (.cells #[.slice o n c, .int .i64 sz, .bool f, .bool false, .slice a m d] 31)).alloc (.cells #[.slice none 0 0, .int .i64 0, .bool false, .bool false, .slice none 0 0] 31) = w1 at F0 ⊢
  obtain ⟨x0, x1, x2, x3, x4⟩ := bx5 F0.out.bx
  dsimp only at x0 x1 x2 x3 x4
  have f2 := Lib.frozen_of_heap F0.out.bx 2
  have lx := heap_lt F0.out.bx
  go_upto_region 3 with fail
  have F1 := Lib.hid (put_first F0.out false)
  generalize w1.setCell ⟨w.heap.size, 2, none⟩ (.bool false) = w2 at F1 ⊢
  clear x0 x1 x2 x3 x4 f2 lx F0
  obtain ⟨x0, x1, x2, x3, x4⟩ := bx5 F1.out.bx
  dsimp only at x0 x1 x2 x3 x4
  have f1 := Lib.frozen_of_heap F1.out.bx 1
  have lx := heap_lt F1.out.bx
  have t1 : decide ((1 : Int) < (n : Int)) = true := by rw [decide_eq_true_iff]; omega
  have w1 : wrap64 (sz + (t.size : Int)) = sz + (t.size : Int) := wrap_in64 (by omega) (by omega)
  have hgt : (16384 : Int) < sz + (t.size : Int) := hsz.2.1
  go_upto_region 5 with fail
  have F2 := Lib.hid (put_sz F1.out (sz + (t.size : Int)))
  generalize w2.setCell ⟨w.heap.size, 1, none⟩ (.int .i64 (sz + (t.size : Int))) = w3 at F2 ⊢
  clear F1 x0 x1 x2 x3 x4 f1 lx
  obtain ⟨x0, x1, x2, x3, x4⟩ := bx5 F2.out.bx
  dsimp only at x0 x1 x2 x3 x4
  have lx := heap_lt F2.out.bx
  have HBC := Lib.hid (HB.out w3 F2.out.bel)
  generalize sz + (t.size : Int) = z at F2 HBC x1 hgt w1
  have t2 : decide ((16384 : Int) < z) = true := decide_eq_true hgt
  clear hgt hsz
  go_wp2_with fail
  refine HBC.out.mono ?_
  rintro r w5 ⟨s2, hr, hk, hg⟩
  obtain ⟨o2, n2, c2, z2, f2, e2, a2, m2, d2⟩ := s2
  have hr : r = .returned (.agg #[.slice o2 n2 c2, .int .i64 z2, .bool f2, .bool e2, .slice a2 m2 d2]) := hr
  subst hr
  have FG := Lib.hid (F2.out.call hg HR.out)
  have HK := Lib.hid hk
  clear hk hg F2 HBC x0 x1 x2 x3 x4 lx
  obtain ⟨y0, y1, y2, y3, y4⟩ := bx5 FG.out.rt
  have fy := fun i => Lib.frozen_of_heap FG.out.rt i
  have ly := heap_lt FG.out.rt
  go_wp2_with fail
  have hT := fun (v0 v1 v2 v3 v4 : Value) => gb_put5 FG.out.gr (Nat.le_succ w.heap.size) v0 v1 v2 v3 v4
  have hS := fun (v0 v1 v2 v3 v4 : Value) => HKS.out _ _ _ HK.out (put5_kst FG.out.rt v0 v1 v2 v3 v4)
  (try simp only [Exit.inBlock, Exit.then])
  exact bodyPost_ret (v := .agg #[.slice o2 n2 c2, .int .i64 z2, .bool f2, .bool e2, .slice a2 m2 d2]) (by simp [results, Tryz.results29, go_sem, y0, y1, y2, y3, y4]) rfl
    ⟨⟨o2, n2, c2, z2, f2, e2, a2, m2, d2⟩, rfl, hS _ _ _ _ _, hT _ _ _ _ _⟩
set_option maxRecDepth 100000 in
set_option maxHeartbeats 4000000 in
theorem token_chars (K : Sv → World → Prop) (w : World) (s : Sv) (t : ByteArray) (hK : ∀ s2 W W', K s2 W → Kst W W' → K s2 W') (he : s.e = false) (ht : 1 ≤ t.size) (ht2 : t.size ≤ 16384) (htx : isTx t.data.toList = true) (h0 : By.nb t.data.toList 0 ≠ 60) (hsz : 0 ≤ s.sz ∧ szOf s.n s.sz t ≤ 16384) (hn : s.n ≤ 100) (hr : ∀ b, (Value.slice s.a s.m s.d).ownBlock = some b → b < w.heap.size)
    (hB : ∀ W, Below w.heap.size w W → Calls Tryz.prog 48 #[.agg #[.slice s.o s.n s.c, .int .i64 (szOf s.n s.sz t), .bool false, .bool false, .slice s.a s.m s.d], .string t] W (AnP K (Value.slice s.a s.m s.d).ownBlock W)) :
    Calls Tryz.prog 29 #[.agg #[.slice s.o s.n s.c, .int .i64 s.sz, .bool s.f, .bool s.e, .slice s.a s.m s.d], .string t] w (AnP K (Value.slice s.a s.m s.d).ownBlock w) := by
  obtain ⟨o, n, c, sz, f, e, a, m, d⟩ := s
  obtain rfl : e = false := he
  dsimp only at hsz hn hr hB ⊢
  have F0 := Lib.hid (Fb.new w ⟨o, n, c, sz, f, false, a, m, d⟩)
  have SG := Lib.hid (fun W => rSigns_any t W (by omega))
  have HB := Lib.hid hB
  have HR := Lib.hid hr
  have HKS := Lib.hid hK
  have b0 := By.byte_nb t 0 (by omega)
  generalize By.nb t.data.toList 0 = y at b0 h0
  have n60 : ((y : Int) != 60) = true := by rw [bne_iff_ne]; omega
  clear hB hr hK h0
  go_enter Tryz.func29, Tryz.ntmps29
  go_upto_region 1 with fail
  generalize (w.alloc (.cells #[.slice o n c, .int .i64 sz, .bool f, .bool false, .slice a m d] 31)).alloc (.cells #[.slice none 0 0, .int .i64 0, .bool false, .bool false, .slice none 0 0] 31) = w1 at F0 ⊢
  obtain ⟨x0, x1, x2, x3, x4⟩ := bx5 F0.out.bx
  dsimp only at x0 x1 x2 x3 x4
  have f2 := Lib.frozen_of_heap F0.out.bx 2
  have lx := heap_lt F0.out.bx
  go_upto_region 3 with fail
  have F1 := Lib.hid (put_first F0.out false)
  generalize w1.setCell ⟨w.heap.size, 2, none⟩ (.bool false) = w2 at F1 ⊢
  clear x0 x1 x2 x3 x4 f2 lx F0
  obtain ⟨x0, x1, x2, x3, x4⟩ := bx5 F1.out.bx
  dsimp only at x0 x1 x2 x3 x4
  have f1 := Lib.frozen_of_heap F1.out.bx 1
  have lx := heap_lt F1.out.bx
  obtain ⟨bb, hbb⟩ : ∃ bb, decide ((1 : Int) < (n : Int)) = bb := ⟨_, rfl⟩
  have HBB := Lib.hid hbb
  go_upto_if 17 with fail
  clear hbb
  go_cut [] (fun wx => Hid (Fb w ⟨o, n, c, szOf n sz t, false, false, a, m, d⟩ wx))
  case first =>
    cases bb with
    | true =>
      have h1n : 1 < n := by have := of_decide_eq_true HBB.out; omega
      have R1 : Hid (szOf n sz t = sz + (t.size : Int)) := if_pos h1n
      have hle : sz + (t.size : Int) ≤ 16384 := by have := hsz.2; rw [R1.out] at this; exact this
      have t2 : decide ((16384 : Int) < sz + (t.size : Int)) = false := by rw [decide_eq_false_iff_not]; omega
      have w1 : wrap64 (sz + (t.size : Int)) = sz + (t.size : Int) := wrap_in64 (by omega) (by omega)
      clear h1n
      go_wp2_with fail
      go_meet
      show Fb _ _ _
      rw [R1.out]
      exact put_sz F1.out _
    | false =>
      have h1n : ¬ 1 < n := by have := of_decide_eq_false HBB.out; omega
      have R1 : Hid (szOf n sz t = sz) := if_neg h1n
      clear h1n
      go_wp2_with fail
      go_meet
      show Fb _ _ _
      rw [R1.out]
      exact F1.out
  case rest =>
    have F2 := hcut
    clear F1 x0 x1 x2 x3 x4 f1 lx hcut
    go_wp2_with fail
    refine (SG.out _).mono ?_
    rintro r w4 ⟨hs, hb⟩
    have F4 := Lib.hid (F2.out.st F2.out.big hb)
    rcases hs with ⟨cs, v, _, rfl, _⟩ | ⟨hno, _⟩
    case inr => exact absurd ((isTx_iff _).1 htx) (fun ⟨cs, h⟩ => hno cs h)
    have HBC := Lib.hid (HB.out w4 F4.out.bel)
    clear F2 hb SG HB htx
    obtain ⟨x0, x1, x2, x3, x4⟩ := bx5 F4.out.bx
    dsimp only at x0 x1 x2 x3 x4
    have lx := heap_lt F4.out.bx
    generalize szOf n sz t = z at F4 HBC x1 hsz
    go_wp2_with fail
    refine HBC.out.mono ?_
    rintro r w5 ⟨s2, hr, hk, hg⟩
    obtain ⟨o2, n2, c2, z2, f2, e2, a2, m2, d2⟩ := s2
    have hr : r = .returned (.agg #[.slice o2 n2 c2, .int .i64 z2, .bool f2, .bool e2, .slice a2 m2 d2]) := hr
    subst hr
    have FG := Lib.hid (F4.out.call hg HR.out)
    have HK := Lib.hid hk
    clear hk hg F4 HBC x0 x1 x2 x3 x4 lx
    obtain ⟨y0, y1, y2, y3, y4⟩ := bx5 FG.out.rt
    have fy := fun i => Lib.frozen_of_heap FG.out.rt i
    have ly := heap_lt FG.out.rt
    go_wp2_with fail
    have hT := fun (v0 v1 v2 v3 v4 : Value) => gb_put5 FG.out.gr (Nat.le_succ w.heap.size) v0 v1 v2 v3 v4
    have hS := fun (v0 v1 v2 v3 v4 : Value) => HKS.out _ _ _ HK.out (put5_kst FG.out.rt v0 v1 v2 v3 v4)
    (try simp only [Exit.inBlock, Exit.then])
    exact bodyPost_ret (v := .agg #[.slice o2 n2 c2, .int .i64 z2, .bool f2, .bool e2, .slice a2 m2 d2]) (by simp [results, Tryz.results29, go_sem, y0, y1, y2, y3, y4]) rfl
      ⟨⟨o2, n2, c2, z2, f2, e2, a2, m2, d2⟩, rfl, hS _ _ _ _ _, hT _ _ _ _ _⟩
def eB : ByteArray := ⟨#[60, 47, 99, 62]⟩
set_option maxRecDepth 100000 in
set_option maxHeartbeats 4000000 in
theorem token_end (K : Sv → World → Prop) (w : World) (s : Sv) (hK : ∀ s2 W W', K s2 W → Kst W W' → K s2 W') (he : s.e = false) (hsz : 0 ≤ s.sz ∧ szOf s.n s.sz eB ≤ 16384) (hn : s.n ≤ 100) (hr : ∀ b, (Value.slice s.a s.m s.d).ownBlock = some b → b < w.heap.size)
    (hB : ∀ W, Below w.heap.size w W → Calls Tryz.prog 51 #[.agg #[.slice s.o s.n s.c, .int .i64 (szOf s.n s.sz eB), .bool false, .bool false, .slice s.a s.m s.d], .string ⟨#[99]⟩] W (AnP K (Value.slice s.a s.m s.d).ownBlock W)) :
    Calls Tryz.prog 29 #[.agg #[.slice s.o s.n s.c, .int .i64 s.sz, .bool s.f, .bool s.e, .slice s.a s.m s.d], .string ⟨#[60, 47, 99, 62]⟩] w (AnP K (Value.slice s.a s.m s.d).ownBlock w) := by
  obtain ⟨o, n, c, sz, f, e, a, m, d⟩ := s
  obtain rfl : e = false := he
  dsimp only at hsz hn hr hB ⊢
  have F0 := Lib.hid (Fb.new w ⟨o, n, c, sz, f, false, a, m, d⟩)
  have SG := Lib.hid (fun W => rSigns_any ⟨#[60, 47, 99, 62]⟩ W (by decide))
  have HB := Lib.hid hB
  have HR := Lib.hid hr
  have HKS := Lib.hid hK
  have htx : isTx (eB).data.toList = true := asc_text (by decide)
  have ht : eB.size = 4 := rfl
  have QC := Lib.hid (fun W => qname_c W)
  have BN := Lib.hid (fun W => blanks_nil W)
  have cc : (⟨#[60, 47, 99, 62]⟩ : ByteArray).extract 2 4 = ⟨#[99, 62]⟩ := By.bytes_ext (by rw [By.extract_cut]; rfl)
  have c0 : (⟨#[62]⟩ : ByteArray).extract 0 0 = ⟨#[]⟩ := By.bytes_ext (by rw [By.extract_cut]; rfl)
  clear hB hr hK
  go_enter Tryz.func29, Tryz.ntmps29
  go_upto_region 1 with fail
  generalize (w.alloc (.cells #[.slice o n c, .int .i64 sz, .bool f, .bool false, .slice a m d] 31)).alloc (.cells #[.slice none 0 0, .int .i64 0, .bool false, .bool false, .slice none 0 0] 31) = w1 at F0 ⊢
  obtain ⟨x0, x1, x2, x3, x4⟩ := bx5 F0.out.bx
  dsimp only at x0 x1 x2 x3 x4
  have f2 := Lib.frozen_of_heap F0.out.bx 2
  have lx := heap_lt F0.out.bx
  go_upto_region 3 with fail
  have F1 := Lib.hid (put_first F0.out false)
  generalize w1.setCell ⟨w.heap.size, 2, none⟩ (.bool false) = w2 at F1 ⊢
  clear x0 x1 x2 x3 x4 f2 lx F0
  obtain ⟨x0, x1, x2, x3, x4⟩ := bx5 F1.out.bx
  dsimp only at x0 x1 x2 x3 x4
  have f1 := Lib.frozen_of_heap F1.out.bx 1
  have lx := heap_lt F1.out.bx
  obtain ⟨bb, hbb⟩ : ∃ bb, decide ((1 : Int) < (n : Int)) = bb := ⟨_, rfl⟩
  have HBB := Lib.hid hbb
  go_upto_if 17 with fail
  clear hbb
  go_cut [] (fun wx => Hid (Fb w ⟨o, n, c, szOf n sz eB, false, false, a, m, d⟩ wx))
  case first =>
    cases bb with
    | true =>
      have h1n : 1 < n := by have := of_decide_eq_true HBB.out; omega
      have R1 : Hid (szOf n sz eB = sz + 4) := if_pos h1n
      have hle : sz + 4 ≤ 16384 := by have := hsz.2; rw [R1.out] at this; exact this
      have t2 : decide ((16384 : Int) < sz + 4) = false := by rw [decide_eq_false_iff_not]; omega
      have w1 : wrap64 (sz + 4) = sz + 4 := wrap_in64 (by omega) (by omega)
      clear h1n
      go_wp2_with fail
      go_meet
      show Fb _ _ _
      rw [R1.out]
      exact put_sz F1.out _
    | false =>
      have h1n : ¬ 1 < n := by have := of_decide_eq_false HBB.out; omega
      have R1 : Hid (szOf n sz eB = sz) := if_neg h1n
      clear h1n
      go_wp2_with fail
      go_meet
      show Fb _ _ _
      rw [R1.out]
      exact F1.out
  case rest =>
    have F2 := hcut
    clear F1 x0 x1 x2 x3 x4 f1 lx hcut
    go_wp2_with fail
    refine (SG.out _).mono ?_
    rintro r w4 ⟨hs, hb⟩
    have F4 := Lib.hid (F2.out.st F2.out.big hb)
    rcases hs with ⟨cs, v, _, rfl, _⟩ | ⟨hno, _⟩
    case inr => exact absurd ((isTx_iff _).1 htx) (fun ⟨cs, h⟩ => hno cs h)
    clear F2 hb SG
    go_wp2_with fail
    refine (QC.out _).mono ?_
    rintro r w5 ⟨rfl, hb⟩
    have F5 := Lib.hid (F4.out.st F4.out.big hb)
    have HBC := Lib.hid (HB.out w5 F5.out.bel)
    clear F4 hb HB QC cc htx
    go_wp2_with fail
    refine (BN.out _).mono ?_
    rintro r w6 ⟨rfl, rfl⟩
    obtain ⟨x0, x1, x2, x3, x4⟩ := bx5 F5.out.bx
    dsimp only at x0 x1 x2 x3 x4
    have lx := heap_lt F5.out.bx
    generalize szOf n sz eB = z at F5 HBC x1 hsz
    go_wp2_with fail
    refine HBC.out.mono ?_
    rintro r w7 ⟨s2, hr, hk, hg⟩
    obtain ⟨o2, n2, c2, z2, f2, e2, a2, m2, d2⟩ := s2
    have hr : r = .returned (.agg #[.slice o2 n2 c2, .int .i64 z2, .bool f2, .bool e2, .slice a2 m2 d2]) := hr
    subst hr
    have FG := Lib.hid (F5.out.call hg HR.out)
    have HK := Lib.hid hk
    clear hk hg F5 HBC x0 x1 x2 x3 x4 lx
    obtain ⟨y0, y1, y2, y3, y4⟩ := bx5 FG.out.rt
    have fy := fun i => Lib.frozen_of_heap FG.out.rt i
    have ly := heap_lt FG.out.rt
    go_wp2_with fail
    have hT := fun (v0 v1 v2 v3 v4 : Value) => gb_put5 FG.out.gr (Nat.le_succ w.heap.size) v0 v1 v2 v3 v4
    have hS := fun (v0 v1 v2 v3 v4 : Value) => HKS.out _ _ _ HK.out (put5_kst FG.out.rt v0 v1 v2 v3 v4)
    (try simp only [Exit.inBlock, Exit.then])
    exact bodyPost_ret (v := .agg #[.slice o2 n2 c2, .int .i64 z2, .bool f2, .bool e2, .slice a2 m2 d2]) (by simp [results, Tryz.results29, go_sem, y0, y1, y2, y3, y4]) rfl
      ⟨⟨o2, n2, c2, z2, f2, e2, a2, m2, d2⟩, rfl, hS _ _ _ _ _, hT _ _ _ _ _⟩
end Go.Proofs.YtolnpfcncmcacaaGreatDoor
