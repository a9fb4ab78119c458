/- Contracts: slices.Equal of items and of numbers. Conditions: those of each theorem's head. -/
import Derived.Test.YtiodjaeonoheiaaGreatDoorZc
set_option maxRecDepth 100000
set_option maxHeartbeats 8000000
namespace Go.Proofs.YtiodjaeonoheiaaGreatDoor.T
open Go.RowKit Go.Lib
structure NtR (w : World) (ai az : Option Addr) (n : Nt) : Prop where
  hn : n.n.size ≤ 140737488351232
  hx : n.x.size ≤ 140737488351232
  hd : n.d.size ≤ 140737488351232
  hI : ItS w ai n.l
  hZ : CdS w az n.z
  hin : n.l.length ≤ 140737488351232
  hiz : ∀ y ∈ n.l, y.n.size ≤ 140737488351232 ∧ y.a.size ≤ 140737488351232
  hzn : n.z.length ≤ 140737488351232
theorem NtR.below {w w' : World} {ai az : Option Addr} {n : Nt} (h : NtR w ai az n) (hb : Below w.heap.size w w') : NtR w' ai az n := ⟨h.hn, h.hx, h.hd, h.hI.below hb, h.hZ.below hb, h.hin, h.hiz, h.hzn⟩
theorem NtR.small {w : World} {ai az : Option Addr} {n : Nt} (h : NtR w ai az n) {M : Nat} (s : Sm M n) (hM : M ≤ 1000000) : NtL w ai az n :=
  ⟨⟨Nat.le_trans s.hn hM, Nat.le_trans s.hx hM, Nat.le_trans s.hd hM, h.hI, h.hZ⟩, Nat.le_trans s.hin hM, fun y hy => ⟨Nat.le_trans (s.hiz y hy).1 hM, Nat.le_trans (s.hiz y hy).2 hM⟩, Nat.le_trans s.hzn hM⟩
theorem lnum_any (x : Int) (w : World) : Calls Tryz.prog 9 #[.int .i64 x] w (Pure (.int .i64 x) w) := by
  go_enter Tryz.func9, Tryz.ntmps9
  go_wp2_with fail
  go_ret
  exact ⟨rfl, rfl⟩
def WtP (n : Nt) (w : World) (e : Ending) (w' : World) : Prop := ∃ m : Nat, e = .returned (.int .i64 m) ∧ Below w.heap.size w w' ∧ (m ≤ 12000 → Sm 12000 n)
theorem weight_any (n : Nt) (ai az : Option Addr) (ci cz : Nat) (w : World) (h : NtR w ai az n) : Calls Tryz.prog 18 #[nA n ai az ci cz, .int .i64 12000] w (WtP n w) := by
  unfold nA
  have HL := Lib.hid fun W (hb : Below w.heap.size w W) => h.hI.below hb
  have HZ := Lib.hid h.hiz
  obtain ⟨HX0, HB0⟩ := nOne n ai az ci cz w
  have h1 := h.hn
  have h2 := h.hx
  have h3 := h.hd
  have h4 := h.hzn
  have h5 := h.hin
  have HP : Hid (∀ (m : Nat) W, Below w.heap.size w W → (m ≤ 12000 → Sm 12000 n) → WtP n w (.returned (.int .i64 m)) W) := fun m W hb hs => ⟨m, rfl, hb, hs⟩
  generalize hq : WtP n w = POST at HP ⊢
  clear hq h
  obtain ⟨m0, m1, m2, m3, m4, m5, m6, m7, m8, m9, m10⟩ := bx11 HX0.out
  go_enter Tryz.func18, Tryz.ntmps18
  go_wp2_with fail
  clear m0 m1 m2 m3 m4 m5 m6 m7 m8 m9 m10
  go_loopw [5, 6] (fun x i wr => ∃ (m j : Nat), x = .int .i64 m ∧ i = .int .i64 j ∧ j ≤ n.l.length ∧ m ≤ 1000000000000000 ∧ Hid (n.n.size + n.x.size + n.d.size + n.z.length ≤ m ∧ j ≤ m ∧ ∀ i (h : i < n.l.length), i < j → n.l[i].n.size ≤ m ∧ n.l[i].a.size ≤ m) ∧ Hid (wr.heap[w.heap.size]? = some (.cells #[.int .i64 n.k, .string n.n, .string n.x, .string n.d, .int .i64 n.c, .int .i64 n.s, .int .i64 n.e, .int .i64 n.t, .bool n.o, .slice ai n.l.length ci, .slice az n.z.length cz] 25 (0, 0))) ∧ Hid (Below w.heap.size w wr)) (fun _ i _ => n.l.length - (RowKit.intOf i).toNat)
  case atStart => exact ⟨n.n.size + n.x.size + n.d.size + n.z.length, 0, by go_num, rfl, Nat.zero_le _, by omega, ⟨Nat.le_refl _, Nat.zero_le _, fun i _ h => absurd h (Nat.not_lt_zero _)⟩, HX0.out, HB0.out⟩
  case round =>
    clear HX0 HB0
    obtain ⟨m, j, rfl, rfl, hj, hm, HM, HX, HB⟩ := hrel
    obtain ⟨-, -, -, -, -, -, -, -, -, m9, -⟩ := bx11 HX.out
    by_cases hlt : j < n.l.length
    · by_cases h12 : m ≤ 12000
      · obtain ⟨b, p, rfl, e0, e1, e2, e3, e4, e5⟩ := HL.out _ HB.out j hlt
        have hzz := HZ.out _ (List.getElem_mem hlt)
        have HMj : Hid (∀ v u, n.l[j].n.size = v → n.l[j].a.size = u → n.n.size + n.x.size + n.d.size + n.z.length ≤ m + 1 + v + u ∧ j + 1 ≤ m + 1 + v + u ∧ ∀ i (h : i < n.l.length), i < j + 1 → n.l[i].n.size ≤ m + 1 + v + u ∧ n.l[i].a.size ≤ m + 1 + v + u) := fun v u hv hu => by
          have a := HM.out.1
          have b := HM.out.2.1
          refine ⟨by omega, by omega, fun i h h2 => ?_⟩
          by_cases h3 : i < j
          · have := HM.out.2.2 i h h3
            omega
          · obtain rfl : i = j := by omega
            omega
        have q1 : ((j : Int) < n.l.length) := by omega
        have q2 : ((m : Int) ≤ 12000) := by omega
        have HMk := Lib.hid (HMj.out _ _ rfl rfl)
        have hz1 := hzz.1
        have hz2 := hzz.2
        clear HMj hzz HM e1 e2 e3 e5
        generalize n.l[j].n = v at e0 HMk hz1
        generalize n.l[j].a = u at e4 HMk hz2
        go_wp2_with fail
        go_region
        go_wp2_with fail
        exact ⟨⟨m + 1 + v.size + u.size, j + 1, by go_num, by go_num, by omega, by omega, HMk.out, HX.out, HB.out.drew⟩, by simp [RowKit.intOf]; omega⟩
      · have q1 : ((j : Int) < n.l.length) := by omega
        have q2 : ¬ ((m : Int) ≤ 12000) := by omega
        go_wp2_with fail
        exact HP.out m _ HB.out fun h => absurd h h12
    · obtain rfl : j = n.l.length := by omega
      have HS : Hid (m ≤ 12000 → Sm 12000 n) := fun h => by
        have a := HM.out.1
        have b := HM.out.2.1
        refine ⟨by omega, by omega, by omega, by omega, fun y hy => ?_, by omega⟩
        obtain ⟨i, hi, rfl⟩ := List.getElem_of_mem hy
        have := HM.out.2.2 i hi hi
        omega
      clear HM
      go_wp2_with fail
      exact HP.out m _ HB.out HS.out
def SmlP (n : Nt) (w : World) (e : Ending) (w' : World) : Prop := ∃ b, e = .returned (.bool b) ∧ Below w.heap.size w w' ∧ (b = true → Sm 12000 n)
theorem small_any (n : Nt) (ai az : Option Addr) (ci cz : Nat) (w : World) (h : NtR w ai az n) : Calls Tryz.prog 5 #[nA n ai az ci cz] w (SmlP n w) := by
  have CW := Lib.hid (fun W (hb : Below w.heap.size w W) => weight_any n ai az ci cz W (h.below hb))
  unfold nA at CW ⊢
  obtain ⟨HX, HB0⟩ := nOne n ai az ci cz w
  have mX := bx11 HX.out
  have h5 := h.hin
  clear h
  by_cases h2 : n.l.length ≤ 200
  · have q1 : ((n.l.length : Int) ≤ 200) := by omega
    go_enter Tryz.func5, Tryz.ntmps5
    go_wp2_with fail
    refine (CW.out _ HB0.out).mono ?_
    rintro e w1 ⟨m, rfl, hb, hs⟩
    have HB1 := trB HB0 hb
    have HS := Lib.hid hs
    clear hb hs mX
    by_cases h3 : m ≤ 12000
    · have q2 : ((m : Int) ≤ 12000) := by omega
      go_wp2_with fail
      go_ret
      exact ⟨_, rfl, HB1.out, fun _ => HS.out h3⟩
    · have q2 : ¬ ((m : Int) ≤ 12000) := by omega
      go_wp2_with fail
      go_ret
      exact ⟨_, rfl, HB1.out, fun h => absurd (of_decide_eq_true h) (by omega)⟩
  · have q1 : ¬ ((n.l.length : Int) ≤ 200) := by omega
    go_enter Tryz.func5, Tryz.ntmps5
    go_wp2_with fail
    go_ret
    exact ⟨_, rfl, HB0.out, fun h => by simp at h⟩
theorem buddy_any (w : World) : Calls Tryz.prog 19 #[] w (Gives (.agg #[.string ⟨#[106, 111, 101]⟩, .int .i64 1, .int .i64 2, .int .i64 0, .string ⟨#[74, 111, 101]⟩, .bool true]) w) := by
  obtain ⟨HX, HB⟩ := bxOne w #[.string ⟨#[106, 111, 101]⟩, .int .i64 1, .int .i64 2, .int .i64 0, .string ⟨#[74, 111, 101]⟩, .bool true] 45
  go_enter Tryz.func19, Tryz.ntmps19
  go_wp2_with fail
  exact bodyPost_ret (results_cell_row Tryz.results19 _ _ w.heap.size 45 _ (0, 0) _ rfl HX.out Tryz.underlying45 rfl (by kernel_rfl)) rfl ⟨rfl, HB.out⟩
end Go.Proofs.YtiodjaeonoheiaaGreatDoor.T
namespace Go.Proofs.YtiodjaeonoheiaaGreatDoor.T
open Go.RowKit Go.Lib By
noncomputable def eqv {α : Type} (x y : α) : Bool := @decide (x = y) (Classical.propDecidable _)
theorem eqv_yes {α : Type} {x y : α} (h : x = y) : eqv x y = true := by unfold eqv; exact (@decide_eq_true_iff _ (Classical.propDecidable _)).2 h
theorem eqv_no {α : Type} {x y : α} (h : x ≠ y) : eqv x y = false := by rw [Bool.eq_false_iff]; intro e; unfold eqv at e; exact h ((@decide_eq_true_iff _ (Classical.propDecidable _)).1 e)
theorem take_eq {α : Type} {l m : List α} {k : Nat} (hl : k < l.length) (hm : k < m.length) (h : l.take k = m.take k) (he : l[k] = m[k]) : l.take (k + 1) = m.take (k + 1) := by
  rw [List.take_succ_eq_append_getElem hl, List.take_succ_eq_append_getElem hm, h, he]
theorem text_ne {a b : ByteArray} (h : a ≠ b) : ¬ a.toList = b.toList := fun e => h (by rw [ByteArray.toList_eq, ByteArray.toList_eq] at e; rw [← mk_self a, ← mk_self b, e])
theorem text_neb {a b : ByteArray} (h : a ≠ b) : (a.toList == b.toList) = false := by rw [beq_eq_false_iff_ne]; exact text_ne h
theorem it_ne {x y : It} (h : x ≠ y) : x.n ≠ y.n ∨ (x.n = y.n ∧ x.g ≠ y.g) ∨ (x.n = y.n ∧ x.g = y.g ∧ x.i ≠ y.i) ∨ (x.n = y.n ∧ x.g = y.g ∧ x.i = y.i ∧ x.t ≠ y.t) ∨ (x.n = y.n ∧ x.g = y.g ∧ x.i = y.i ∧ x.t = y.t ∧ x.a ≠ y.a) ∨ (x.n = y.n ∧ x.g = y.g ∧ x.i = y.i ∧ x.t = y.t ∧ x.a = y.a ∧ x.w ≠ y.w) := by
  by_cases h1 : x.n = y.n
  · by_cases h2 : x.g = y.g
    · by_cases h3 : x.i = y.i
      · by_cases h4 : x.t = y.t
        · by_cases h5 : x.a = y.a
          · by_cases h6 : x.w = y.w
            · exact absurd (by cases x; cases y; simp_all) h
            · exact .inr (.inr (.inr (.inr (.inr ⟨h1, h2, h3, h4, h5, h6⟩))))
          · exact .inr (.inr (.inr (.inr (.inl ⟨h1, h2, h3, h4, h5⟩))))
        · exact .inr (.inr (.inr (.inl ⟨h1, h2, h3, h4⟩)))
      · exact .inr (.inr (.inl ⟨h1, h2, h3⟩))
    · exact .inr (.inl ⟨h1, h2⟩)
  · exact .inl h1
theorem eqC_any (l m : List Int) (a b : Option Addr) (c d : Nat) (w : World) (hA : CdS w a l) (hB : CdS w b m) (hl : l.length ≤ 140737488351232) (hm : m.length ≤ 140737488351232) : Calls Tryz.prog 35 #[.slice a l.length c, .slice b m.length d] w (Gives (.bool (eqv l m)) w) := by
  by_cases hlen : l.length = m.length
  · have HA := Lib.hid fun W (hb : Below w.heap.size w W) => hA.below hb
    have HB := Lib.hid fun W (hb : Below w.heap.size w W) => hB.below hb
    have HN : Hid (∀ i (h : i < l.length) (h2 : i < m.length), l[i] ≠ m[i] → eqv l m = false) := fun i h h2 e => eqv_no fun q => e (by subst q; rfl)
    have HY : Hid (l.take l.length = m.take l.length → eqv l m = true) := fun h => eqv_yes (by rw [List.take_length, hlen, List.take_length] at h; exact h)
    generalize eqv l m = R at HN HY ⊢
    have hlen' := hlen.symm
    rw [hlen']
    have HE := Lib.hid hlen
    clear hA hB hlen hlen' hm
    have q0 : ((l.length : Int) != (l.length : Int)) = false := by simp
    go_enter Tryz.func35, Tryz.ntmps35
    go_wp2_with fail
    go_loopw [13] (fun i wr => ∃ j : Nat, i = .int .i64 j ∧ j ≤ l.length ∧ Hid (l.take j = m.take j) ∧ Hid (Below w.heap.size w wr)) (fun i _ => l.length - (RowKit.intOf i).toNat)
    case atStart => exact ⟨0, rfl, Nat.zero_le _, by exact rfl, Below.refl _ _⟩
    case round =>
      obtain ⟨j, rfl, hj, HT, HW⟩ := hrel
      by_cases hlt : j < l.length
      · have hlt2 : j < m.length := by have := HE.out; omega
        obtain ⟨b1, p1, rfl, c0⟩ := HA.out _ HW.out j hlt
        obtain ⟨b2, p2, rfl, d0⟩ := HB.out _ HW.out j hlt2
        have HNj := Lib.hid (HN.out j hlt hlt2)
        by_cases he : l[j] = m[j]
        · have HT2 := Lib.hid (take_eq hlt hlt2 HT.out he)
          rw [← he] at d0
          clear HNj he HT HN HY HA HB
          generalize l[j] = x at c0 d0
          go_wp2_with fail
          go_region
          go_wp2_with fail
          exact ⟨⟨j + 1, by go_num, by omega, HT2.out, HW.out.drew⟩, by simp [RowKit.intOf]; omega⟩
        · have HR := HNj.out he
          subst HR
          clear HNj HT HN HY HA HB
          generalize l[j] = x at c0 he
          generalize m[j] = y at d0 he
          have q : (x != y) = true := by simpa using he
          go_wp2_with fail
          go_region
          go_wp2_with fail
          go_ret
          exact ⟨rfl, HW.out.drew⟩
      · obtain rfl : j = l.length := by omega
        have HR := HY.out HT.out
        subst HR
        clear HN HY HT HA HB
        go_wp2_with fail
        go_ret
        exact ⟨rfl, HW.out⟩
  · have hR : eqv l m = false := eqv_no fun q => hlen (by rw [q])
    rw [hR]
    have q : ((l.length : Int) != (m.length : Int)) = true := by rw [bne_iff_ne]; omega
    clear hA hB hR
    go_enter Tryz.func35, Tryz.ntmps35
    go_wp2_with fail
    go_ret
    exact ⟨rfl, Below.refl _ _⟩
theorem eqI_any (l m : List It) (a b : Option Addr) (c d : Nat) (w : World) (hA : ItS w a l) (hB : ItS w b m) (hl : l.length ≤ 140737488351232) (hm : m.length ≤ 140737488351232) : Calls Tryz.prog 34 #[.slice a l.length c, .slice b m.length d] w (Gives (.bool (eqv l m)) w) := by
  by_cases hlen : l.length = m.length
  · have HA := Lib.hid fun W (hb : Below w.heap.size w W) => hA.below hb
    have HB := Lib.hid fun W (hb : Below w.heap.size w W) => hB.below hb
    have HN : Hid (∀ i (h : i < l.length) (h2 : i < m.length), l[i] ≠ m[i] → eqv l m = false) := fun i h h2 e => eqv_no fun q => e (by subst q; rfl)
    have HY : Hid (l.take l.length = m.take l.length → eqv l m = true) := fun h => eqv_yes (by rw [List.take_length, hlen, List.take_length] at h; exact h)
    generalize eqv l m = R at HN HY ⊢
    have hlen' := hlen.symm
    rw [hlen']
    have HE := Lib.hid hlen
    clear hA hB hlen hlen' hm
    have q0 : ((l.length : Int) != (l.length : Int)) = false := by simp
    go_enter Tryz.func34, Tryz.ntmps34
    go_wp2_with fail
    go_loopw [13] (fun i wr => ∃ j : Nat, i = .int .i64 j ∧ j ≤ l.length ∧ Hid (l.take j = m.take j) ∧ Hid (Below w.heap.size w wr)) (fun i _ => l.length - (RowKit.intOf i).toNat)
    case atStart => exact ⟨0, rfl, Nat.zero_le _, by exact rfl, Below.refl _ _⟩
    case round =>
      obtain ⟨j, rfl, hj, HT, HW⟩ := hrel
      by_cases hlt : j < l.length
      · have hlt2 : j < m.length := by have := HE.out; omega
        obtain ⟨b1, p1, rfl, c0, c1, c2, c3, c4, c5⟩ := HA.out _ HW.out j hlt
        obtain ⟨b2, p2, rfl, d0, d1, d2, d3, d4, d5⟩ := HB.out _ HW.out j hlt2
        have HNj := Lib.hid (HN.out j hlt hlt2)
        by_cases he : l[j] = m[j]
        · have HT2 := Lib.hid (take_eq hlt hlt2 HT.out he)
          rw [← he] at d0 d1 d2 d3 d4 d5
          clear HNj he HT HN HY HA HB
          generalize l[j] = x at c0 c1 c2 c3 c4 c5 d0 d1 d2 d3 d4 d5
          obtain ⟨x0, x1, x2, x3, x4, x5⟩ := x
          dsimp only at c0 c1 c2 c3 c4 c5 d0 d1 d2 d3 d4 d5
          have e0 : (x0.toList == x0.toList) = true := by simp
          have e4 : (x4.toList == x4.toList) = true := by simp
          go_wp2_with fail
          go_region
          go_wp2_with fail
          exact ⟨⟨j + 1, by go_num, by omega, HT2.out, HW.out.drew⟩, by simp [RowKit.intOf]; omega⟩
        · have HR := HNj.out he
          have hc := it_ne he
          subst HR
          clear HNj he HT HN HY HA HB
          generalize l[j] = x at c0 c1 c2 c3 c4 c5 hc
          generalize m[j] = y at d0 d1 d2 d3 d4 d5 hc
          obtain ⟨x0, x1, x2, x3, x4, x5⟩ := x
          obtain ⟨y0, y1, y2, y3, y4, y5⟩ := y
          dsimp only at c0 c1 c2 c3 c4 c5 d0 d1 d2 d3 d4 d5 hc
          rcases hc with h | ⟨rfl, h⟩ | ⟨rfl, rfl, h⟩ | ⟨rfl, rfl, rfl, h⟩ | ⟨rfl, rfl, rfl, rfl, h⟩ | ⟨rfl, rfl, rfl, rfl, rfl, h⟩
          · have q := text_neb h
            go_wp2_with fail
            go_region
            go_wp2_with fail
            go_ret
            exact ⟨rfl, HW.out.drew⟩
          · have q := beq_eq_false_iff_ne.2 h
            go_wp2_with fail
            go_region
            go_wp2_with fail
            go_ret
            exact ⟨rfl, HW.out.drew⟩
          · have q := beq_eq_false_iff_ne.2 h
            go_wp2_with fail
            go_region
            go_wp2_with fail
            go_ret
            exact ⟨rfl, HW.out.drew⟩
          · have q := beq_eq_false_iff_ne.2 h
            go_wp2_with fail
            go_region
            go_wp2_with fail
            go_ret
            exact ⟨rfl, HW.out.drew⟩
          · have q := text_neb h
            go_wp2_with fail
            go_region
            go_wp2_with fail
            go_ret
            exact ⟨rfl, HW.out.drew⟩
          · have q := beq_eq_false_iff_ne.2 h
            go_wp2_with fail
            go_region
            go_wp2_with fail
            go_ret
            exact ⟨rfl, HW.out.drew⟩
      · obtain rfl : j = l.length := by omega
        have HR := HY.out HT.out
        subst HR
        clear HN HY HT HA HB
        go_wp2_with fail
        go_ret
        exact ⟨rfl, HW.out⟩
  · have hR : eqv l m = false := eqv_no fun q => hlen (by rw [q])
    rw [hR]
    have q : ((l.length : Int) != (m.length : Int)) = true := by rw [bne_iff_ne]; omega
    clear hA hB hR
    go_enter Tryz.func34, Tryz.ntmps34
    go_wp2_with fail
    go_ret
    exact ⟨rfl, Below.refl _ _⟩
end Go.Proofs.YtiodjaeonoheiaaGreatDoor.T
