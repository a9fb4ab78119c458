/- Contracts: slices.Equal of items and of numbers. Conditions: those of each theorem's head. -/
import Derived.Test.YtclkehfnakhljaaDoorZs
namespace Go.Proofs.YtclkehfnakhljaaDoor.T
open Go.RowKit Go.Lib By

noncomputable def eqv {α : Type} (x y : α) : Bool := @decide (x = y) (Classical.propDecidable _)
theorem eqv_yes {α : Type} {x y : α} (h : x = y) : eqv x y = true := by unfold eqv; exact (@decide_eq_true_iff _ (Classical.propDecidable _)).2 h
theorem eqv_no {α : Type} {x y : α} (h : x ≠ y) : eqv x y = false := by rw [Bool.eq_false_iff]; intro e; unfold eqv at e; exact h ((@decide_eq_true_iff _ (Classical.propDecidable _)).1 e)
theorem take_eq {α : Type} {l m : List α} {k : Nat} (hl : k < l.length) (hm : k < m.length) (h : l.take k = m.take k) (he : l[k] = m[k]) : l.take (k + 1) = m.take (k + 1) := by
  rw [List.take_succ_eq_append_getElem hl, List.take_succ_eq_append_getElem hm, h, he]
theorem text_ne {a b : ByteArray} (h : a ≠ b) : ¬ a.toList = b.toList := fun e => h (by rw [ByteArray.toList_eq, ByteArray.toList_eq] at e; rw [← mk_self a, ← mk_self b, e])
theorem text_neb {a b : ByteArray} (h : a ≠ b) : (a.toList == b.toList) = false := by rw [beq_eq_false_iff_ne]; exact text_ne h
theorem it_ne {x y : It} (h : x ≠ y) : x.n ≠ y.n ∨ (x.n = y.n ∧ x.g ≠ y.g) ∨ (x.n = y.n ∧ x.g = y.g ∧ x.i ≠ y.i) ∨ (x.n = y.n ∧ x.g = y.g ∧ x.i = y.i ∧ x.t ≠ y.t) ∨ (x.n = y.n ∧ x.g = y.g ∧ x.i = y.i ∧ x.t = y.t ∧ x.a ≠ y.a) ∨ (x.n = y.n ∧ x.g = y.g ∧ x.i = y.i ∧ x.t = y.t ∧ x.a = y.a ∧ x.w ≠ y.w) := by
  by_cases h1 : x.n = y.n
  · by_cases h2 : x.g = y.g
    · by_cases h3 : x.i = y.i
      · by_cases h4 : x.t = y.t
        · by_cases h5 : x.a = y.a
          · by_cases h6 : x.w = y.w
            · exact absurd (by cases x; cases y; simp_all) h
            · exact .inr (.inr (.inr (.inr (.inr ⟨h1, h2, h3, h4, h5, h6⟩))))
          · exact .inr (.inr (.inr (.inr (.inl ⟨h1, h2, h3, h4, h5⟩))))
        · exact .inr (.inr (.inr (.inl ⟨h1, h2, h3, h4⟩)))
      · exact .inr (.inr (.inl ⟨h1, h2, h3⟩))
    · exact .inr (.inl ⟨h1, h2⟩)
  · exact .inl h1
set_option maxRecDepth 100000 in
set_option maxHeartbeats 8000000 in
theorem eqC_any (l m : List Int) (a b : Option Addr) (c d : Nat) (w : World) (hA : CdS w a l) (hB : CdS w b m) (hl : l.length ≤ 140737488351232) (hm : m.length ≤ 140737488351232) : Calls Tryd.prog 27 #[.slice a l.length c, .slice b m.length d] w (Gives (.bool (eqv l m)) w) := by
  by_cases hlen : l.length = m.length
  · have HA := Lib.hid fun W (hb : Below w.heap.size w W) => hA.below hb
    have HB := Lib.hid fun W (hb : Below w.heap.size w W) => hB.below hb
    have HN : Hid (∀ i (h : i < l.length) (h2 : i < m.length), l[i] ≠ m[i] → eqv l m = false) := fun i h h2 e => eqv_no fun q => e (by subst q; rfl)
    have HY : Hid (l.take l.length = m.take l.length → eqv l m = true) := fun h => eqv_yes (by rw [List.take_length, hlen, List.take_length] at h; exact h)
    generalize eqv l m = R at HN HY ⊢
    have hlen' := hlen.symm
    rw [hlen']
    have HE := Lib.hid hlen
    clear hA hB hlen hlen' hm
    have q0 : ((l.length : Int) != (l.length : Int)) = false := by simp
    go_enter Tryd.func27, Tryd.ntmps27
    go_wp2_with fail
    go_loopw [13] (fun i wr => ∃ j : Nat, i = .int .i64 j ∧ j ≤ l.length ∧ Hid (l.take j = m.take j) ∧ Hid (Below w.heap.size w wr)) (fun i _ => l.length - (RowKit.intOf i).toNat)
    case atStart => exact ⟨0, rfl, Nat.zero_le _, by exact rfl, Below.refl _ _⟩
    case round =>
      obtain ⟨j, rfl, hj, HT, HW⟩ := hrel
      by_cases hlt : j < l.length
      · have hlt2 : j < m.length := by have := HE.out; omega
        obtain ⟨b1, p1, rfl, c0⟩ := HA.out _ HW.out j hlt
        obtain ⟨b2, p2, rfl, d0⟩ := HB.out _ HW.out j hlt2
        have HNj := Lib.hid (HN.out j hlt hlt2)
        by_cases he : l[j] = m[j]
        · have HT2 := Lib.hid (take_eq hlt hlt2 HT.out he)
          rw [← he] at d0
          clear HNj he HT HN HY HA HB
          generalize l[j] = x at c0 d0
          go_wp2_with fail
          go_region
          go_wp2_with fail
          exact ⟨⟨j + 1, by go_num, by omega, HT2.out, HW.out.drew⟩, by simp [RowKit.intOf]; omega⟩
        · have HR := HNj.out he
          subst HR
          clear HNj HT HN HY HA HB
          generalize l[j] = x at c0 he
          generalize m[j] = y at d0 he
          have q : (x != y) = true := by simpa using he
          go_wp2_with fail
          go_region
          go_wp2_with fail
          go_ret
          exact ⟨rfl, HW.out.drew⟩
      · obtain rfl : j = l.length := by omega
        have HR := HY.out HT.out
        subst HR
        clear HN HY HT HA HB
        go_wp2_with fail
        go_ret
        exact ⟨rfl, HW.out⟩
  · have hR : eqv l m = false := eqv_no fun q => hlen (by rw [q])
    rw [hR]
    have q : ((l.length : Int) != (m.length : Int)) = true := by rw [bne_iff_ne]; omega
    clear hA hB hR
    go_enter Tryd.func27, Tryd.ntmps27
    go_wp2_with fail
    go_ret
    exact ⟨rfl, Below.refl _ _⟩
set_option maxRecDepth 100000 in
set_option maxHeartbeats 8000000 in
theorem eqI_any (l m : List It) (a b : Option Addr) (c d : Nat) (w : World) (hA : ItS w a l) (hB : ItS w b m) (hl : l.length ≤ 140737488351232) (hm : m.length ≤ 140737488351232) : Calls Tryd.prog 26 #[.slice a l.length c, .slice b m.length d] w (Gives (.bool (eqv l m)) w) := by
  by_cases hlen : l.length = m.length
  · have HA := Lib.hid fun W (hb : Below w.heap.size w W) => hA.below hb
    have HB := Lib.hid fun W (hb : Below w.heap.size w W) => hB.below hb
    have HN : Hid (∀ i (h : i < l.length) (h2 : i < m.length), l[i] ≠ m[i] → eqv l m = false) := fun i h h2 e => eqv_no fun q => e (by subst q; rfl)
    have HY : Hid (l.take l.length = m.take l.length → eqv l m = true) := fun h => eqv_yes (by rw [List.take_length, hlen, List.take_length] at h; exact h)
    generalize eqv l m = R at HN HY ⊢
    have hlen' := hlen.symm
    rw [hlen']
    have HE := Lib.hid hlen
    clear hA hB hlen hlen' hm
    have q0 : ((l.length : Int) != (l.length : Int)) = false := by simp
    go_enter Tryd.func26, Tryd.ntmps26
    go_wp2_with fail
    go_loopw [13] (fun i wr => ∃ j : Nat, i = .int .i64 j ∧ j ≤ l.length ∧ Hid (l.take j = m.take j) ∧ Hid (Below w.heap.size w wr)) (fun i _ => l.length - (RowKit.intOf i).toNat)
    case atStart => exact ⟨0, rfl, Nat.zero_le _, by exact rfl, Below.refl _ _⟩
    case round =>
      obtain ⟨j, rfl, hj, HT, HW⟩ := hrel
      by_cases hlt : j < l.length
      · have hlt2 : j < m.length := by have := HE.out; omega
        obtain ⟨b1, p1, rfl, c0, c1, c2, c3, c4, c5⟩ := HA.out _ HW.out j hlt
        obtain ⟨b2, p2, rfl, d0, d1, d2, d3, d4, d5⟩ := HB.out _ HW.out j hlt2
        have HNj := Lib.hid (HN.out j hlt hlt2)
        by_cases he : l[j] = m[j]
        · have HT2 := Lib.hid (take_eq hlt hlt2 HT.out he)
          rw [← he] at d0 d1 d2 d3 d4 d5
          clear HNj he HT HN HY HA HB
          generalize l[j] = x at c0 c1 c2 c3 c4 c5 d0 d1 d2 d3 d4 d5
          obtain ⟨x0, x1, x2, x3, x4, x5⟩ := x
          dsimp only at c0 c1 c2 c3 c4 c5 d0 d1 d2 d3 d4 d5
          have e0 : (x0.toList == x0.toList) = true := by simp
          have e4 : (x4.toList == x4.toList) = true := by simp
          go_wp2_with fail
          go_region
          go_wp2_with fail
          exact ⟨⟨j + 1, by go_num, by omega, HT2.out, HW.out.drew⟩, by simp [RowKit.intOf]; omega⟩
        · have HR := HNj.out he
          have hc := it_ne he
          subst HR
          clear HNj he HT HN HY HA HB
          generalize l[j] = x at c0 c1 c2 c3 c4 c5 hc
          generalize m[j] = y at d0 d1 d2 d3 d4 d5 hc
          obtain ⟨x0, x1, x2, x3, x4, x5⟩ := x
          obtain ⟨y0, y1, y2, y3, y4, y5⟩ := y
          dsimp only at c0 c1 c2 c3 c4 c5 d0 d1 d2 d3 d4 d5 hc
          rcases hc with h | ⟨rfl, h⟩ | ⟨rfl, rfl, h⟩ | ⟨rfl, rfl, rfl, h⟩ | ⟨rfl, rfl, rfl, rfl, h⟩ | ⟨rfl, rfl, rfl, rfl, rfl, h⟩
          · have q := text_neb h
            go_wp2_with fail
            go_region
            go_wp2_with fail
            go_ret
            exact ⟨rfl, HW.out.drew⟩
          · have q := beq_eq_false_iff_ne.2 h
            go_wp2_with fail
            go_region
            go_wp2_with fail
            go_ret
            exact ⟨rfl, HW.out.drew⟩
          · have q := beq_eq_false_iff_ne.2 h
            go_wp2_with fail
            go_region
            go_wp2_with fail
            go_ret
            exact ⟨rfl, HW.out.drew⟩
          · have q := beq_eq_false_iff_ne.2 h
            go_wp2_with fail
            go_region
            go_wp2_with fail
            go_ret
            exact ⟨rfl, HW.out.drew⟩
          · have q := text_neb h
            go_wp2_with fail
            go_region
            go_wp2_with fail
            go_ret
            exact ⟨rfl, HW.out.drew⟩
          · have q := beq_eq_false_iff_ne.2 h
            go_wp2_with fail
            go_region
            go_wp2_with fail
            go_ret
            exact ⟨rfl, HW.out.drew⟩
      · obtain rfl : j = l.length := by omega
        have HR := HY.out HT.out
        subst HR
        clear HN HY HT HA HB
        go_wp2_with fail
        go_ret
        exact ⟨rfl, HW.out⟩
  · have hR : eqv l m = false := eqv_no fun q => hlen (by rw [q])
    rw [hR]
    have q : ((l.length : Int) != (m.length : Int)) = true := by rw [bne_iff_ne]; omega
    clear hA hB hR
    go_enter Tryd.func26, Tryd.ntmps26
    go_wp2_with fail
    go_ret
    exact ⟨rfl, Below.refl _ _⟩
end Go.Proofs.YtclkehfnakhljaaDoor.T
