/- Contracts: slices.Equal of items and of numbers. Conditions: those of each theorem's head. -/
import Derived.Test.YtdmbngkkbgmlfaaGreatDoorNa
namespace Go.Proofs.YtdmbngkkbgmlfaaGreatDoor.T
open Go.RowKit Go.Lib By

set_option maxRecDepth 100000 in
set_option maxHeartbeats 8000000 in
theorem eqI_any (l m : List It) (a b : Option Addr) (c d : Nat) (w : World) (hA : ItS w a l) (hB : ItS w b m) (hl : l.length ≤ 140737488351232) (hm : m.length ≤ 140737488351232) : Calls Tryz.prog 48 #[.slice a l.length c, .slice b m.length d] w (Gives (.bool (eqv l m)) w) := by
  by_cases hlen : l.length = m.length
  · have HA := Lib.hid fun W (hb : Below w.heap.size w W) => hA.below hb
    have HB := Lib.hid fun W (hb : Below w.heap.size w W) => hB.below hb
    have HN : Hid (∀ i (h : i < l.length) (h2 : i < m.length), l[i] ≠ m[i] → eqv l m = false) := fun i h h2 e => eqv_no fun q => e (by subst q; rfl)
    have HY : Hid (l.take l.length = m.take l.length → eqv l m = true) := fun h => eqv_yes (by rw [List.take_length, hlen, List.take_length] at h; exact h)
    generalize eqv l m = R at HN HY ⊢
    have hlen' := hlen.symm
    rw [hlen']
    have HE := Lib.hid hlen
    clear hA hB hlen hlen' hm
    have q0 : ((l.length : Int) != (l.length : Int)) = false := by simp
    go_enter Tryz.func48, Tryz.ntmps48
    go_wp2_with fail
    go_loopw [13] (fun i wr => ∃ j : Nat, i = .int .i64 j ∧ j ≤ l.length ∧ Hid (l.take j = m.take j) ∧ Hid (Below w.heap.size w wr)) (fun i _ => l.length - (RowKit.intOf i).toNat)
    case atStart => exact ⟨0, rfl, Nat.zero_le _, by exact rfl, Below.refl _ _⟩
    case round =>
      obtain ⟨j, rfl, hj, HT, HW⟩ := hrel
      by_cases hlt : j < l.length
      · have hlt2 : j < m.length := by have := HE.out; omega
        obtain ⟨b1, p1, rfl, c0, c1, c2, c3, c4, c5⟩ := HA.out _ HW.out j hlt
        obtain ⟨b2, p2, rfl, d0, d1, d2, d3, d4, d5⟩ := HB.out _ HW.out j hlt2
        have HNj := Lib.hid (HN.out j hlt hlt2)
        by_cases he : l[j] = m[j]
        · have HT2 := Lib.hid (take_eq hlt hlt2 HT.out he)
          rw [← he] at d0 d1 d2 d3 d4 d5
          clear HNj he HT HN HY HA HB
          generalize l[j] = x at c0 c1 c2 c3 c4 c5 d0 d1 d2 d3 d4 d5
          obtain ⟨x0, x1, x2, x3, x4, x5⟩ := x
          dsimp only at c0 c1 c2 c3 c4 c5 d0 d1 d2 d3 d4 d5
          have e0 : (x0.toList == x0.toList) = true := by simp
          have e4 : (x4.toList == x4.toList) = true := by simp
          go_wp2_with fail
          go_region
          go_wp2_with fail
          exact ⟨⟨j + 1, by go_num, by omega, HT2.out, HW.out.drew⟩, by simp [RowKit.intOf]; omega⟩
        · have HR := HNj.out he
          have hc := it_ne he
          subst HR
          clear HNj he HT HN HY HA HB
          generalize l[j] = x at c0 c1 c2 c3 c4 c5 hc
          generalize m[j] = y at d0 d1 d2 d3 d4 d5 hc
          obtain ⟨x0, x1, x2, x3, x4, x5⟩ := x
          obtain ⟨y0, y1, y2, y3, y4, y5⟩ := y
          dsimp only at c0 c1 c2 c3 c4 c5 d0 d1 d2 d3 d4 d5 hc
          rcases hc with h | ⟨rfl, h⟩ | ⟨rfl, rfl, h⟩ | ⟨rfl, rfl, rfl, h⟩ | ⟨rfl, rfl, rfl, rfl, h⟩ | ⟨rfl, rfl, rfl, rfl, rfl, h⟩
          · have q := text_neb h
            go_wp2_with fail
            go_region
            go_wp2_with fail
            go_ret
            exact ⟨rfl, HW.out.drew⟩
          · have q := beq_eq_false_iff_ne.2 h
            go_wp2_with fail
            go_region
            go_wp2_with fail
            go_ret
            exact ⟨rfl, HW.out.drew⟩
          · have q := beq_eq_false_iff_ne.2 h
            go_wp2_with fail
            go_region
            go_wp2_with fail
            go_ret
            exact ⟨rfl, HW.out.drew⟩
          · have q := beq_eq_false_iff_ne.2 h
            go_wp2_with fail
            go_region
            go_wp2_with fail
            go_ret
            exact ⟨rfl, HW.out.drew⟩
          · have q := text_neb h
            go_wp2_with fail
            go_region
            go_wp2_with fail
            go_ret
            exact ⟨rfl, HW.out.drew⟩
          · have q := beq_eq_false_iff_ne.2 h
            go_wp2_with fail
            go_region
            go_wp2_with fail
            go_ret
            exact ⟨rfl, HW.out.drew⟩
      · obtain rfl : j = l.length := by omega
        have HR := HY.out HT.out
        subst HR
        clear HN HY HT HA HB
        go_wp2_with fail
        go_ret
        exact ⟨rfl, HW.out⟩
  · have hR : eqv l m = false := eqv_no fun q => hlen (by rw [q])
    rw [hR]
    have q : ((l.length : Int) != (m.length : Int)) = true := by rw [bne_iff_ne]; omega
    clear hA hB hR
    go_enter Tryz.func48, Tryz.ntmps48
    go_wp2_with fail
    go_ret
    exact ⟨rfl, Below.refl _ _⟩
end Go.Proofs.YtdmbngkkbgmlfaaGreatDoor.T
