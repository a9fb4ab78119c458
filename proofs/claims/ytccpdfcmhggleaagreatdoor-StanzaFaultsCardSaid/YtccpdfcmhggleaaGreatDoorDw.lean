/- The contract of the document's Weight: how much an element is, if it is not too much. No condition. -/
import Derived.Test.YtccpdfcmhggleaaGreatDoorDa
import Derived.Test.YtccpdfcmhggleaaGreatDoorBd
namespace Go.Proofs.YtccpdfcmhggleaaGreatDoor
open Go.RowKit Go.Lib Go.Shelf Tg Sn

/-- What Weight gives: a number; if it is at most 12000, how much the element is. -/
def WtP (e : El) (D : Int) (w : World) (r : Ending) (w' : World) : Prop :=
  (∃ n : Int, r = .returned (.int .i64 n) ∧ 0 ≤ n ∧ n ≤ 1125899906842624 + 12001 * (41 - D) ∧ (n ≤ 12000 → (wt e : Int) = n)) ∧ Below w.heap.size w w'
def weightP (e : El) : Prop := ∀ (D : Int) (B : Nat) (w : World) (v : Value), In B w e v → B ≤ w.heap.size → 0 ≤ D → D ≤ 41 →
    Calls Tryz.prog 7 #[v, .int .i64 12000, .int .i64 D] w (WtP e D w)

set_option maxRecDepth 100000 in
set_option maxHeartbeats 4000000 in
theorem weight_any (e : El) : weightP e := by
  refine El.ind (P := weightP) (fun sp nm atr tx ks ih => ?_) e
  intro D B w v hin hB hD0 hD
  generalize hE : El.mk sp nm atr tx ks = E at hin
  obtain rfl : E.ks = ks := by rw [← hE]; rfl
  clear hE
  have hsz := hin.sized
  obtain ⟨aA, cA, aK, cK, rfl, ⟨hq1, hq2⟩, hkm, hat, hks⟩ := hin.out
  obtain ⟨⟨s1, s2, s3, hal⟩, s4⟩ := hsz
  unfold maxLen at hkm
  have HS4 : Hid (∀ a ∈ E.atr, a.1.size ≤ 140737488351232 ∧ a.2.size ≤ 140737488351232) := s4
  have HW := Lib.hid (wt_eq E)
  have IH := Lib.hid ih
  have HB := Lib.hid hB
  have HAT := Lib.hid hat
  have HKS := Lib.hid hks
  have HW0 : Hid (Below w.heap.size w (w.alloc (.cells #[.string E.sp, .string E.nm, .slice aA E.atr.length cA, .string E.tx, .slice aK E.ks.length cK] 29))) := (Below.refl _ w).alloc (Nat.le_refl _) _
  have HX0 := Lib.hid (box_new w #[.string E.sp, .string E.nm, .slice aA E.atr.length cA, .string E.tx, .slice aK E.ks.length cK] 29)
  clear hin hB hat hks ih hq1 hq2 s4
  by_cases h40 : 40 < D
  · have f1 : decide (40 < D) = true := decide_eq_true h40
    go_enter Tryz.func7, Tryz.ntmps7
    go_wp2_with fail
    go_ret
    exact ⟨⟨12001, rfl, by omega, by omega, fun h => by omega⟩, HW0.out⟩
  have f1 : decide (40 < D) = false := decide_eq_false h40
  have hD40 : D ≤ 40 := by omega
  clear h40
  go_enter Tryz.func7, Tryz.ntmps7
  go_wp2_with fail
  go_loopw [7, 8] (fun s i wr => ∃ (k : Nat) (n : Int), i = .int .i64 k ∧ s = .int .i64 n ∧ k ≤ E.atr.length ∧ 0 ≤ n ∧ n ≤ 1125899906842624 ∧ Hid (n = 1 + E.sp.size + E.nm.size + E.tx.size + E.atr.length + wtA (E.atr.take k)) ∧ Hid (Below w.heap.size w wr) ∧ Hid (wr.heap[w.heap.size]? = some (.cells #[.string E.sp, .string E.nm, .slice aA E.atr.length cA, .string E.tx, .slice aK E.ks.length cK] 29 (0, 0)))) (fun _ i _ => E.atr.length - (RowKit.intOf i).toNat)
  case atStart => exact ⟨0, _, rfl, rfl, Nat.zero_le _, by omega, by omega, by (show _ = _); simp [wtA], HW0.out, HX0.out⟩
  case round =>
    obtain ⟨k, n, rfl, rfl, hk, hn0, hn1, HO, HB1, HX⟩ := hrel
    clear HW0 HX0
    obtain ⟨x0, x1, x2, x3, x4⟩ := bx5 HX.out
    by_cases hgo : k < E.atr.length ∧ n ≤ 12000
    · obtain ⟨hlt, hle⟩ := hgo
      obtain ⟨b, o, rfl, hb, y0, y1⟩ := (HAT.out.below (HB1.out.mono HB.out)) k hlt
      have z0 : ∀ x : Ext wr, x.to.cell? ⟨b, o + k * 2, none⟩ = some (.string E.atr[k].1) := fun x => ext_cell x y0
      have z1 : ∀ x : Ext wr, x.to.cell? ⟨b, o + k * 2 + 1, none⟩ = some (.string E.atr[k].2) := fun x => ext_cell x y1
      have z2 : ∀ x : Ext wr, x.to.cell? ⟨w.heap.size, 2, none⟩ = some (.slice (some ⟨b, o, none⟩) E.atr.length cA) := fun x => ext_cell x x2
      obtain ⟨g1, g2⟩ := HS4.out _ (List.getElem_mem hlt)
      have HT := Lib.hid (wtA_take hlt)
      have hs := extSome wr
      generalize E.atr[k] = p at z0 z1 g1 g2 HT
      obtain ⟨p1, p2⟩ := p
      simp only at z0 z1 g1 g2 HT
      have W1 : IntKind.i64.wrap (n + (p1.size : Int)) = n + (p1.size : Int) := wrap_in (by omega) (by omega)
      have W2 : IntKind.i64.wrap (n + (p1.size : Int) + (p2.size : Int)) = n + (p1.size : Int) + (p2.size : Int) := wrap_in (by omega) (by omega)
      have HO2 : Hid (n + (p1.size : Int) + (p2.size : Int) = 1 + E.sp.size + E.nm.size + E.tx.size + E.atr.length + wtA (E.atr.take (k + 1))) := by
        have h1 := HO.out
        have h2 := HT.out
        show _ = _
        omega
      have hq : n + (p1.size : Int) + (p2.size : Int) ≤ 1125899906842624 := by omega
      have hq2 : 0 ≤ n + (p1.size : Int) + (p2.size : Int) := by omega
      clear y0 y1 hb HT HO
      go_wp2_with fail
      refine ext_region (by kernel_rfl) (by kernel_rfl) ?_
      repeat (go_big_quiet_step (fail))
      refine wpQuiet_nil ?_
      rintro _ ⟨x, hx⟩
      subst hx
      have HBX := Lib.hid (HB1.out.trans (x.below.mono HB1.out.size))
      have HXX := Lib.hid ((x.below.block _ (heap_lt HX.out)).trans HX.out)
      clear z0 z1 z2 W1 W2
      go_wp2_with fail
      go_roundw
      case rel => exact ⟨k + 1, _, by go_num, rfl, by omega, hq2, hq, HO2.out, HBX.out, HXX.out⟩
      case measure => simp [RowKit.intOf]; omega
    · have HS : Hid (n ≤ 12000 → n = 1 + E.sp.size + E.nm.size + E.tx.size + E.atr.length + wtA E.atr) := by
        intro h
        have hke : ¬ k < E.atr.length := fun h2 => hgo ⟨h2, h⟩
        have := HO.out
        rwa [List.take_of_length_le (by omega)] at this
      clear HO HS4
      by_cases hlt : k < E.atr.length
      case' pos =>
        have hn2 : 12000 < n := by
          rcases Int.lt_or_le 12000 n with h | h
          · exact h
          · exact absurd ⟨hlt, h⟩ hgo
        clear hgo
        go_wp2_with fail
      case' neg =>
        clear hgo
        go_wp2_with fail
      all_goals
        go_loopw [7, 9] (fun s i wr => ∃ (j : Nat) (m : Int), i = .int .i64 j ∧ s = .int .i64 m ∧ j ≤ E.ks.length ∧ 0 ≤ m ∧ m ≤ 1125899906842624 + 12001 * (41 - D) ∧ Hid (m ≤ 12000 → m = 1 + E.sp.size + E.nm.size + E.tx.size + E.atr.length + wtA E.atr + wts (E.ks.take j)) ∧ Hid (Below w.heap.size w wr) ∧ Hid (wr.heap[w.heap.size]? = some (.cells #[.string E.sp, .string E.nm, .slice aA E.atr.length cA, .string E.tx, .slice aK E.ks.length cK] 29 (0, 0)))) (fun _ i _ => E.ks.length - (RowKit.intOf i).toNat)
        case atStart => exact ⟨0, n, rfl, rfl, Nat.zero_le _, hn0, by omega, fun h => by have := HS.out h; simpa [wts] using this, HB1.out, HX.out⟩
        case round =>
          obtain ⟨j, m, rfl, rfl, hj, hm0, hm1, HO, HB2, HX2⟩ := hrel
          clear x0 x1 x2 x3 x4 HB1 HX
          obtain ⟨x0, x1, x2, x3, x4⟩ := bx5 HX2.out
          by_cases hgo : j < E.ks.length ∧ m ≤ 12000
          · obtain ⟨hjl, hmle⟩ := hgo
            obtain ⟨b, o, a1, c1, a2, c2, rfl, hb, hf5, hkin⟩ := (HKS.out.below (HB2.out.mono HB.out)) j hjl
            obtain ⟨y0, y1, y2, y3, y4⟩ := hf5
            have HC := Lib.hid (IH.out _ (List.getElem_mem hjl) (D + 1) B _ _ hkin (Nat.le_trans HB.out HB2.out.size) (by omega) (by omega))
            have HT := Lib.hid (wts_take hjl)
            clear hkin hb
            go_wp2_with fail
            refine HC.out.mono ?_
            rintro r w2 ⟨⟨q, rfl, hq0, hq1, hq2⟩, hbb⟩
            have HB3 := Lib.hid (HB2.out.trans (hbb.mono HB2.out.size))
            have HX3 := Lib.hid ((hbb.block _ (heap_lt HX2.out)).trans HX2.out)
            have HO2 : Hid (m + q ≤ 12000 → m + q = 1 + E.sp.size + E.nm.size + E.tx.size + E.atr.length + wtA E.atr + wts (E.ks.take (j + 1))) := by
              intro h
              have h1 := HO.out (by omega)
              have h2 := hq2 (by omega)
              have h3 := HT.out
              omega
            have hr1 : 0 ≤ m + q := by omega
            have hr2 : m + q ≤ 1125899906842624 + 12001 * (41 - D) := by omega
            clear hbb HC x0 x1 x2 x3 x4 y0 y1 y2 y3 y4 HT HO hq2
            go_wp2_with fail
            go_roundw
            case rel => exact ⟨j + 1, m + q, by go_num, rfl, by omega, hr1, hr2, HO2.out, HB3.out, HX3.out⟩
            case measure => simp [RowKit.intOf]; omega
          · have HR : Hid (m ≤ 12000 → (wt E : Int) = m) := by
              intro h
              have hje : ¬ j < E.ks.length := fun h2 => hgo ⟨h2, h⟩
              have h1 := HO.out h
              rw [List.take_of_length_le (by omega)] at h1
              have h2 := HW.out
              omega
            clear HO
            by_cases hjl : j < E.ks.length
            · have hm2 : 12000 < m := by
                rcases Int.lt_or_le 12000 m with h | h
                · exact h
                · exact absurd ⟨hjl, h⟩ hgo
              clear hgo
              go_wp2_with fail
              go_ret
              exact ⟨⟨m, rfl, hm0, hm1, HR.out⟩, HB2.out⟩
            · clear hgo
              go_wp2_with fail
              go_ret
              exact ⟨⟨m, rfl, hm0, hm1, HR.out⟩, HB2.out⟩
end Go.Proofs.YtccpdfcmhggleaaGreatDoor
