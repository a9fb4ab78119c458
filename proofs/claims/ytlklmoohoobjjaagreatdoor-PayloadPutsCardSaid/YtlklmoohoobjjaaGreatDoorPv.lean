/- The law's count of entries; the document's Same on equal lists. Conditions: those of each theorem's head. -/
import Derived.Test.YtlklmoohoobjjaaGreatDoorPu
import Derived.Test.YtlklmoohoobjjaaGreatDoorJr
namespace Go.Proofs.YtlklmoohoobjjaaGreatDoor
open Go.RowKit Go.Lib Go.Shelf Tg

/-- How many bytes an entry's texts have. -/
def En.wt (e : En) : Nat := e.n.size + e.d.size + e.r.size + e.nm.size + e.g.size
def wtN (l : List En) : Nat := (l.map En.wt).sum
theorem wtN_snoc {l : List En} {k : Nat} (h : k < l.length) : wtN (l.take (k + 1)) = wtN (l.take k) + l[k].wt := by
  unfold wtN
  rw [List.take_succ_eq_append_getElem h, List.map_append, List.sum_append]; simp
theorem wtN_mem {l : List En} {e : En} (h : e ∈ l) : e.wt ≤ wtN l := by
  induction l with
  | nil => cases h
  | cons a r ih =>
    have e1 : wtN (a :: r) = a.wt + wtN r := by simp [wtN]
    rcases List.mem_cons.1 h with rfl | h
    · omega
    · have := ih h; omega
def LeP (l : List En) (w : World) (r : Ending) (w' : World) : Prop := (∃ b, r = .returned (.bool b) ∧ (b = true → l.length ≤ 60 ∧ wtN l ≤ 10000)) ∧ Below w.heap.size w w'
theorem LeP.no {l : List En} {w w' : World} (hb : Below w.heap.size w w') : LeP l w (.returned (.bool false)) w' := ⟨⟨false, rfl, fun h => by cases h⟩, hb⟩
theorem LeP.yes {l : List En} {w w' : World} (hb : Below w.heap.size w w') (h1 : l.length ≤ 60) (h2 : wtN l ≤ 10000) : LeP l w (.returned (.bool true)) w' := ⟨⟨true, rfl, fun _ => ⟨h1, h2⟩⟩, hb⟩
/-- Texts as long as a machine may have. -/
def En.Rz (e : En) : Prop := e.n.size ≤ 140737488351232 ∧ e.d.size ≤ 140737488351232 ∧ e.r.size ≤ 140737488351232 ∧ e.nm.size ≤ 140737488351232 ∧ e.g.size ≤ 140737488351232
set_option maxRecDepth 100000 in
set_option maxHeartbeats 8000000 in
theorem lawEntries_any (l : List En) (aL : Option Addr) (cL : Nat) (w : World) (hL : EnS (fun _ => True) w aL l) (hz : ∀ e ∈ l, e.Rz) (hn : l.length ≤ maxLen) :
    Calls Tryz.prog 21 #[.slice aL l.length cL] w (LeP l w) := by
  have HL := Lib.hid hL
  have HZ := Lib.hid hz
  unfold maxLen at hn
  have HB0 := Lib.hid (Below.refl w.heap.size w)
  have HN0 : Hid (0 = wtN (l.take 0)) := by show _ = _; simp [wtN]
  clear hL hz
  go_enter Tryz.func21, Tryz.ntmps21
  go_wp2_with fail
  go_loopw [3, 4] (fun v i wr => ∃ (k n : Nat), i = .int .i64 k ∧ v = .int .i64 n ∧ k ≤ l.length ∧ k ≤ 61 ∧ n ≤ 800000000000000 ∧ Hid (n = wtN (l.take k)) ∧ Hid (Below w.heap.size w wr)) (fun _ i _ => 62 - (RowKit.intOf i).toNat)
  case atStart => exact ⟨0, 0, rfl, rfl, Nat.zero_le _, by decide, by decide, HN0.out, HB0.out⟩
  case round =>
    clear HB0 HN0
    obtain ⟨k, n, rfl, rfl, hk, hk61, hnb, HN, HB⟩ := hrel
    by_cases h1 : k < l.length
    · by_cases h2 : k ≤ 60
      · by_cases h3 : n ≤ 10000
        · obtain ⟨b, o, rfl, _, hs⟩ := HL.out k h1
          obtain ⟨y0, y1, y2, y3, y4, y5⟩ := hs.keep (w' := wr) (HB.out.block b hs.lt)
          obtain ⟨z1, z2, z3, z4, z5⟩ := HZ.out _ (List.getElem_mem h1)
          have HNX := Lib.hid (wtN_snoc h1)
          unfold En.wt at HNX
          generalize l[k] = e at y0 y1 y2 y3 y4 y5 z1 z2 z3 z4 z5 HNX
          have HNY : Hid (n + e.n.size + e.d.size + e.r.size + e.nm.size + e.g.size = wtN (l.take (k + 1))) := by
            show _ = _
            rw [HNX.out, ← HN.out]; omega
          have c1 : ((k : Int) < l.length) := by omega
          have c2 : ((k : Int) ≤ 60) := by omega
          have c3 : ((n : Int) ≤ 10000) := by omega
          have c4 : (0 : Int) ≤ k := by omega
          clear hs HNX
          go_wp2_with fail
          go_region
          clear y0 y1 y2 y3 y4 y5
          go_wp2_with fail
          go_roundw
          case rel => exact ⟨k + 1, n + e.n.size + e.d.size + e.r.size + e.nm.size + e.g.size, by go_num, by go_num, by omega, by omega, by omega, HNY.out, HB.out.drew⟩
          case measure => simp [RowKit.intOf]; omega
        · have c1 : ((k : Int) < l.length) := by omega
          have c2 : ((k : Int) ≤ 60) := by omega
          have c3 : ¬ ((n : Int) ≤ 10000) := by omega
          by_cases h4 : l.length ≤ 60
          · have c4 : ((l.length : Int) ≤ 60) := by omega
            clear HL HZ
            go_wp2_with fail
            go_ret
            exact LeP.no HB.out
          · have c4 : ¬ ((l.length : Int) ≤ 60) := by omega
            clear HL HZ
            go_wp2_with fail
            go_ret
            exact LeP.no HB.out
      · have c1 : ((k : Int) < l.length) := by omega
        have c2 : ¬ ((k : Int) ≤ 60) := by omega
        have c4 : ¬ ((l.length : Int) ≤ 60) := by omega
        clear HL HZ
        go_wp2_with fail
        go_ret
        exact LeP.no HB.out
    · have hkl : k = l.length := by omega
      have HN2 : Hid (n = wtN l) := by
        have := HN.out
        rw [hkl, List.take_of_length_le (Nat.le_refl _)] at this
        exact this
      have c1 : ¬ ((k : Int) < l.length) := by omega
      by_cases h4 : l.length ≤ 60
      · have c4 : ((l.length : Int) ≤ 60) := by omega
        by_cases h3 : n ≤ 10000
        · have c3 : ((n : Int) ≤ 10000) := by omega
          clear HL HZ
          go_wp2_with fail
          go_ret
          exact LeP.yes HB.out h4 (by rw [← HN2.out]; exact h3)
        · have c3 : ¬ ((n : Int) ≤ 10000) := by omega
          clear HL HZ
          go_wp2_with fail
          go_ret
          exact LeP.no HB.out
      · have c4 : ¬ ((l.length : Int) ≤ 60) := by omega
        clear HL HZ
        go_wp2_with fail
        go_ret
        exact LeP.no HB.out
set_option maxRecDepth 100000 in
set_option maxHeartbeats 8000000 in
theorem same10_yes (l : List En) (a1 a2 : Option Addr) (c1 c2 : Nat) (w : World) (hA : EnS (fun _ => True) w a1 l) (hB : EnS (fun _ => True) w a2 l) (hn : l.length ≤ 1000) :
    Calls Tryz.prog 28 #[.slice a1 l.length c1, .slice a2 l.length c2] w fun r w' => r = .returned (.bool true) ∧ Below w.heap.size w w' := by
  have HA := Lib.hid hA
  have HB := Lib.hid hB
  have HW0 := Lib.hid (Below.refl w.heap.size w)
  clear hA hB
  go_enter Tryz.func28, Tryz.ntmps28
  go_wp2_with fail
  go_loopw [5] (fun i wr => ∃ k : Nat, i = .int .i64 k ∧ k ≤ l.length ∧ Hid (Below w.heap.size w wr)) (fun i _ => l.length - (RowKit.intOf i).toNat)
  case atStart => exact ⟨0, rfl, Nat.zero_le _, HW0.out⟩
  case round =>
    clear HW0
    obtain ⟨k, rfl, hk, HW⟩ := hrel
    by_cases h1 : k < l.length
    · obtain ⟨b, o, rfl, _, hs⟩ := HA.out k h1
      obtain ⟨b', o', rfl, _, hs'⟩ := HB.out k h1
      obtain ⟨y0, y1, y2, y3, y4, y5⟩ := hs.keep (w' := wr) (HW.out.block b hs.lt)
      obtain ⟨z0, z1, z2, z3, z4, z5⟩ := hs'.keep (w' := wr) (HW.out.block b' hs'.lt)
      generalize l[k] = e at y0 y1 y2 y3 y4 y5 z0 z1 z2 z3 z4 z5
      obtain ⟨ek, n, d, r, nm, g⟩ := e
      simp only at y0 y1 y2 y3 y4 y5 z0 z1 z2 z3 z4 z5
      clear hs hs'
      have c1 : ((k : Int) < l.length) := by omega
      have c4 : (0 : Int) ≤ k := by omega
      go_wp2_with fail
      go_region
      clear y0 y1 y2 y3 y4 y5 z0 z1 z2 z3 z4 z5
      go_wp2_with fail
      go_roundw
      case rel => exact ⟨k + 1, by go_num, by omega, HW.out.drew⟩
      case measure => simp [RowKit.intOf]; omega
    · have c1 : ¬ ((k : Int) < l.length) := by omega
      clear HA HB
      go_wp2_with fail
      go_ret
      exact ⟨rfl, HW.out⟩
end Go.Proofs.YtlklmoohoobjjaaGreatDoor
