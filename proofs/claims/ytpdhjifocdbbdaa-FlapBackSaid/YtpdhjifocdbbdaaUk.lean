/- Texts in memory; contracts: the document's Same on equal lists; small, num. Conditions: those of each theorem's head. -/
import Derived.Test.YtpdhjifocdbbdaaUj
namespace Go.Proofs.Ytpdhjifocdbbdaa
open Go.RowKit Go.Lib

theorem lnum_any (n : Int) (w : World) : Calls Try.prog 15 #[.int .i64 n] w (Pure (.int .i64 n) w) := by
  go_enter Try.func15, Try.ntmps15
  go_wp2_with fail
  go_ret
  exact ⟨rfl, rfl⟩
/-- What a law's walk leaves. -/
def OkL (w : World) (e : Ending) (w' : World) : Prop := e = .returned (.bool true) ∧ Below w.heap.size w w'
set_option maxRecDepth 100000 in
set_option maxHeartbeats 4000000 in
/-- Two lists of frames, the same ones. -/
theorem same_yes (l : List Fr) (a b : Option Addr) (c d : Nat) (w : World) (hA : FrS w a l) (hB : FrS w b l) (hn : l.length ≤ 140737488351232) :
    Calls Try.prog 14 #[.slice a l.length c, .slice b l.length d] w (Gives (.bool true) w) := by
  have HA := Lib.hid fun W (hb : Below w.heap.size w W) => hA.below hb
  have HB := Lib.hid fun W (hb : Below w.heap.size w W) => hB.below hb
  have H0 : Hid (Below w.heap.size w w) := Below.refl _ _
  clear hA hB
  go_enter Try.func14, Try.ntmps14
  go_wp2_with fail
  go_loopw [5] (fun i wr => ∃ j : Nat, i = .int .i64 j ∧ j ≤ l.length ∧ Hid (Below w.heap.size w wr)) (fun i _ => l.length - (RowKit.intOf i).toNat)
  case atStart => exact ⟨0, rfl, Nat.zero_le _, H0.out⟩
  case round =>
    clear H0
    obtain ⟨j, rfl, hj, H⟩ := hrel
    by_cases hlt : j < l.length
    · obtain ⟨b1, p1, rfl, c0, c1, c2⟩ := HA.out _ H.out j hlt
      obtain ⟨b2, p2, rfl, d0, d1, d2⟩ := HB.out _ H.out j hlt
      generalize l[j] = t at c0 c1 c2 d0 d1 d2
      have et : (t.d.toList == t.d.toList) = true := by simp
      go_wp2_with fail
      go_region
      go_wp2_with fail
      exact ⟨⟨j + 1, by go_num, by omega, H.out.drew⟩, by simp [RowKit.intOf]; omega⟩
    · obtain rfl : j = l.length := by omega
      go_wp2_with fail
      go_ret
      exact ⟨rfl, H.out⟩
/-- Behind an address the texts l. -/
def SS (w : World) (a : Option Addr) (l : List ByteArray) : Prop := ∀ i (h : i < l.length), ∃ b o, a = some ⟨b, o, none⟩ ∧ w.cell? ⟨b, o + i, none⟩ = some (.string l[i])
theorem SS.below {w w' : World} {a : Option Addr} {l : List ByteArray} (h : SS w a l) (hb : Below w.heap.size w w') : SS w' a l := fun i hi => by
  obtain ⟨b, o, e, c0⟩ := h i hi
  exact ⟨b, o, e, (hb.cell (p := ⟨b, _, none⟩) (World.block_lt_of_cell? _ _ c0)).trans c0⟩
/-- How many bytes they have. -/
def total (l : List ByteArray) : Nat := (l.map ByteArray.size).sum
theorem total_take {l : List ByteArray} {k : Nat} (h : k < l.length) : total (l.take (k + 1)) = total (l.take k) + l[k].size := by
  unfold total
  rw [List.take_succ_eq_append_getElem h, List.map_append, List.sum_append]
  show _ + (l[k].size + 0) = _
  rw [Nat.add_zero]
/-- What small answers. -/
def SmP (l : List ByteArray) (w : World) (e : Ending) (w' : World) : Prop := ∃ b, e = .returned (.bool b) ∧ w' = w ∧ (b = true → l.length ≤ 60 ∧ total l ≤ 30000)
set_option maxRecDepth 100000 in
set_option maxHeartbeats 4000000 in
theorem small_any (l : List ByteArray) (a : Option Addr) (c : Nat) (w : World) (hA : SS w a l) (hn : l.length ≤ 140737488351232) (hz : ∀ t ∈ l, t.size ≤ 140737488351232) :
    Calls Try.prog 9 #[.slice a l.length c] w (SmP l w) := by
  have HL := Lib.hid hA
  have HZ := Lib.hid hz
  clear hA hz
  have HP : Hid (∀ b, (b = true → l.length ≤ 60 ∧ total l ≤ 30000) → SmP l w (.returned (.bool b)) w) := fun b h => ⟨b, rfl, rfl, h⟩
  generalize hq : SmP l w = POST at HP ⊢
  clear hq
  go_enter Try.func9, Try.ntmps9
  go_wp2_with fail
  go_loopw [3, 4] (fun n i wr => ∃ (j m : Nat), i = .int .i64 j ∧ n = .int .i64 m ∧ j ≤ l.length ∧ m ≤ 140737488381232 ∧ Hid (m = total (l.take j)) ∧ wr = w) (fun _ i _ => l.length - (RowKit.intOf i).toNat)
  case atStart => exact ⟨0, 0, rfl, rfl, Nat.zero_le _, Nat.zero_le _, rfl, rfl⟩
  case round =>
    obtain ⟨j, m, rfl, rfl, hj, hm, HM, rfl⟩ := hrel
    by_cases h1 : j < l.length
    · by_cases h2 : j ≤ 60
      · by_cases h3 : m ≤ 30000
        · obtain ⟨b, p, rfl, c0⟩ := HL.out j h1
          have hv := HZ.out _ (List.getElem_mem h1)
          have HT : Hid (m + l[j].size = total (l.take (j + 1))) := by
            show _ = _
            rw [total_take h1, HM.out]
          generalize l[j] = t at c0 hv HT
          have q1 : ((j : Int) < l.length) := by omega
          have q2 : ((j : Int) ≤ 60) := by omega
          have q3 : ((m : Int) ≤ 30000) := by omega
          go_wp2_with fail
          exact ⟨⟨j + 1, m + t.size, by go_num, by go_num, by omega, by omega, HT.out, trivial⟩, by simp [RowKit.intOf]; omega⟩
        · have q1 : ((j : Int) < l.length) := by omega
          have q2 : ((j : Int) ≤ 60) := by omega
          have q3 : ¬ ((m : Int) ≤ 30000) := by omega
          by_cases h65 : l.length ≤ 60
          · have q65 : ((l.length : Int) ≤ 60) := by omega
            go_wp2_with fail
            exact HP.out _ (fun h => by cases h)
          · have q65 : ¬ ((l.length : Int) ≤ 60) := by omega
            go_wp2_with fail
            exact HP.out _ (fun h => by cases h)
      · have q1 : ((j : Int) < l.length) := by omega
        have q2 : ¬ ((j : Int) ≤ 60) := by omega
        have q65 : ¬ ((l.length : Int) ≤ 60) := by omega
        go_wp2_with fail
        exact HP.out _ (fun h => by cases h)
    · have q1 : ¬ ((j : Int) < l.length) := by omega
      have hall : l.take j = l := List.take_of_length_le (by omega)
      have HM2 : Hid (m = total l) := by
        have := HM.out
        rw [hall] at this
        exact this
      clear hall
      by_cases h65 : l.length ≤ 60
      · have q65 : ((l.length : Int) ≤ 60) := by omega
        by_cases h3 : m ≤ 30000
        · have q3 : ((m : Int) ≤ 30000) := by omega
          go_wp2_with fail
          exact HP.out _ (fun _ => ⟨h65, by have := HM2.out; omega⟩)
        · have q3 : ¬ ((m : Int) ≤ 30000) := by omega
          go_wp2_with fail
          exact HP.out _ (fun h => by cases h)
      · have q65 : ¬ ((l.length : Int) ≤ 60) := by omega
        go_wp2_with fail
        exact HP.out _ (fun h => by cases h)
end Go.Proofs.Ytpdhjifocdbbdaa
