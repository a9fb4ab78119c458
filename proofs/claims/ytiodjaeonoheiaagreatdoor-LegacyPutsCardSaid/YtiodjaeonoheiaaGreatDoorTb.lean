/- Contracts: Int of tlv, and of the document. Conditions: those of each theorem's head. -/
import Derived.Test.YtiodjaeonoheiaaGreatDoorTa
import Derived.Test.YtiodjaeonoheiaaGreatDoorProg
import Derived.WalkKit
import Derived.WalkSpells
import Derived.WalkLawsBesides
import Derived.BigQuiet
import Derived.Lib.Hide
import Derived.LoopN
import Derived.Laws.OwnMore
set_option maxRecDepth 100000
set_option maxHeartbeats 2000000
namespace Go.Proofs.YtiodjaeonoheiaaGreatDoor.T
open Go.RowKit Go.Lib
theorem more {w a b : World} (h : Below w.heap.size w a) (hn : w.heap.size ≤ a.heap.size) (k : Below a.heap.size a b) : Below w.heap.size w b := h.trans (k.mono hn)
def Pure (v : Value) (w : World) (e : Ending) (w' : World) : Prop := e = .returned v ∧ w' = w
def Gives (v : Value) (w : World) (e : Ending) (w' : World) : Prop := e = .returned v ∧ Below w.heap.size w w'
theorem isWidth_any (n : Int) (w : World) : Calls Tryz.prog 107 #[.int .i64 n] w (Pure (.bool (wid n)) w) := by
  unfold wid
  by_cases h1 : n = 1
  · subst h1
    go_enter Tryz.func107, Tryz.ntmps107
    go_wp2_with fail
    go_ret
    exact ⟨rfl, rfl⟩
  by_cases h2 : n = 2
  · subst h2
    go_enter Tryz.func107, Tryz.ntmps107
    go_wp2_with fail
    go_ret
    exact ⟨rfl, rfl⟩
  by_cases h4 : n = 4
  · subst h4
    go_enter Tryz.func107, Tryz.ntmps107
    go_wp2_with fail
    go_ret
    exact ⟨rfl, rfl⟩
  have e1 : (n == 1) = false := by simpa using h1
  have e2 : (n == 2) = false := by simpa using h2
  have e4 : (n == 4) = false := by simpa using h4
  go_enter Tryz.func107, Tryz.ntmps107
  go_wp2_with fail
  go_ret
  refine ⟨?_, rfl⟩
  rw [e1, e2, e4]
  rfl
theorem rwidth_any (n : Int) (w : World) : Calls Tryz.prog 87 #[.int .i64 n] w (Pure (.bool (wid n)) w) := by
  unfold wid
  by_cases h1 : n = 1
  · subst h1
    go_enter Tryz.func87, Tryz.ntmps87
    go_wp2_with fail
    go_ret
    exact ⟨rfl, rfl⟩
  by_cases h2 : n = 2
  · subst h2
    go_enter Tryz.func87, Tryz.ntmps87
    go_wp2_with fail
    go_ret
    exact ⟨rfl, rfl⟩
  by_cases h4 : n = 4
  · subst h4
    go_enter Tryz.func87, Tryz.ntmps87
    go_wp2_with fail
    go_ret
    exact ⟨rfl, rfl⟩
  have e1 : (n == 1) = false := by simpa using h1
  have e2 : (n == 2) = false := by simpa using h2
  have e4 : (n == 4) = false := by simpa using h4
  go_enter Tryz.func87, Tryz.ntmps87
  go_wp2_with fail
  go_ret
  refine ⟨?_, rfl⟩
  rw [e1, e2, e4]
  rfl
def byteV (l : List UInt8) : List Value := l.map fun b => .int .u8 (b.toNat : Int)
theorem infoU8 : (Tryz.prog.info? 5).map (fun i => (i.zero, i.size, i.bytes)) = some (some (.int .u8 0), 1, 1) := by kernel_rfl
theorem fill_dig {K j x : Nat} (h : j < K) : (List.replicate (K - j) (Value.int .u8 0) ++ byteV (dig x j)).set (K - 1 - j) (.int .u8 ((x / 256 ^ j % 256 : Nat) : Int)) = List.replicate (K - (j + 1)) (.int .u8 0) ++ byteV (dig x (j + 1)) := by
  obtain ⟨d, rfl⟩ : ∃ d, K = j + 1 + d := ⟨K - (j + 1), by omega⟩
  have e1 : j + 1 + d - j = d + 1 := by omega
  have e2 : j + 1 + d - 1 - j = d := by omega
  have e3 : j + 1 + d - (j + 1) = d := by omega
  rw [e1, e2, e3, List.replicate_succ', List.append_assoc, List.set_append_right _ _ (by simp), List.length_replicate, Nat.sub_self, List.singleton_append, List.set_cons_zero, dig, byteV, byteV, List.map_cons, By.u_nat (Nat.mod_lt _ (by decide))]
theorem tok_conv {w : World} {N : Nat} {v : Value} {l : List UInt8} (h : w.ownsRow N 5 1 v l.length (byteV l)) : (convert 77 9 v).run Tryz.prog w = .ok (.string (mk l)) w := by
  rcases h.2 with ⟨rfl, h0⟩ | ⟨g, cap, cur, e0, q1, q2, q3, q4, q5, q6⟩
  · obtain rfl := List.length_eq_zero_iff.1 h0
    rw [run_convert_bytes_string w 77 9 5 none 0 0 Tryz.underlying77 Tryz.underlying5 Tryz.underlying9]
    rfl
  · subst e0
    refine run_convert_bytes_back w 77 9 5 _ cap l Tryz.underlying77 Tryz.underlying5 Tryz.underlying9 fun j hj => ?_
    have h0 : (⟨g, 0, none⟩ : Addr).add j = ⟨g, j, none⟩ := by unfold Addr.add; split <;> simp_all
    rw [h0, Lib.cell_of_heap q2]
    have hj2 : (byteV l)[j]? = some (.int .u8 (l[j].toNat : Int)) := by simp [byteV, List.getElem?_eq_getElem hj]
    rw [← q6, List.getElem?_take] at hj2
    split at hj2
    · simpa using hj2
    · cases hj2
end Go.Proofs.YtiodjaeonoheiaaGreatDoor.T
namespace Go.Proofs.YtiodjaeonoheiaaGreatDoor.T
open Go.RowKit Go.Lib
theorem shr_nat (x k : Nat) : (x : Int) / 2 ^ (8 * k) % 256 = ((x / 256 ^ k % 256 : Nat) : Int) := by
  rw [Nat.pow_mul 2 8 k |>.symm ▸ rfl |> fun h : (256 : Nat) ^ k = 2 ^ (8 * k) => h]
  simp
theorem quo_nat (x k : Nat) : ((x / 256 ^ k : Nat) : Int) / 256 = ((x / 256 ^ (k + 1) : Nat) : Int) := by
  rw [Nat.pow_succ, ← Nat.div_div_eq_div_mul]
  simp
theorem int_1 (x : Nat) (w : World) (hx : x < 256) : Calls Tryz.prog 83 #[.int .i64 x, .int .i64 1] w (Gives (.tuple #[.string (mk (dig x 1)), .int .i64 0]) w) := by
  obtain ⟨i0, hi0, hz0, hz1, hz2⟩ := info_parts infoU8
  obtain ⟨w3, hmk, hmo, hmg⟩ := run_makeSlice_full (P := Tryz.prog) w w.heap.size 77 5 i0 _ 1 Tryz.underlying77 hi0 hz0 hz1 .i64 .i64 1 (by omega) (by rw [hz2]; omega) (by unfold maxLen; omega) (Nat.le_refl _)
  have hmk' : (Instr.makeSlice 77 (.int .i64 1) (.int .i64 1)).run Tryz.prog w = .ok (.slice (some ⟨w.heap.size, 0, none⟩) 1 1) w3 := hmk
  have HX0 : Hid (w3.ownsRow w.heap.size 5 1 (.slice (some ⟨w.heap.size, 0, none⟩) 1 1) 1 (List.replicate (1 - 0) (.int .u8 0) ++ byteV (dig x 0))) := by
    show World.ownsRow _ _ _ _ _ _ _
    rw [show (Value.int IntKind.u8 0).cells = #[.int .u8 0] from rfl, toList_madeCells_one, Nat.mul_one] at hmo
    exact hmo
  have HB0 : Hid (Below w.heap.size w w3) := (Below.refl _ w).grown hmg (Nat.le_refl _) (fun b e => by cases e)
  clear hmo hmg hmk hi0 hz0 hz1 hz2
  go_enter Tryz.func83, Tryz.ntmps83
  go_wp2_with fail
  refine (isWidth_any _ _).mono ?_
  rintro e w1 ⟨rfl, hw⟩
  have hw := hw.symm
  subst hw
  rw [show wid 1 = true from rfl]
  have q1 : ¬ ((x : Int) < 0) := by omega
  have q2 : decide ((256 : Int) ≤ x) = false := by simp; omega
  have HLT := Lib.hid hx
  clear hx
  go_wp2_with fail
  go_loopw [26] (fun i wr => ∃ k : Nat, i = .int .i64 k ∧ k ≤ 1 ∧ Hid (wr.ownsRow w.heap.size 5 1 (.slice (some ⟨w.heap.size, 0, none⟩) 1 1) 1 (List.replicate (1 - k) (.int .u8 0) ++ byteV (dig x k))) ∧ Hid (Below w.heap.size w wr)) (fun i _ => 1 - (RowKit.intOf i).toNat)
  case atStart => exact ⟨0, rfl, Nat.zero_le _, HX0.out, HB0.out⟩
  case round =>
    clear HX0 HB0
    obtain ⟨k, rfl, hk, HX, HB⟩ := hrel
    by_cases hlt : k < 1
    · have HX2 : Hid ((wr.setCell ⟨w.heap.size, 0, none⟩ (.int .u8 ((x / 256 ^ k % 256 : Nat) : Int))).ownsRow w.heap.size 5 1 (.slice (some ⟨w.heap.size, 0, none⟩) 1 1) 1 (List.replicate (1 - (k + 1)) (.int .u8 0) ++ byteV (dig x (k + 1)))) := by
        have h := (HX.out.stored (0) (.int .u8 ((x / 256 ^ k % 256 : Nat) : Int))).1
        have hf := fill_dig (x := x) hlt
        rw [show 1 - 1 - k = 0 by omega] at hf
        rw [hf] at h
        exact h
      have HB2 : Hid (Below w.heap.size w (wr.setCell ⟨w.heap.size, 0, none⟩ (.int .u8 ((x / 256 ^ k % 256 : Nat) : Int)))) := HB.out.setCell (Nat.le_refl _) _
      have hsz := (HX.out.lt w.heap.size rfl).2
      have hll : (List.replicate (1 - k) (Value.int .u8 0) ++ byteV (dig x k)).length = 1 := by rw [List.length_append, List.length_replicate, byteV, List.length_map, dig_length]; omega
      obtain ⟨v0, c0'⟩ : ∃ v0, wr.cell? ⟨w.heap.size, 0, none⟩ = some v0 := ⟨_, (HX.out.cellAt (0) (by omega)).trans (List.getElem?_eq_getElem (by omega))⟩
      have f0' := HX.out.frozenAt (0)
      have hq := shr_nat x k
      generalize x / 256 ^ k % 256 = y at hq HX2 HB2
      clear HX HB hll
      have c0 := c0'
      have f0 := f0'
      clear c0' f0'
      go_wp2_with fail
      exact ⟨⟨k + 1, by go_num, by omega, HX2.out, HB2.out⟩, by simp [RowKit.intOf]; omega⟩
    · obtain rfl : k = 1 := by omega
      have HCV : Hid ((convert 77 9 (.slice (some ⟨w.heap.size, 0, none⟩) 1 1)).run Tryz.prog wr = .ok (.string (mk (dig x 1))) wr) := by
        have h := HX.out
        rw [Nat.sub_self, List.replicate_zero, List.nil_append] at h
        have h2 : wr.ownsRow w.heap.size 5 1 (.slice (some ⟨w.heap.size, 0, none⟩) 1 1) (dig x 1).length (byteV (dig x 1)) := by rw [dig_length]; exact h
        exact tok_conv h2
      clear HX
      have hcv := HCV.out
      go_wp2_with fail
      go_ret2
      exact ⟨rfl, HB.out⟩
theorem rint_1 (x : Nat) (w : World) (hx : x < 256) : Calls Tryz.prog 51 #[.int .i64 x, .int .i64 1] w (Gives (.tuple #[.string (mk (dig x 1)), .int .i64 0]) w) := by
  obtain ⟨i0, hi0, hz0, hz1, hz2⟩ := info_parts infoU8
  obtain ⟨w3, hmk, hmo, hmg⟩ := run_makeSlice_full (P := Tryz.prog) w w.heap.size 77 5 i0 _ 1 Tryz.underlying77 hi0 hz0 hz1 .i64 .i64 1 (by omega) (by rw [hz2]; omega) (by unfold maxLen; omega) (Nat.le_refl _)
  have hmk' : (Instr.makeSlice 77 (.int .i64 1) (.int .i64 1)).run Tryz.prog w = .ok (.slice (some ⟨w.heap.size, 0, none⟩) 1 1) w3 := hmk
  have HX0 : Hid (w3.ownsRow w.heap.size 5 1 (.slice (some ⟨w.heap.size, 0, none⟩) 1 1) 1 (List.replicate (1 - 0) (.int .u8 0) ++ byteV (dig x 0))) := by
    show World.ownsRow _ _ _ _ _ _ _
    rw [show (Value.int IntKind.u8 0).cells = #[.int .u8 0] from rfl, toList_madeCells_one, Nat.mul_one] at hmo
    exact hmo
  have HB0 : Hid (Below w.heap.size w w3) := (Below.refl _ w).grown hmg (Nat.le_refl _) (fun b e => by cases e)
  clear hmo hmg hmk hi0 hz0 hz1 hz2
  go_enter Tryz.func51, Tryz.ntmps51
  go_wp2_with fail
  refine (rwidth_any _ _).mono ?_
  rintro e w1 ⟨rfl, hw⟩
  have hw := hw.symm
  subst hw
  rw [show wid 1 = true from rfl]
  have q1 : ¬ ((x : Int) < 0) := by omega
  have q2 : decide ((256 : Int) ≤ x) = false := by simp; omega
  have HLT := Lib.hid hx
  clear hx
  go_wp2_with fail
  go_loopw [0, 7] (fun n i wr => ∃ k : Nat, i = .int .i64 (1 - 1 - (k : Int)) ∧ n = .int .i64 (x / 256 ^ k : Nat) ∧ k ≤ 1 ∧ Hid (wr.ownsRow w.heap.size 5 1 (.slice (some ⟨w.heap.size, 0, none⟩) 1 1) 1 (List.replicate (1 - k) (.int .u8 0) ++ byteV (dig x k))) ∧ Hid (Below w.heap.size w wr)) (fun _ i _ => (RowKit.intOf i + 1).toNat)
  case atStart => exact ⟨0, rfl, (by rw [Nat.pow_zero, Nat.div_one]), Nat.zero_le _, HX0.out, HB0.out⟩
  case round =>
    clear HX0 HB0
    obtain ⟨k, rfl, rfl, hk, HX, HB⟩ := hrel
    by_cases hlt : k < 1
    · have HX2 : Hid ((wr.setCell ⟨w.heap.size, 0, none⟩ (.int .u8 ((x / 256 ^ k % 256 : Nat) : Int))).ownsRow w.heap.size 5 1 (.slice (some ⟨w.heap.size, 0, none⟩) 1 1) 1 (List.replicate (1 - (k + 1)) (.int .u8 0) ++ byteV (dig x (k + 1)))) := by
        have h := (HX.out.stored (0) (.int .u8 ((x / 256 ^ k % 256 : Nat) : Int))).1
        have hf := fill_dig (x := x) hlt
        rw [show 1 - 1 - k = 0 by omega] at hf
        rw [hf] at h
        exact h
      have HB2 : Hid (Below w.heap.size w (wr.setCell ⟨w.heap.size, 0, none⟩ (.int .u8 ((x / 256 ^ k % 256 : Nat) : Int)))) := HB.out.setCell (Nat.le_refl _) _
      have hsz := (HX.out.lt w.heap.size rfl).2
      have hll : (List.replicate (1 - k) (Value.int .u8 0) ++ byteV (dig x k)).length = 1 := by rw [List.length_append, List.length_replicate, byteV, List.length_map, dig_length]; omega
      obtain ⟨v0, c0'⟩ : ∃ v0, wr.cell? ⟨w.heap.size, 0, none⟩ = some v0 := ⟨_, (HX.out.cellAt (0) (by omega)).trans (List.getElem?_eq_getElem (by omega))⟩
      have f0' := HX.out.frozenAt (0)
      have hq := quo_nat x k
      have hq2 : ((x / 256 ^ k : Nat) : Int) % 256 = ((x / 256 ^ k % 256 : Nat) : Int) := by simp
      have hy : ((x / 256 ^ k % 256 : Nat) : Int) % 256 = ((x / 256 ^ k % 256 : Nat) : Int) := by omega
      have hle : x / 256 ^ k < 256 := Nat.lt_of_le_of_lt (Nat.div_le_self _ _) HLT.out
      generalize x / 256 ^ k % 256 = y at hq2 hy HX2 HB2
      have HZ2 : Hid (∃ z2, z2 = x / 256 ^ (k + 1)) := ⟨_, rfl⟩
      obtain ⟨z2, hz2⟩ := HZ2.out
      rw [← hz2] at hq
      have HZ3 := Lib.hid hz2
      clear hz2 HZ2
      generalize x / 256 ^ k = z at hq hq2 hle
      clear HX HB hll
      have c0 := c0'
      have f0 := f0'
      clear c0' f0'
      go_wp2_with fail
      exact ⟨⟨k + 1, congrArg _ (by omega), congrArg (fun z : Nat => Value.int IntKind.i64 (z : Int)) HZ3.out, by omega, HX2.out, HB2.out⟩, by simp [RowKit.intOf]; omega⟩
    · obtain rfl : k = 1 := by omega
      have HCV : Hid ((convert 77 9 (.slice (some ⟨w.heap.size, 0, none⟩) 1 1)).run Tryz.prog wr = .ok (.string (mk (dig x 1))) wr) := by
        have h := HX.out
        rw [Nat.sub_self, List.replicate_zero, List.nil_append] at h
        have h2 : wr.ownsRow w.heap.size 5 1 (.slice (some ⟨w.heap.size, 0, none⟩) 1 1) (dig x 1).length (byteV (dig x 1)) := by rw [dig_length]; exact h
        exact tok_conv h2
      clear HX
      have hcv := HCV.out
      go_wp2_with fail
      go_ret2
      exact ⟨rfl, HB.out⟩
theorem int_2 (x : Nat) (w : World) (hx : x < 65536) : Calls Tryz.prog 83 #[.int .i64 x, .int .i64 2] w (Gives (.tuple #[.string (mk (dig x 2)), .int .i64 0]) w) := by
  obtain ⟨i0, hi0, hz0, hz1, hz2⟩ := info_parts infoU8
  obtain ⟨w3, hmk, hmo, hmg⟩ := run_makeSlice_full (P := Tryz.prog) w w.heap.size 77 5 i0 _ 1 Tryz.underlying77 hi0 hz0 hz1 .i64 .i64 2 (by omega) (by rw [hz2]; omega) (by unfold maxLen; omega) (Nat.le_refl _)
  have hmk' : (Instr.makeSlice 77 (.int .i64 2) (.int .i64 2)).run Tryz.prog w = .ok (.slice (some ⟨w.heap.size, 0, none⟩) 2 2) w3 := hmk
  have HX0 : Hid (w3.ownsRow w.heap.size 5 1 (.slice (some ⟨w.heap.size, 0, none⟩) 2 2) 2 (List.replicate (2 - 0) (.int .u8 0) ++ byteV (dig x 0))) := by
    show World.ownsRow _ _ _ _ _ _ _
    rw [show (Value.int IntKind.u8 0).cells = #[.int .u8 0] from rfl, toList_madeCells_one, Nat.mul_one] at hmo
    exact hmo
  have HB0 : Hid (Below w.heap.size w w3) := (Below.refl _ w).grown hmg (Nat.le_refl _) (fun b e => by cases e)
  clear hmo hmg hmk hi0 hz0 hz1 hz2
  go_enter Tryz.func83, Tryz.ntmps83
  go_wp2_with fail
  refine (isWidth_any _ _).mono ?_
  rintro e w1 ⟨rfl, hw⟩
  have hw := hw.symm
  subst hw
  rw [show wid 2 = true from rfl]
  have q1 : ¬ ((x : Int) < 0) := by omega
  have q2 : decide ((65536 : Int) ≤ x) = false := by simp; omega
  have HLT := Lib.hid hx
  clear hx
  go_wp2_with fail
  go_loopw [26] (fun i wr => ∃ k : Nat, i = .int .i64 k ∧ k ≤ 2 ∧ Hid (wr.ownsRow w.heap.size 5 1 (.slice (some ⟨w.heap.size, 0, none⟩) 2 2) 2 (List.replicate (2 - k) (.int .u8 0) ++ byteV (dig x k))) ∧ Hid (Below w.heap.size w wr)) (fun i _ => 2 - (RowKit.intOf i).toNat)
  case atStart => exact ⟨0, rfl, Nat.zero_le _, HX0.out, HB0.out⟩
  case round =>
    clear HX0 HB0
    obtain ⟨k, rfl, hk, HX, HB⟩ := hrel
    by_cases hlt : k < 2
    · have HX2 : Hid ((wr.setCell ⟨w.heap.size, 1 - k, none⟩ (.int .u8 ((x / 256 ^ k % 256 : Nat) : Int))).ownsRow w.heap.size 5 1 (.slice (some ⟨w.heap.size, 0, none⟩) 2 2) 2 (List.replicate (2 - (k + 1)) (.int .u8 0) ++ byteV (dig x (k + 1)))) := by
        have h := (HX.out.stored (1 - k) (.int .u8 ((x / 256 ^ k % 256 : Nat) : Int))).1
        have hf := fill_dig (x := x) hlt
        rw [show 2 - 1 - k = 1 - k by omega] at hf
        rw [hf] at h
        exact h
      have HB2 : Hid (Below w.heap.size w (wr.setCell ⟨w.heap.size, 1 - k, none⟩ (.int .u8 ((x / 256 ^ k % 256 : Nat) : Int)))) := HB.out.setCell (Nat.le_refl _) _
      have hsz := (HX.out.lt w.heap.size rfl).2
      have hll : (List.replicate (2 - k) (Value.int .u8 0) ++ byteV (dig x k)).length = 2 := by rw [List.length_append, List.length_replicate, byteV, List.length_map, dig_length]; omega
      obtain ⟨v0, c0'⟩ : ∃ v0, wr.cell? ⟨w.heap.size, 1 - k, none⟩ = some v0 := ⟨_, (HX.out.cellAt (1 - k) (by omega)).trans (List.getElem?_eq_getElem (by omega))⟩
      have f0' := HX.out.frozenAt (1 - k)
      have hq := shr_nat x k
      generalize x / 256 ^ k % 256 = y at hq HX2 HB2
      clear HX HB hll
      have c0 := c0'
      have f0 := f0'
      clear c0' f0'
      go_wp2_with fail
      exact ⟨⟨k + 1, by go_num, by omega, HX2.out, HB2.out⟩, by simp [RowKit.intOf]; omega⟩
    · obtain rfl : k = 2 := by omega
      have HCV : Hid ((convert 77 9 (.slice (some ⟨w.heap.size, 0, none⟩) 2 2)).run Tryz.prog wr = .ok (.string (mk (dig x 2))) wr) := by
        have h := HX.out
        rw [Nat.sub_self, List.replicate_zero, List.nil_append] at h
        have h2 : wr.ownsRow w.heap.size 5 1 (.slice (some ⟨w.heap.size, 0, none⟩) 2 2) (dig x 2).length (byteV (dig x 2)) := by rw [dig_length]; exact h
        exact tok_conv h2
      clear HX
      have hcv := HCV.out
      go_wp2_with fail
      go_ret2
      exact ⟨rfl, HB.out⟩
theorem rint_2 (x : Nat) (w : World) (hx : x < 65536) : Calls Tryz.prog 51 #[.int .i64 x, .int .i64 2] w (Gives (.tuple #[.string (mk (dig x 2)), .int .i64 0]) w) := by
  obtain ⟨i0, hi0, hz0, hz1, hz2⟩ := info_parts infoU8
  obtain ⟨w3, hmk, hmo, hmg⟩ := run_makeSlice_full (P := Tryz.prog) w w.heap.size 77 5 i0 _ 1 Tryz.underlying77 hi0 hz0 hz1 .i64 .i64 2 (by omega) (by rw [hz2]; omega) (by unfold maxLen; omega) (Nat.le_refl _)
  have hmk' : (Instr.makeSlice 77 (.int .i64 2) (.int .i64 2)).run Tryz.prog w = .ok (.slice (some ⟨w.heap.size, 0, none⟩) 2 2) w3 := hmk
  have HX0 : Hid (w3.ownsRow w.heap.size 5 1 (.slice (some ⟨w.heap.size, 0, none⟩) 2 2) 2 (List.replicate (2 - 0) (.int .u8 0) ++ byteV (dig x 0))) := by
    show World.ownsRow _ _ _ _ _ _ _
    rw [show (Value.int IntKind.u8 0).cells = #[.int .u8 0] from rfl, toList_madeCells_one, Nat.mul_one] at hmo
    exact hmo
  have HB0 : Hid (Below w.heap.size w w3) := (Below.refl _ w).grown hmg (Nat.le_refl _) (fun b e => by cases e)
  clear hmo hmg hmk hi0 hz0 hz1 hz2
  go_enter Tryz.func51, Tryz.ntmps51
  go_wp2_with fail
  refine (rwidth_any _ _).mono ?_
  rintro e w1 ⟨rfl, hw⟩
  have hw := hw.symm
  subst hw
  rw [show wid 2 = true from rfl]
  have q1 : ¬ ((x : Int) < 0) := by omega
  have q2 : decide ((65536 : Int) ≤ x) = false := by simp; omega
  have HLT := Lib.hid hx
  clear hx
  go_wp2_with fail
  go_loopw [0, 7] (fun n i wr => ∃ k : Nat, i = .int .i64 (2 - 1 - (k : Int)) ∧ n = .int .i64 (x / 256 ^ k : Nat) ∧ k ≤ 2 ∧ Hid (wr.ownsRow w.heap.size 5 1 (.slice (some ⟨w.heap.size, 0, none⟩) 2 2) 2 (List.replicate (2 - k) (.int .u8 0) ++ byteV (dig x k))) ∧ Hid (Below w.heap.size w wr)) (fun _ i _ => (RowKit.intOf i + 1).toNat)
  case atStart => exact ⟨0, rfl, (by rw [Nat.pow_zero, Nat.div_one]), Nat.zero_le _, HX0.out, HB0.out⟩
  case round =>
    clear HX0 HB0
    obtain ⟨k, rfl, rfl, hk, HX, HB⟩ := hrel
    by_cases hlt : k < 2
    · have HX2 : Hid ((wr.setCell ⟨w.heap.size, 1 - k, none⟩ (.int .u8 ((x / 256 ^ k % 256 : Nat) : Int))).ownsRow w.heap.size 5 1 (.slice (some ⟨w.heap.size, 0, none⟩) 2 2) 2 (List.replicate (2 - (k + 1)) (.int .u8 0) ++ byteV (dig x (k + 1)))) := by
        have h := (HX.out.stored (1 - k) (.int .u8 ((x / 256 ^ k % 256 : Nat) : Int))).1
        have hf := fill_dig (x := x) hlt
        rw [show 2 - 1 - k = 1 - k by omega] at hf
        rw [hf] at h
        exact h
      have HB2 : Hid (Below w.heap.size w (wr.setCell ⟨w.heap.size, 1 - k, none⟩ (.int .u8 ((x / 256 ^ k % 256 : Nat) : Int)))) := HB.out.setCell (Nat.le_refl _) _
      have hsz := (HX.out.lt w.heap.size rfl).2
      have hll : (List.replicate (2 - k) (Value.int .u8 0) ++ byteV (dig x k)).length = 2 := by rw [List.length_append, List.length_replicate, byteV, List.length_map, dig_length]; omega
      obtain ⟨v0, c0'⟩ : ∃ v0, wr.cell? ⟨w.heap.size, 1 - k, none⟩ = some v0 := ⟨_, (HX.out.cellAt (1 - k) (by omega)).trans (List.getElem?_eq_getElem (by omega))⟩
      have f0' := HX.out.frozenAt (1 - k)
      have hq := quo_nat x k
      have hq2 : ((x / 256 ^ k : Nat) : Int) % 256 = ((x / 256 ^ k % 256 : Nat) : Int) := by simp
      have hy : ((x / 256 ^ k % 256 : Nat) : Int) % 256 = ((x / 256 ^ k % 256 : Nat) : Int) := by omega
      have hle : x / 256 ^ k < 65536 := Nat.lt_of_le_of_lt (Nat.div_le_self _ _) HLT.out
      generalize x / 256 ^ k % 256 = y at hq2 hy HX2 HB2
      have HZ2 : Hid (∃ z2, z2 = x / 256 ^ (k + 1)) := ⟨_, rfl⟩
      obtain ⟨z2, hz2⟩ := HZ2.out
      rw [← hz2] at hq
      have HZ3 := Lib.hid hz2
      clear hz2 HZ2
      generalize x / 256 ^ k = z at hq hq2 hle
      clear HX HB hll
      have c0 := c0'
      have f0 := f0'
      clear c0' f0'
      go_wp2_with fail
      exact ⟨⟨k + 1, congrArg _ (by omega), congrArg (fun z : Nat => Value.int IntKind.i64 (z : Int)) HZ3.out, by omega, HX2.out, HB2.out⟩, by simp [RowKit.intOf]; omega⟩
    · obtain rfl : k = 2 := by omega
      have HCV : Hid ((convert 77 9 (.slice (some ⟨w.heap.size, 0, none⟩) 2 2)).run Tryz.prog wr = .ok (.string (mk (dig x 2))) wr) := by
        have h := HX.out
        rw [Nat.sub_self, List.replicate_zero, List.nil_append] at h
        have h2 : wr.ownsRow w.heap.size 5 1 (.slice (some ⟨w.heap.size, 0, none⟩) 2 2) (dig x 2).length (byteV (dig x 2)) := by rw [dig_length]; exact h
        exact tok_conv h2
      clear HX
      have hcv := HCV.out
      go_wp2_with fail
      go_ret2
      exact ⟨rfl, HB.out⟩
theorem int_4 (x : Nat) (w : World) (hx : x < 4294967296) : Calls Tryz.prog 83 #[.int .i64 x, .int .i64 4] w (Gives (.tuple #[.string (mk (dig x 4)), .int .i64 0]) w) := by
  obtain ⟨i0, hi0, hz0, hz1, hz2⟩ := info_parts infoU8
  obtain ⟨w3, hmk, hmo, hmg⟩ := run_makeSlice_full (P := Tryz.prog) w w.heap.size 77 5 i0 _ 1 Tryz.underlying77 hi0 hz0 hz1 .i64 .i64 4 (by omega) (by rw [hz2]; omega) (by unfold maxLen; omega) (Nat.le_refl _)
  have hmk' : (Instr.makeSlice 77 (.int .i64 4) (.int .i64 4)).run Tryz.prog w = .ok (.slice (some ⟨w.heap.size, 0, none⟩) 4 4) w3 := hmk
  have HX0 : Hid (w3.ownsRow w.heap.size 5 1 (.slice (some ⟨w.heap.size, 0, none⟩) 4 4) 4 (List.replicate (4 - 0) (.int .u8 0) ++ byteV (dig x 0))) := by
    show World.ownsRow _ _ _ _ _ _ _
    rw [show (Value.int IntKind.u8 0).cells = #[.int .u8 0] from rfl, toList_madeCells_one, Nat.mul_one] at hmo
    exact hmo
  have HB0 : Hid (Below w.heap.size w w3) := (Below.refl _ w).grown hmg (Nat.le_refl _) (fun b e => by cases e)
  clear hmo hmg hmk hi0 hz0 hz1 hz2
  go_enter Tryz.func83, Tryz.ntmps83
  go_wp2_with fail
  refine (isWidth_any _ _).mono ?_
  rintro e w1 ⟨rfl, hw⟩
  have hw := hw.symm
  subst hw
  rw [show wid 4 = true from rfl]
  have q1 : ¬ ((x : Int) < 0) := by omega
  have q2 : decide ((4294967296 : Int) ≤ x) = false := by simp; omega
  have HLT := Lib.hid hx
  clear hx
  go_wp2_with fail
  go_loopw [26] (fun i wr => ∃ k : Nat, i = .int .i64 k ∧ k ≤ 4 ∧ Hid (wr.ownsRow w.heap.size 5 1 (.slice (some ⟨w.heap.size, 0, none⟩) 4 4) 4 (List.replicate (4 - k) (.int .u8 0) ++ byteV (dig x k))) ∧ Hid (Below w.heap.size w wr)) (fun i _ => 4 - (RowKit.intOf i).toNat)
  case atStart => exact ⟨0, rfl, Nat.zero_le _, HX0.out, HB0.out⟩
  case round =>
    clear HX0 HB0
    obtain ⟨k, rfl, hk, HX, HB⟩ := hrel
    by_cases hlt : k < 4
    · have HX2 : Hid ((wr.setCell ⟨w.heap.size, 3 - k, none⟩ (.int .u8 ((x / 256 ^ k % 256 : Nat) : Int))).ownsRow w.heap.size 5 1 (.slice (some ⟨w.heap.size, 0, none⟩) 4 4) 4 (List.replicate (4 - (k + 1)) (.int .u8 0) ++ byteV (dig x (k + 1)))) := by
        have h := (HX.out.stored (3 - k) (.int .u8 ((x / 256 ^ k % 256 : Nat) : Int))).1
        have hf := fill_dig (x := x) hlt
        rw [show 4 - 1 - k = 3 - k by omega] at hf
        rw [hf] at h
        exact h
      have HB2 : Hid (Below w.heap.size w (wr.setCell ⟨w.heap.size, 3 - k, none⟩ (.int .u8 ((x / 256 ^ k % 256 : Nat) : Int)))) := HB.out.setCell (Nat.le_refl _) _
      have hsz := (HX.out.lt w.heap.size rfl).2
      have hll : (List.replicate (4 - k) (Value.int .u8 0) ++ byteV (dig x k)).length = 4 := by rw [List.length_append, List.length_replicate, byteV, List.length_map, dig_length]; omega
      obtain ⟨v0, c0'⟩ : ∃ v0, wr.cell? ⟨w.heap.size, 3 - k, none⟩ = some v0 := ⟨_, (HX.out.cellAt (3 - k) (by omega)).trans (List.getElem?_eq_getElem (by omega))⟩
      have f0' := HX.out.frozenAt (3 - k)
      have hq := shr_nat x k
      generalize x / 256 ^ k % 256 = y at hq HX2 HB2
      clear HX HB hll
      have c0 := c0'
      have f0 := f0'
      clear c0' f0'
      go_wp2_with fail
      exact ⟨⟨k + 1, by go_num, by omega, HX2.out, HB2.out⟩, by simp [RowKit.intOf]; omega⟩
    · obtain rfl : k = 4 := by omega
      have HCV : Hid ((convert 77 9 (.slice (some ⟨w.heap.size, 0, none⟩) 4 4)).run Tryz.prog wr = .ok (.string (mk (dig x 4))) wr) := by
        have h := HX.out
        rw [Nat.sub_self, List.replicate_zero, List.nil_append] at h
        have h2 : wr.ownsRow w.heap.size 5 1 (.slice (some ⟨w.heap.size, 0, none⟩) 4 4) (dig x 4).length (byteV (dig x 4)) := by rw [dig_length]; exact h
        exact tok_conv h2
      clear HX
      have hcv := HCV.out
      go_wp2_with fail
      go_ret2
      exact ⟨rfl, HB.out⟩
theorem rint_4 (x : Nat) (w : World) (hx : x < 4294967296) : Calls Tryz.prog 51 #[.int .i64 x, .int .i64 4] w (Gives (.tuple #[.string (mk (dig x 4)), .int .i64 0]) w) := by
  obtain ⟨i0, hi0, hz0, hz1, hz2⟩ := info_parts infoU8
  obtain ⟨w3, hmk, hmo, hmg⟩ := run_makeSlice_full (P := Tryz.prog) w w.heap.size 77 5 i0 _ 1 Tryz.underlying77 hi0 hz0 hz1 .i64 .i64 4 (by omega) (by rw [hz2]; omega) (by unfold maxLen; omega) (Nat.le_refl _)
  have hmk' : (Instr.makeSlice 77 (.int .i64 4) (.int .i64 4)).run Tryz.prog w = .ok (.slice (some ⟨w.heap.size, 0, none⟩) 4 4) w3 := hmk
  have HX0 : Hid (w3.ownsRow w.heap.size 5 1 (.slice (some ⟨w.heap.size, 0, none⟩) 4 4) 4 (List.replicate (4 - 0) (.int .u8 0) ++ byteV (dig x 0))) := by
    show World.ownsRow _ _ _ _ _ _ _
    rw [show (Value.int IntKind.u8 0).cells = #[.int .u8 0] from rfl, toList_madeCells_one, Nat.mul_one] at hmo
    exact hmo
  have HB0 : Hid (Below w.heap.size w w3) := (Below.refl _ w).grown hmg (Nat.le_refl _) (fun b e => by cases e)
  clear hmo hmg hmk hi0 hz0 hz1 hz2
  go_enter Tryz.func51, Tryz.ntmps51
  go_wp2_with fail
  refine (rwidth_any _ _).mono ?_
  rintro e w1 ⟨rfl, hw⟩
  have hw := hw.symm
  subst hw
  rw [show wid 4 = true from rfl]
  have q1 : ¬ ((x : Int) < 0) := by omega
  have q2 : decide ((4294967296 : Int) ≤ x) = false := by simp; omega
  have HLT := Lib.hid hx
  clear hx
  go_wp2_with fail
  go_loopw [0, 7] (fun n i wr => ∃ k : Nat, i = .int .i64 (4 - 1 - (k : Int)) ∧ n = .int .i64 (x / 256 ^ k : Nat) ∧ k ≤ 4 ∧ Hid (wr.ownsRow w.heap.size 5 1 (.slice (some ⟨w.heap.size, 0, none⟩) 4 4) 4 (List.replicate (4 - k) (.int .u8 0) ++ byteV (dig x k))) ∧ Hid (Below w.heap.size w wr)) (fun _ i _ => (RowKit.intOf i + 1).toNat)
  case atStart => exact ⟨0, rfl, (by rw [Nat.pow_zero, Nat.div_one]), Nat.zero_le _, HX0.out, HB0.out⟩
  case round =>
    clear HX0 HB0
    obtain ⟨k, rfl, rfl, hk, HX, HB⟩ := hrel
    by_cases hlt : k < 4
    · have HX2 : Hid ((wr.setCell ⟨w.heap.size, 3 - k, none⟩ (.int .u8 ((x / 256 ^ k % 256 : Nat) : Int))).ownsRow w.heap.size 5 1 (.slice (some ⟨w.heap.size, 0, none⟩) 4 4) 4 (List.replicate (4 - (k + 1)) (.int .u8 0) ++ byteV (dig x (k + 1)))) := by
        have h := (HX.out.stored (3 - k) (.int .u8 ((x / 256 ^ k % 256 : Nat) : Int))).1
        have hf := fill_dig (x := x) hlt
        rw [show 4 - 1 - k = 3 - k by omega] at hf
        rw [hf] at h
        exact h
      have HB2 : Hid (Below w.heap.size w (wr.setCell ⟨w.heap.size, 3 - k, none⟩ (.int .u8 ((x / 256 ^ k % 256 : Nat) : Int)))) := HB.out.setCell (Nat.le_refl _) _
      have hsz := (HX.out.lt w.heap.size rfl).2
      have hll : (List.replicate (4 - k) (Value.int .u8 0) ++ byteV (dig x k)).length = 4 := by rw [List.length_append, List.length_replicate, byteV, List.length_map, dig_length]; omega
      obtain ⟨v0, c0'⟩ : ∃ v0, wr.cell? ⟨w.heap.size, 3 - k, none⟩ = some v0 := ⟨_, (HX.out.cellAt (3 - k) (by omega)).trans (List.getElem?_eq_getElem (by omega))⟩
      have f0' := HX.out.frozenAt (3 - k)
      have hq := quo_nat x k
      have hq2 : ((x / 256 ^ k : Nat) : Int) % 256 = ((x / 256 ^ k % 256 : Nat) : Int) := by simp
      have hy : ((x / 256 ^ k % 256 : Nat) : Int) % 256 = ((x / 256 ^ k % 256 : Nat) : Int) := by omega
      have hle : x / 256 ^ k < 4294967296 := Nat.lt_of_le_of_lt (Nat.div_le_self _ _) HLT.out
      generalize x / 256 ^ k % 256 = y at hq2 hy HX2 HB2
      have HZ2 : Hid (∃ z2, z2 = x / 256 ^ (k + 1)) := ⟨_, rfl⟩
      obtain ⟨z2, hz2⟩ := HZ2.out
      rw [← hz2] at hq
      have HZ3 := Lib.hid hz2
      clear hz2 HZ2
      generalize x / 256 ^ k = z at hq hq2 hle
      clear HX HB hll
      have c0 := c0'
      have f0 := f0'
      clear c0' f0'
      go_wp2_with fail
      exact ⟨⟨k + 1, congrArg _ (by omega), congrArg (fun z : Nat => Value.int IntKind.i64 (z : Int)) HZ3.out, by omega, HX2.out, HB2.out⟩, by simp [RowKit.intOf]; omega⟩
    · obtain rfl : k = 4 := by omega
      have HCV : Hid ((convert 77 9 (.slice (some ⟨w.heap.size, 0, none⟩) 4 4)).run Tryz.prog wr = .ok (.string (mk (dig x 4))) wr) := by
        have h := HX.out
        rw [Nat.sub_self, List.replicate_zero, List.nil_append] at h
        have h2 : wr.ownsRow w.heap.size 5 1 (.slice (some ⟨w.heap.size, 0, none⟩) 4 4) (dig x 4).length (byteV (dig x 4)) := by rw [dig_length]; exact h
        exact tok_conv h2
      clear HX
      have hcv := HCV.out
      go_wp2_with fail
      go_ret2
      exact ⟨rfl, HB.out⟩
end Go.Proofs.YtiodjaeonoheiaaGreatDoor.T
