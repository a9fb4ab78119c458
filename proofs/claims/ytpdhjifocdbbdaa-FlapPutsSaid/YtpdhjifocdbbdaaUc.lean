/- Contracts: channel, seq, takeSize, isWhole, look: what a frame under way tells of itself. Conditions: those of each theorem's head. -/
import Derived.Test.YtpdhjifocdbbdaaUb
namespace Go.Proofs.Ytpdhjifocdbbdaa
open Go.RowKit Go.Lib

theorem nb_at {l : List UInt8} {i : Nat} (h : i < l.length) : By.nb l i = (l[i]).toNat := by
  unfold By.nb
  rw [List.getD_eq_getElem?_getD, List.getElem?_eq_getElem h]
  rfl
theorem addr_add (g o j : Nat) : (⟨g, o, none⟩ : Addr).add j = ⟨g, o + j, none⟩ := by unfold Addr.add; split <;> simp_all
theorem part_cells {w : World} {g : Nat} {l : List UInt8} (h : ∀ i, i < l.length → w.cell? ⟨g, i, none⟩ = some (.int .u8 (By.nb l i : Int))) (i j : Nat) :
    ∀ k (hk : k < ((l.take j).drop i).length), w.cell? ((⟨g, i, none⟩ : Addr).add k) = some (.int .u8 (((l.take j).drop i)[k].toNat : Int)) := fun k hk => by
  rw [List.length_drop, List.length_take] at hk
  rw [addr_add, h (i + k) (by omega), nb_at (by omega)]
  simp
section
variable {N R : Nat} {w : World} {v : Value} {l : List UInt8} {z : Int} {p : Option Int} {e : Int}
set_option maxRecDepth 100000 in
set_option maxHeartbeats 2000000 in
theorem channel_any (h : Rk N R w v l z p e) (hl : 2 ≤ l.length) (hm : l.length ≤ 100000) : Calls Try.prog 32 #[.pointer (some ⟨R, 0, none⟩)] w (Pure (.int .i64 (By.nb l 1)) w) := by
  obtain ⟨c0, _⟩ := h.cells
  obtain ⟨g, cap, rfl, hcap, _, hb⟩ := h.bytes (by omega)
  have b1 := hb 1 (by omega)
  have hy := By.nb_lt l 1
  generalize By.nb l 1 = y at b1 hy
  generalize l.length = n at *
  clear hb h
  go_enter Try.func32, Try.ntmps32
  go_wp2_with fail
  go_ret
  exact ⟨by go_num, rfl⟩
set_option maxRecDepth 100000 in
set_option maxHeartbeats 2000000 in
theorem seq_any (h : Rk N R w v l z p e) (hl : 4 ≤ l.length) (hm : l.length ≤ 100000) : Calls Try.prog 33 #[.pointer (some ⟨R, 0, none⟩)] w (Pure (.int .i64 (sq l)) w) := by
  obtain ⟨c0, _⟩ := h.cells
  obtain ⟨g, cap, rfl, hcap, _, hb⟩ := h.bytes (by omega)
  have C := Lib.hid (fun cap => number_any ((l.take 4).drop 2) (by rw [List.length_drop, List.length_take]; omega) ⟨g, 2, none⟩ cap w (part_cells hb 2 4))
  unfold sq
  generalize numL ((l.take 4).drop 2) = y at C
  generalize l.length = n at *
  clear hb h
  go_enter Try.func33, Try.ntmps33
  go_wp2_with fail
  refine (C.out _).mono ?_
  rintro e w1 ⟨rfl, hx⟩
  have hx := hx.symm
  subst hx
  go_wp2_with fail
  go_ret
  exact ⟨rfl, rfl⟩
set_option maxRecDepth 100000 in
set_option maxHeartbeats 2000000 in
theorem takeSize_any (h : Rk N R w v l z p e) (hl : 6 ≤ l.length) (hm : l.length ≤ 100000) : Calls Try.prog 36 #[.pointer (some ⟨R, 0, none⟩)] w fun e' w' => e' = .returned (.int .i64 (if 8192 < sz l then 1 else 0)) ∧ w' = w.setCell ⟨R, 1, none⟩ (.int .i64 (sz l)) := by
  obtain ⟨c0, c1, _⟩ := h.cells
  have fz := h.free 1
  have d1 := (h.setZ (sz l)).cells.2.1
  obtain ⟨g, cap, rfl, hcap, _, hb⟩ := h.bytes (by omega)
  have C := Lib.hid (fun cap => number_any ((l.take 6).drop 4) (by rw [List.length_drop, List.length_take]; omega) ⟨g, 4, none⟩ cap w (part_cells hb 4 6))
  have hz := sz_lt l
  have eS : numL ((l.take 6).drop 4) = sz l := rfl
  rw [eS] at C
  generalize sz l = y at C hz d1
  generalize l.length = n at *
  clear hb h eS
  by_cases h8 : 8192 < y
  · rw [if_pos h8]
    have q8 : ((8192 : Int) < y) := by omega
    go_enter Try.func36, Try.ntmps36
    go_wp2_with fail
    refine (C.out _).mono ?_
    rintro e w1 ⟨rfl, hx⟩
    have hx := hx.symm
    subst hx
    go_wp2_with fail
    go_ret
    exact ⟨rfl, rfl⟩
  · rw [if_neg h8]
    have q8 : ¬ ((8192 : Int) < y) := by omega
    go_enter Try.func36, Try.ntmps36
    go_wp2_with fail
    refine (C.out _).mono ?_
    rintro e w1 ⟨rfl, hx⟩
    have hx := hx.symm
    subst hx
    go_wp2_with fail
    go_ret
    exact ⟨rfl, rfl⟩
theorem Rk.len_cases (h : Rk N R w v l z p e) : ∃ a cap, v = .slice a l.length cap := by
  rcases h.row.2 with ⟨rfl, h0⟩ | ⟨g, cap, cur, rfl, _⟩
  · exact ⟨none, 0, by rw [h0]⟩
  · exact ⟨_, cap, rfl⟩
set_option maxRecDepth 100000 in
set_option maxHeartbeats 2000000 in
theorem isWhole_any {y : Nat} (h : Rk N R w v l y p e) (hy : y ≤ 100000) (hm : l.length ≤ 100000) : Calls Try.prog 23 #[.pointer (some ⟨R, 0, none⟩)] w (Gives (.bool (decide (l.length = 6 + y))) w) := by
  obtain ⟨c0, c1, _⟩ := h.cells
  obtain ⟨a, cap, rfl⟩ := h.len_cases
  generalize l.length = n at *
  clear h
  by_cases h8 : n = 6 + y
  · rw [decide_eq_true h8]
    have q8 : ((n : Int) == 6 + (y : Int)) = true := by simp; omega
    go_enter Try.func23, Try.ntmps23
    go_wp2_with fail
    go_region
    go_wp2_with fail
    go_ret
    exact ⟨rfl, (Below.refl _ _).drew⟩
  · rw [decide_eq_false h8]
    have q8 : ((n : Int) == 6 + (y : Int)) = false := by simp; omega
    go_enter Try.func23, Try.ntmps23
    go_wp2_with fail
    go_region
    go_wp2_with fail
    go_ret
    exact ⟨rfl, (Below.refl _ _).drew⟩
end
end Go.Proofs.Ytpdhjifocdbbdaa
