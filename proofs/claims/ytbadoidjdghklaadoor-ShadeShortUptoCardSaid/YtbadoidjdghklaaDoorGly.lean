/- Contracts of the small functions of package glyph and of the document's own answers for layer 1: what each call returns, and that memory stays. No condition beyond what each theorem's head says. -/
import Derived.Test.YtbadoidjdghklaaDoorSg
import Derived.Test.YtbadoidjdghklaaDoorShelf
import Derived.WalkKit
import Derived.WalkSpells
import Derived.WalkLawsBesides
import Derived.BigQuiet
import Derived.Lib.Hide
namespace Go.Proofs.YtbadoidjdghklaaDoor
open Go.RowKit Go.Lib Sg

theorem rIs_any (c : Int) (w : World) :
    Calls Tryd.prog 46 #[.int .i64 c] w fun r w' => r = .returned (.bool (decide (0 ≤ c) && isSg c.toNat)) ∧ w = w' := by
  have e : ∀ b : Bool, (b = true ↔ (0 ≤ c ∧ (c < 55296 ∨ (57344 ≤ c ∧ c ≤ 1114111)))) → (decide (0 ≤ c) && isSg c.toNat) = b := by
    intro b hb; rw [Bool.eq_iff_iff, hb]; simp [isSg]; omega
  by_cases h0 : c < 0
  · rw [e false (by simp; omega)]
    go_enter Tryd.func46, Tryd.ntmps46
    go_wp2
    go_ret
    exact ⟨rfl, rfl⟩
  · skip
    by_cases h1 : c < 55296
    · rw [e true (by simp; omega)]
      have hd : decide (c < 55296) = true := by simp; omega
      go_enter Tryd.func46, Tryd.ntmps46
      go_wp2
      go_ret
      exact ⟨rfl, rfl⟩
    · skip
      by_cases h2 : c ≤ 57343
      · rw [e false (by simp; omega)]
        have hd : decide (57343 < c) = false := by simp; omega
        go_enter Tryd.func46, Tryd.ntmps46
        go_wp2
        go_ret
        exact ⟨rfl, rfl⟩
      · skip
        by_cases h3 : c ≤ 1114111
        · rw [e true (by simp; omega)]
          have hd : decide (57343 < c) = true := by simp; omega
          go_enter Tryd.func46, Tryd.ntmps46
          go_wp2
          go_ret
          exact ⟨rfl, rfl⟩
        · skip
          rw [e false (by simp; omega)]
          go_enter Tryd.func46, Tryd.ntmps46
          go_wp2
          go_ret
          exact ⟨rfl, rfl⟩

/-- A string made of a new row of bytes. -/
theorem conv_row {P : Program} (W : World) (src dst e t : TypeId) (hs : P.underlying src = some (.slice e)) (he : P.underlying e = some (.int .u8)) (hd : P.underlying dst = some .string)
    (l : List UInt8) (n cap : Nat) (C : Array Value) (hn : l.length = n) (hC : C.toList = l.map fun b => Value.int .u8 (b.toNat : Int)) :
    (convert src dst (.slice (some ⟨W.heap.size, 0, none⟩) n cap)).run P (W.alloc (.cells C t)) = .ok (.string ⟨l.toArray⟩) (W.alloc (.cells C t)) := by
  subst hn
  refine run_convert_bytes_back _ src dst e _ cap l hs he hd fun j hj => ?_
  have h0 : (⟨W.heap.size, 0, none⟩ : Addr).add j = ⟨W.heap.size, j, none⟩ := by
    unfold Addr.add; split <;> simp_all
  rw [h0, World.cell?_alloc_mark, ← Array.getElem?_toList, hC]
  simp [List.getElem?_eq_getElem hj]
theorem u_int {n : Nat} (h : n < 256) : ((u n).toNat : Int) = (n : Int) := by rw [u_nat h]

theorem enc_one {c : Nat} (h : isSg c = true) (hc : c < 128) : (enc c).length = 1 ∧ (#[Value.int .u8 (c : Int)] : Array Value).toList = (enc c).map fun b => Value.int .u8 (b.toNat : Int) := by
  have hb := (isSg_iff c).1 h
  unfold enc
  rw [if_pos hc]
  refine ⟨rfl, ?_⟩
  simp only [List.map_cons, List.map_nil]
  rw [u_int (by omega)]
set_option maxHeartbeats 400000 in
theorem rPut_one (c : Nat) (w : World) (h : isSg c = true) (hc : c < 128) :
    Calls Tryd.prog 39 #[.int .i64 c] w fun r w' => r = .returned (.tuple #[.string ⟨(enc c).toArray⟩, .int .i64 0]) ∧ Below w.heap.size w w' := by
  have hcv := conv_row (P := Tryd.prog) w 39 9 5 5 Tryd.underlying39 Tryd.underlying5 Tryd.underlying9 (enc c) 1 1 #[.int .u8 (c : Int)] (enc_one h hc).1 (enc_one h hc).2
  have hb := (isSg_iff c).1 h
  have h1 : (c : Int) ≤ 1114111 := by omega
  have a1 : decide ((c : Int) < 128) = true := by simp; omega
  have h9 : (c : Int) ≤ 127 := by omega
  have E := Lib.hid h
  clear h hb hc
  go_enter Tryd.func39, Tryd.ntmps39
  go_wp2_with fail
  refine (rIs_any _ _).mono ?_
  rintro r w' ⟨rfl, rfl⟩
  rw [show (decide (0 ≤ (c : Int)) && isSg (c : Int).toNat) = true from by simpa using E.out]
  go_wp2
  go_ret2
  exact ⟨rfl, (Below.refl _ _).alloc (Nat.le_refl _) _⟩

theorem enc_two {c : Nat} (h : isSg c = true) (hc : ¬ c < 128 ∧ c < 2048) : (enc c).length = 2 ∧ (#[Value.int .u8 (192 + (c : Int) / 64), Value.int .u8 (128 + (c : Int) % 64)] : Array Value).toList = (enc c).map fun b => Value.int .u8 (b.toNat : Int) := by
  have hb := (isSg_iff c).1 h
  unfold enc
  rw [if_neg hc.1, if_pos hc.2]
  refine ⟨rfl, ?_⟩
  simp only [List.map_cons, List.map_nil]
  rw [u_int (by omega), u_int (by omega)]
  simp
set_option maxHeartbeats 400000 in
theorem rPut_two (c : Nat) (w : World) (h : isSg c = true) (hc : ¬ c < 128 ∧ c < 2048) :
    Calls Tryd.prog 39 #[.int .i64 c] w fun r w' => r = .returned (.tuple #[.string ⟨(enc c).toArray⟩, .int .i64 0]) ∧ Below w.heap.size w w' := by
  have hcv := conv_row (P := Tryd.prog) w 39 9 5 5 Tryd.underlying39 Tryd.underlying5 Tryd.underlying9 (enc c) 2 2 #[.int .u8 (192 + (c : Int) / 64), .int .u8 (128 + (c : Int) % 64)] (enc_two h hc).1 (enc_two h hc).2
  have hb := (isSg_iff c).1 h
  have h1 : (c : Int) ≤ 1114111 := by omega
  have a1 : decide ((c : Int) < 128) = false := by simp; omega
  have a2 : decide ((c : Int) < 2048) = true := by simp; omega
  have h9 : (c : Int) / 64 ≤ 31 := by omega
  have E := Lib.hid h
  clear h hb hc
  go_enter Tryd.func39, Tryd.ntmps39
  go_wp2_with fail
  refine (rIs_any _ _).mono ?_
  rintro r w' ⟨rfl, rfl⟩
  rw [show (decide (0 ≤ (c : Int)) && isSg (c : Int).toNat) = true from by simpa using E.out]
  go_wp2
  go_ret2
  exact ⟨rfl, (Below.refl _ _).alloc (Nat.le_refl _) _⟩

theorem enc_three {c : Nat} (h : isSg c = true) (hc : ¬ c < 2048 ∧ c < 65536) : (enc c).length = 3 ∧ (#[Value.int .u8 (224 + (c : Int) / 4096), Value.int .u8 (128 + (c : Int) / 64 % 64), Value.int .u8 (128 + (c : Int) % 64)] : Array Value).toList = (enc c).map fun b => Value.int .u8 (b.toNat : Int) := by
  have hb := (isSg_iff c).1 h
  unfold enc
  rw [if_neg (by omega), if_neg hc.1, if_pos hc.2]
  refine ⟨rfl, ?_⟩
  simp only [List.map_cons, List.map_nil]
  rw [u_int (by omega), u_int (by omega), u_int (by omega)]
  simp
set_option maxHeartbeats 400000 in
theorem rPut_three (c : Nat) (w : World) (h : isSg c = true) (hc : ¬ c < 2048 ∧ c < 65536) :
    Calls Tryd.prog 39 #[.int .i64 c] w fun r w' => r = .returned (.tuple #[.string ⟨(enc c).toArray⟩, .int .i64 0]) ∧ Below w.heap.size w w' := by
  have hcv := conv_row (P := Tryd.prog) w 39 9 5 5 Tryd.underlying39 Tryd.underlying5 Tryd.underlying9 (enc c) 3 3 #[.int .u8 (224 + (c : Int) / 4096), .int .u8 (128 + (c : Int) / 64 % 64), .int .u8 (128 + (c : Int) % 64)] (enc_three h hc).1 (enc_three h hc).2
  have hb := (isSg_iff c).1 h
  have h1 : (c : Int) ≤ 1114111 := by omega
  have a1 : decide ((c : Int) < 128) = false := by simp; omega
  have a2 : decide ((c : Int) < 2048) = false := by simp; omega
  have a3 : decide ((c : Int) < 65536) = true := by simp; omega
  have h9 : (c : Int) / 4096 ≤ 15 := by omega
  have E := Lib.hid h
  clear h hb hc
  go_enter Tryd.func39, Tryd.ntmps39
  go_wp2_with fail
  refine (rIs_any _ _).mono ?_
  rintro r w' ⟨rfl, rfl⟩
  rw [show (decide (0 ≤ (c : Int)) && isSg (c : Int).toNat) = true from by simpa using E.out]
  go_wp2
  go_ret2
  exact ⟨rfl, (Below.refl _ _).alloc (Nat.le_refl _) _⟩

theorem enc_four {c : Nat} (h : isSg c = true) (hc : ¬ c < 65536) : (enc c).length = 4 ∧ (#[Value.int .u8 (240 + (c : Int) / 262144), Value.int .u8 (128 + (c : Int) / 4096 % 64), Value.int .u8 (128 + (c : Int) / 64 % 64), Value.int .u8 (128 + (c : Int) % 64)] : Array Value).toList = (enc c).map fun b => Value.int .u8 (b.toNat : Int) := by
  have hb := (isSg_iff c).1 h
  unfold enc
  rw [if_neg (by omega), if_neg (by omega), if_neg hc]
  refine ⟨rfl, ?_⟩
  simp only [List.map_cons, List.map_nil]
  rw [u_int (by omega), u_int (by omega), u_int (by omega), u_int (by omega)]
  simp
set_option maxHeartbeats 400000 in
theorem rPut_four (c : Nat) (w : World) (h : isSg c = true) (hc : ¬ c < 65536) :
    Calls Tryd.prog 39 #[.int .i64 c] w fun r w' => r = .returned (.tuple #[.string ⟨(enc c).toArray⟩, .int .i64 0]) ∧ Below w.heap.size w w' := by
  have hcv := conv_row (P := Tryd.prog) w 39 9 5 5 Tryd.underlying39 Tryd.underlying5 Tryd.underlying9 (enc c) 4 4 #[.int .u8 (240 + (c : Int) / 262144), .int .u8 (128 + (c : Int) / 4096 % 64), .int .u8 (128 + (c : Int) / 64 % 64), .int .u8 (128 + (c : Int) % 64)] (enc_four h hc).1 (enc_four h hc).2
  have hb := (isSg_iff c).1 h
  have h1 : (c : Int) ≤ 1114111 := by omega
  have a1 : decide ((c : Int) < 128) = false := by simp; omega
  have a2 : decide ((c : Int) < 2048) = false := by simp; omega
  have a3 : decide ((c : Int) < 65536) = false := by simp; omega
  have E := Lib.hid h
  clear h hb hc
  go_enter Tryd.func39, Tryd.ntmps39
  go_wp2_with fail
  refine (rIs_any _ _).mono ?_
  rintro r w' ⟨rfl, rfl⟩
  rw [show (decide (0 ≤ (c : Int)) && isSg (c : Int).toNat) = true from by simpa using E.out]
  go_wp2
  go_ret2
  exact ⟨rfl, (Below.refl _ _).alloc (Nat.le_refl _) _⟩

theorem rPut_yes (c : Nat) (w : World) (h : isSg c = true) :
    Calls Tryd.prog 39 #[.int .i64 c] w fun r w' => r = .returned (.tuple #[.string ⟨(enc c).toArray⟩, .int .i64 0]) ∧ Below w.heap.size w w' := by
  by_cases h1 : c < 128
  · exact rPut_one c w h h1
  · by_cases h2 : c < 2048
    · exact rPut_two c w h ⟨h1, h2⟩
    · by_cases h3 : c < 65536
      · exact rPut_three c w h ⟨h2, h3⟩
      · exact rPut_four c w h h3
theorem rPut_no (c : Int) (w : World) (h : (decide (0 ≤ c) && isSg c.toNat) = false) :
    Calls Tryd.prog 39 #[.int .i64 c] w fun r w' => r = .returned (.tuple #[.string ⟨#[]⟩, .int .i64 10]) ∧ w = w' := by
  have E := Lib.hid h
  clear h
  go_enter Tryd.func39, Tryd.ntmps39
  go_wp2_with fail
  refine (rIs_any _ _).mono ?_
  rintro r w' ⟨rfl, rfl⟩
  rw [E.out]
  go_wp2
  go_ret2
  exact ⟨rfl, rfl⟩
end Go.Proofs.YtbadoidjdghklaaDoor
