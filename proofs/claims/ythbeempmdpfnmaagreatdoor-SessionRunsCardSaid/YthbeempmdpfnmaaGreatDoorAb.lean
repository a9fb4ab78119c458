/- Package glyph. Conditions: those of each theorem's head. -/
import Derived.Test.YthbeempmdpfnmaaGreatDoorAa
import Derived.Test.YthbeempmdpfnmaaGreatDoorShelf
import Derived.WalkKit
import Derived.WalkSpells
import Derived.WalkLawsBesides
import Derived.BigQuiet
import Derived.Lib.Hide
import Derived.Lib.SlTrimSet

set_option maxRecDepth 100000
set_option maxHeartbeats 1000000
namespace Go.Proofs.YthbeempmdpfnmaaGreatDoor
open Go.RowKit Go.Lib Sg
theorem rIs_any (c : Int) (w : World) :
    Calls Tryz.prog 70 #[.int .i64 c] w fun r w' => r = .returned (.bool (decide (0 ≤ c) && isSg c.toNat)) ∧ w = w' := by
  have e : ∀ b : Bool, (b = true ↔ (0 ≤ c ∧ (c < 55296 ∨ (57344 ≤ c ∧ c ≤ 1114111)))) → (decide (0 ≤ c) && isSg c.toNat) = b := by
    intro b hb; rw [Bool.eq_iff_iff, hb]; simp [isSg]; omega
  by_cases h0 : c < 0
  · rw [e false (by simp; omega)]
    go_enter Tryz.func70, Tryz.ntmps70
    go_wp2
    go_ret
    exact ⟨rfl, rfl⟩
  · skip
    by_cases h1 : c < 55296
    · rw [e true (by simp; omega)]
      have hd : decide (c < 55296) = true := by simp; omega
      go_enter Tryz.func70, Tryz.ntmps70
      go_wp2
      go_ret
      exact ⟨rfl, rfl⟩
    · skip
      by_cases h2 : c ≤ 57343
      · rw [e false (by simp; omega)]
        have hd : decide (57343 < c) = false := by simp; omega
        go_enter Tryz.func70, Tryz.ntmps70
        go_wp2
        go_ret
        exact ⟨rfl, rfl⟩
      · skip
        by_cases h3 : c ≤ 1114111
        · rw [e true (by simp; omega)]
          have hd : decide (57343 < c) = true := by simp; omega
          go_enter Tryz.func70, Tryz.ntmps70
          go_wp2
          go_ret
          exact ⟨rfl, rfl⟩
        · skip
          rw [e false (by simp; omega)]
          go_enter Tryz.func70, Tryz.ntmps70
          go_wp2
          go_ret
          exact ⟨rfl, rfl⟩
/-- A string made of a new row of bytes. -/
theorem conv_row {P : Program} (W : World) (src dst e t : TypeId) (hs : P.underlying src = some (.slice e)) (he : P.underlying e = some (.int .u8)) (hd : P.underlying dst = some .string)
    (l : List UInt8) (n cap : Nat) (C : Array Value) (hn : l.length = n) (hC : C.toList = l.map fun b => Value.int .u8 (b.toNat : Int)) :
    (convert src dst (.slice (some ⟨W.heap.size, 0, none⟩) n cap)).run P (W.alloc (.cells C t)) = .ok (.string ⟨l.toArray⟩) (W.alloc (.cells C t)) := by
  subst hn
  refine run_convert_bytes_back _ src dst e _ cap l hs he hd fun j hj => ?_
  have h0 : (⟨W.heap.size, 0, none⟩ : Addr).add j = ⟨W.heap.size, j, none⟩ := by
    unfold Addr.add; split <;> simp_all
  rw [h0, World.cell?_alloc_mark, ← Array.getElem?_toList, hC]
  simp [List.getElem?_eq_getElem hj]
theorem u_int {n : Nat} (h : n < 256) : ((u n).toNat : Int) = (n : Int) := by rw [u_nat h]
theorem enc_one {c : Nat} (h : isSg c = true) (hc : c < 128) : (enc c).length = 1 ∧ (#[Value.int .u8 (c : Int)] : Array Value).toList = (enc c).map fun b => Value.int .u8 (b.toNat : Int) := by
  have hb := (isSg_iff c).1 h
  unfold enc
  rw [if_pos hc]
  refine ⟨rfl, ?_⟩
  simp only [List.map_cons, List.map_nil]
  rw [u_int (by omega)]
theorem rPut_one (c : Nat) (w : World) (h : isSg c = true) (hc : c < 128) :
    Calls Tryz.prog 60 #[.int .i64 c] w fun r w' => r = .returned (.tuple #[.string ⟨(enc c).toArray⟩, .int .i64 0]) ∧ Below w.heap.size w w' := by
  have hcv := conv_row (P := Tryz.prog) w 89 9 5 5 Tryz.underlying89 Tryz.underlying5 Tryz.underlying9 (enc c) 1 1 #[.int .u8 (c : Int)] (enc_one h hc).1 (enc_one h hc).2
  have hb := (isSg_iff c).1 h
  have h1 : (c : Int) ≤ 1114111 := by omega
  have a1 : decide ((c : Int) < 128) = true := by simp; omega
  have h9 : (c : Int) ≤ 127 := by omega
  have E := Lib.hid h
  clear h hb hc
  go_enter Tryz.func60, Tryz.ntmps60
  go_wp2_with fail
  refine (rIs_any _ _).mono ?_
  rintro r w' ⟨rfl, rfl⟩
  rw [show (decide (0 ≤ (c : Int)) && isSg (c : Int).toNat) = true from by simpa using E.out]
  go_wp2
  go_ret2
  exact ⟨rfl, (Below.refl _ _).alloc (Nat.le_refl _) _⟩
theorem enc_two {c : Nat} (h : isSg c = true) (hc : ¬ c < 128 ∧ c < 2048) : (enc c).length = 2 ∧ (#[Value.int .u8 (192 + (c : Int) / 64), Value.int .u8 (128 + (c : Int) % 64)] : Array Value).toList = (enc c).map fun b => Value.int .u8 (b.toNat : Int) := by
  have hb := (isSg_iff c).1 h
  unfold enc
  rw [if_neg hc.1, if_pos hc.2]
  refine ⟨rfl, ?_⟩
  simp only [List.map_cons, List.map_nil]
  rw [u_int (by omega), u_int (by omega)]
  simp
theorem rPut_two (c : Nat) (w : World) (h : isSg c = true) (hc : ¬ c < 128 ∧ c < 2048) :
    Calls Tryz.prog 60 #[.int .i64 c] w fun r w' => r = .returned (.tuple #[.string ⟨(enc c).toArray⟩, .int .i64 0]) ∧ Below w.heap.size w w' := by
  have hcv := conv_row (P := Tryz.prog) w 89 9 5 5 Tryz.underlying89 Tryz.underlying5 Tryz.underlying9 (enc c) 2 2 #[.int .u8 (192 + (c : Int) / 64), .int .u8 (128 + (c : Int) % 64)] (enc_two h hc).1 (enc_two h hc).2
  have hb := (isSg_iff c).1 h
  have h1 : (c : Int) ≤ 1114111 := by omega
  have a1 : decide ((c : Int) < 128) = false := by simp; omega
  have a2 : decide ((c : Int) < 2048) = true := by simp; omega
  have h9 : (c : Int) / 64 ≤ 31 := by omega
  have E := Lib.hid h
  clear h hb hc
  go_enter Tryz.func60, Tryz.ntmps60
  go_wp2_with fail
  refine (rIs_any _ _).mono ?_
  rintro r w' ⟨rfl, rfl⟩
  rw [show (decide (0 ≤ (c : Int)) && isSg (c : Int).toNat) = true from by simpa using E.out]
  go_wp2
  go_ret2
  exact ⟨rfl, (Below.refl _ _).alloc (Nat.le_refl _) _⟩
theorem enc_three {c : Nat} (h : isSg c = true) (hc : ¬ c < 2048 ∧ c < 65536) : (enc c).length = 3 ∧ (#[Value.int .u8 (224 + (c : Int) / 4096), Value.int .u8 (128 + (c : Int) / 64 % 64), Value.int .u8 (128 + (c : Int) % 64)] : Array Value).toList = (enc c).map fun b => Value.int .u8 (b.toNat : Int) := by
  have hb := (isSg_iff c).1 h
  unfold enc
  rw [if_neg (by omega), if_neg hc.1, if_pos hc.2]
  refine ⟨rfl, ?_⟩
  simp only [List.map_cons, List.map_nil]
  rw [u_int (by omega), u_int (by omega), u_int (by omega)]
  simp
theorem rPut_three (c : Nat) (w : World) (h : isSg c = true) (hc : ¬ c < 2048 ∧ c < 65536) :
    Calls Tryz.prog 60 #[.int .i64 c] w fun r w' => r = .returned (.tuple #[.string ⟨(enc c).toArray⟩, .int .i64 0]) ∧ Below w.heap.size w w' := by
  have hcv := conv_row (P := Tryz.prog) w 89 9 5 5 Tryz.underlying89 Tryz.underlying5 Tryz.underlying9 (enc c) 3 3 #[.int .u8 (224 + (c : Int) / 4096), .int .u8 (128 + (c : Int) / 64 % 64), .int .u8 (128 + (c : Int) % 64)] (enc_three h hc).1 (enc_three h hc).2
  have hb := (isSg_iff c).1 h
  have h1 : (c : Int) ≤ 1114111 := by omega
  have a1 : decide ((c : Int) < 128) = false := by simp; omega
  have a2 : decide ((c : Int) < 2048) = false := by simp; omega
  have a3 : decide ((c : Int) < 65536) = true := by simp; omega
  have h9 : (c : Int) / 4096 ≤ 15 := by omega
  have E := Lib.hid h
  clear h hb hc
  go_enter Tryz.func60, Tryz.ntmps60
  go_wp2_with fail
  refine (rIs_any _ _).mono ?_
  rintro r w' ⟨rfl, rfl⟩
  rw [show (decide (0 ≤ (c : Int)) && isSg (c : Int).toNat) = true from by simpa using E.out]
  go_wp2
  go_ret2
  exact ⟨rfl, (Below.refl _ _).alloc (Nat.le_refl _) _⟩
theorem enc_four {c : Nat} (h : isSg c = true) (hc : ¬ c < 65536) : (enc c).length = 4 ∧ (#[Value.int .u8 (240 + (c : Int) / 262144), Value.int .u8 (128 + (c : Int) / 4096 % 64), Value.int .u8 (128 + (c : Int) / 64 % 64), Value.int .u8 (128 + (c : Int) % 64)] : Array Value).toList = (enc c).map fun b => Value.int .u8 (b.toNat : Int) := by
  have hb := (isSg_iff c).1 h
  unfold enc
  rw [if_neg (by omega), if_neg (by omega), if_neg hc]
  refine ⟨rfl, ?_⟩
  simp only [List.map_cons, List.map_nil]
  rw [u_int (by omega), u_int (by omega), u_int (by omega), u_int (by omega)]
  simp
theorem rPut_four (c : Nat) (w : World) (h : isSg c = true) (hc : ¬ c < 65536) :
    Calls Tryz.prog 60 #[.int .i64 c] w fun r w' => r = .returned (.tuple #[.string ⟨(enc c).toArray⟩, .int .i64 0]) ∧ Below w.heap.size w w' := by
  have hcv := conv_row (P := Tryz.prog) w 89 9 5 5 Tryz.underlying89 Tryz.underlying5 Tryz.underlying9 (enc c) 4 4 #[.int .u8 (240 + (c : Int) / 262144), .int .u8 (128 + (c : Int) / 4096 % 64), .int .u8 (128 + (c : Int) / 64 % 64), .int .u8 (128 + (c : Int) % 64)] (enc_four h hc).1 (enc_four h hc).2
  have hb := (isSg_iff c).1 h
  have h1 : (c : Int) ≤ 1114111 := by omega
  have a1 : decide ((c : Int) < 128) = false := by simp; omega
  have a2 : decide ((c : Int) < 2048) = false := by simp; omega
  have a3 : decide ((c : Int) < 65536) = false := by simp; omega
  have E := Lib.hid h
  clear h hb hc
  go_enter Tryz.func60, Tryz.ntmps60
  go_wp2_with fail
  refine (rIs_any _ _).mono ?_
  rintro r w' ⟨rfl, rfl⟩
  rw [show (decide (0 ≤ (c : Int)) && isSg (c : Int).toNat) = true from by simpa using E.out]
  go_wp2
  go_ret2
  exact ⟨rfl, (Below.refl _ _).alloc (Nat.le_refl _) _⟩
theorem rPut_yes (c : Nat) (w : World) (h : isSg c = true) :
    Calls Tryz.prog 60 #[.int .i64 c] w fun r w' => r = .returned (.tuple #[.string ⟨(enc c).toArray⟩, .int .i64 0]) ∧ Below w.heap.size w w' := by
  by_cases h1 : c < 128
  · exact rPut_one c w h h1
  · by_cases h2 : c < 2048
    · exact rPut_two c w h ⟨h1, h2⟩
    · by_cases h3 : c < 65536
      · exact rPut_three c w h ⟨h2, h3⟩
      · exact rPut_four c w h h3
theorem rPut_no (c : Int) (w : World) (h : (decide (0 ≤ c) && isSg c.toNat) = false) :
    Calls Tryz.prog 60 #[.int .i64 c] w fun r w' => r = .returned (.tuple #[.string ⟨#[]⟩, .int .i64 10]) ∧ w = w' := by
  have E := Lib.hid h
  clear h
  go_enter Tryz.func60, Tryz.ntmps60
  go_wp2_with fail
  refine (rIs_any _ _).mono ?_
  rintro r w' ⟨rfl, rfl⟩
  rw [E.out]
  go_wp2
  go_ret2
  exact ⟨rfl, rfl⟩
end Go.Proofs.YthbeempmdpfnmaaGreatDoor

namespace Go.Proofs.YthbeempmdpfnmaaGreatDoor
open Go.RowKit Go.Lib Sg
/-- Block B's first n cells are bytes, the j-th f j, and may be written. -/
def RowB (w : World) (B n : Nat) (f : Nat → Nat) : Prop := ∀ j, j < n → w.cell? ⟨B, j, none⟩ = some (.int .u8 (f j : Int)) ∧ w.frozen? ⟨B, j, none⟩ = false
theorem RowB.new (w : World) (s : ByteArray) (cap e : Nat) :
    RowB (w.alloc (.cells (bytesRow s cap) e ((bytesRow s cap).size, (bytesRow s cap).size + 1))) w.heap.size s.size (nb s.data.toList) := by
  intro j hj
  have hj' : j < s.data.size := hj
  have hsz : s.size ≤ (bytesRow s cap).size := by unfold bytesRow; simp
  constructor
  · rw [World.cell?_alloc_mark, bytesRow_at s cap j hj']
    simp [nb, List.getD_eq_getElem?_getD, Array.getElem?_eq_getElem hj']
  · rw [World.frozen?_alloc_mark]
    simp; omega
theorem RowB.drew {w : World} {B n : Nat} {f : Nat → Nat} (h : RowB w B n f) : RowB w.drew B n f := h
theorem RowB.set {w : World} {B n : Nat} {f g : Nat → Nat} (h : RowB w B n f) {k : Nat} (hk : k < n) {v : Int} (hv : v = (g k : Int)) (hg : ∀ j, j < n → j ≠ k → g j = f j) : RowB (w.setCell ⟨B, k, none⟩ (.int .u8 v)) B n g := by
  intro j hj
  rw [World.frozen?_setCell]
  refine ⟨?_, (h j hj).2⟩
  by_cases e : j = k
  · subst e
    rw [World.cell?_setCell_same _ _ _ (h j hj).1, hv]
  · rw [World.cell?_setCell_other _ _ _ _ (fun e2 => e (by cases e2; rfl)), (h j hj).1, hg j hj e]
theorem RowB.same {w : World} {B n : Nat} {f g : Nat → Nat} (h : RowB w B n f) (hg : ∀ j, j < n → g j = f j) : RowB w B n g := by
  intro j hj
  rw [hg j hj]
  exact h j hj
theorem RowB.conv {P : Program} {w : World} {B n : Nat} {f : Nat → Nat} (h : RowB w B n f) (src dst e : TypeId) (hs : P.underlying src = some (.slice e)) (he : P.underlying e = some (.int .u8)) (hd : P.underlying dst = some .string)
    (l : List UInt8) (cap : Nat) (hn : l.length = n) (hl : ∀ j, j < n → f j = nb l j) :
    (convert src dst (.slice (some ⟨B, 0, none⟩) n cap)).run P w = .ok (.string ⟨l.toArray⟩) w := by
  subst hn
  refine run_convert_bytes_back w src dst e _ cap l hs he hd fun j hj => ?_
  have h0 : (⟨B, 0, none⟩ : Addr).add j = ⟨B, j, none⟩ := by
    unfold Addr.add; split <;> simp_all
  rw [h0, (h j hj).1, hl j hj]
  simp [nb, List.getD_eq_getElem?_getD, List.getElem?_eq_getElem hj]
end Go.Proofs.YthbeempmdpfnmaaGreatDoor

namespace Go.Proofs.YthbeempmdpfnmaaGreatDoor
open Go.RowKit Go.Lib Sg
def lowN (b : Nat) : Nat := if 65 ≤ b ∧ b ≤ 90 then b + 32 else b
def low (a : UInt8) : UInt8 := u (lowN a.toNat)
theorem lowN_lt {b : Nat} (h : b < 256) : lowN b < 256 := by unfold lowN; split <;> omega
theorem low_nat (a : UInt8) : (low a).toNat = lowN a.toNat := u_nat (lowN_lt (UInt8.toNat_lt a))
def foldL (l : List UInt8) : List UInt8 := l.map low
theorem foldL_len (l : List UInt8) : (foldL l).length = l.length := by simp [foldL]
theorem nb_foldL (l : List UInt8) (j : Nat) (h : j < l.length) : nb (foldL l) j = lowN (nb l j) := by
  unfold nb foldL
  simp [List.getD_eq_getElem?_getD, List.getElem?_eq_getElem h, low_nat]
def fs (l : List UInt8) (k j : Nat) : Nat := if j < k then lowN (nb l j) else nb l j
theorem fold_step {wr : World} {B n k x : Nat} {l : List UInt8} (h : RowB wr B n (fs l k)) (hk : k < n) (hX : nb l k = x) {v : Int} (hv : v = (lowN x : Int)) :
    RowB (wr.setCell ⟨B, k, none⟩ (.int .u8 v)) B n (fs l (k + 1)) := by
  refine h.set hk (by rw [hv]; unfold fs; rw [if_pos (by omega), hX]) fun j _ hne => ?_
  unfold fs
  by_cases hj : j < k
  · rw [if_pos (by omega), if_pos hj]
  · rw [if_neg (by omega), if_neg hj]
theorem fold_skip {wr : World} {B n k x : Nat} {l : List UInt8} (h : RowB wr B n (fs l k)) (hX : nb l k = x) (hv : lowN x = x) : RowB wr B n (fs l (k + 1)) := by
  refine h.same fun j _ => ?_
  unfold fs
  by_cases hj : j < k
  · rw [if_pos (by omega), if_pos hj]
  · by_cases e : j = k
    · subst e; rw [if_pos (by omega), if_neg hj, hX, hv]
    · rw [if_neg (by omega), if_neg hj]
theorem rFold_any (s : ByteArray) (w : World) (hs : s.size ≤ 9223372036854775807) :
    Calls Tryz.prog 61 #[.string s] w fun e w' => e = .returned (.string ⟨(foldL s.data.toList).toArray⟩) ∧ Below w.heap.size w w' := by
  have hl : s.data.toList.length = s.size := by simp
  have hcv := run_bytes_of_string (P := Tryz.prog) w 9 89 5 s Tryz.underlying9 Tryz.underlying89 Tryz.underlying5
  generalize grownCap w s.size 0 5 = cap at hcv
  have hrow0 := RowB.new w.drew s cap 5
  generalize hC : bytesRow s cap = C at hcv hrow0
  clear hC
  have H0 : Hid (RowB (w.drew.alloc (.cells C 5 (C.size, C.size + 1))) w.heap.size s.size (nb s.data.toList)) := hrow0
  have HL := Lib.hid hl
  clear hrow0 hl
  go_enter Tryz.func61, Tryz.ntmps61
  go_wp2
  go_loopw [4] (fun i wr => ∃ k : Nat, k ≤ s.size ∧ i = .int .i64 k ∧ RowB wr w.heap.size s.size (fs s.data.toList k) ∧ Below w.heap.size w wr) (fun i _ => s.size - (RowKit.intOf i).toNat)
  case atStart =>
    exact ⟨0, Nat.zero_le _, rfl, H0.out.same (fun j _ => by simp [fs]), ((Below.refl _ _).drew).alloc (Nat.le_refl _) _⟩
  case round =>
    obtain ⟨k, hk, rfl, hrow, hbel⟩ := hrel
    have HB := Lib.hid hbel
    clear hbel
    by_cases hlt : k < s.size
    · have hc := (hrow k hlt).1
      have hz := (hrow k hlt).2
      have hv : fs s.data.toList k k = nb s.data.toList k := by simp [fs]
      have hx := nb_lt s.data.toList k
      rw [hv] at hc
      generalize hX : nb s.data.toList k = x at hc hx hv
      have HX := Lib.hid hX
      have HR := Lib.hid hrow
      clear hX hrow hv
      by_cases hup : 65 ≤ x ∧ x ≤ 90
      · obtain ⟨h1, h2⟩ := hup
        have hstep := fold_step HR.out hlt HX.out (v := (x : Int) + 32) (by unfold lowN; rw [if_pos ⟨h1, h2⟩]; omega)
        have HS := Lib.hid hstep
        clear hstep
        go_wp2
        refine ⟨⟨k + 1, by omega, by go_num, HS.out, HB.out.setCell (Nat.le_refl _) _⟩, by simp [RowKit.intOf]; omega⟩
      · have hstep := fold_skip HR.out HX.out (by unfold lowN; rw [if_neg hup])
        have HS := Lib.hid hstep
        clear hstep
        by_cases h1 : 65 ≤ x
        · have h2 : ¬ x ≤ 90 := fun e => hup ⟨h1, e⟩
          clear hup
          go_wp2
          refine ⟨⟨k + 1, by omega, by go_num, HS.out, HB.out⟩, by simp [RowKit.intOf]; omega⟩
        · clear hup
          go_wp2
          refine ⟨⟨k + 1, by omega, by go_num, HS.out, HB.out⟩, by simp [RowKit.intOf]; omega⟩
    · have hk' : k = s.size := by omega
      have hback := RowB.conv (P := Tryz.prog) hrow 89 9 5 Tryz.underlying89 Tryz.underlying5 Tryz.underlying9 (foldL s.data.toList) cap (by rw [foldL_len]; exact HL.out)
        (fun j hj => by rw [nb_foldL _ _ (by rw [HL.out]; exact hj)]; simp [fs, hk', hj])
      clear hrow hk'
      go_wp2
      go_ret
      exact ⟨rfl, HB.out⟩
end Go.Proofs.YthbeempmdpfnmaaGreatDoor

namespace Go.Proofs.YthbeempmdpfnmaaGreatDoor
open Go.RowKit Go.Lib Sg
def inner (b : Nat) : Bool := decide (128 ≤ b) && decide (b < 192)
/-- From k downward the first place at which no sign is torn. -/
def back (l : List UInt8) : Nat → Nat
  | 0 => 0
  | k + 1 => if inner (nb l (k + 1)) then back l k else k + 1
/-- How long a text's front of at most n bytes is. -/
def hd (l : List UInt8) (n : Int) : Nat := if (l.length : Int) ≤ n then l.length else back l n.toNat
theorem byte_nb (s : ByteArray) (k : Nat) (h : k < s.size) : (s[k]'h).toNat = nb s.data.toList k := by
  unfold nb
  have h' : k < s.data.size := h
  simp [List.getD_eq_getElem?_getD, Array.getElem?_eq_getElem h']
  rfl
theorem extract_zero (s : ByteArray) (k : Nat) : s.extract 0 k = ⟨(s.data.toList.take k).toArray⟩ := by
  apply ByteArray.ext
  apply Array.toList_inj.1
  rw [Lib.extract_data]
  simp
theorem front_dec {l : List UInt8} {c n : Nat} (h : front l = some (c, n)) : dec l = (c, n) ∧ c ≤ 1114111 ∧ 1 ≤ n ∧ n ≤ 4 ∧ (c = 65533 → 2 ≤ n) := by
  obtain ⟨hs, hn, r, hr⟩ := front_some h
  have hb := (isSg_iff c).1 hs
  have hl := enc_len_le c
  unfold front at h
  split at h
  · cases h
  · rename_i hno
    simp only [Option.some.injEq] at h
    rw [h] at hno
    refine ⟨h, by omega, by omega, by omega, fun e => ?_⟩
    simp only at hno
    omega
theorem front_dec_none {l : List UInt8} (h : front l = none) : ∃ n, dec l = (65533, n) ∧ n < 2 := by
  unfold front at h
  split at h
  · rename_i hy
    unfold dec at hy ⊢
    by_cases h0 : l.length = 0
    · rw [if_pos h0]; exact ⟨0, rfl, by omega⟩
    · rw [if_neg h0] at hy ⊢
      rcases hd : decodeN l.length (nb l 0) (nb l 1) (nb l 2) (nb l 3) with ⟨c, k⟩
      rw [hd] at hy
      have hs := decN_split _ _ _ _ _ _ _ (nb_lt l 1) (nb_lt l 2) (nb_lt l 3) hd
      simp only at hy
      have e1 : c = 65533 := by omega
      have e2 : k = 1 := by omega
      subst e1 e2
      exact ⟨1, rfl, by omega⟩
  · cases h
end Go.Proofs.YthbeempmdpfnmaaGreatDoor

namespace Go.Proofs.YthbeempmdpfnmaaGreatDoor
open Go.Lib Sg
theorem nb_append_left (a b : List UInt8) (k : Nat) (h : k < a.length) : nb (a ++ b) k = nb a k := by
  unfold nb; rw [List.getD_eq_getElem?_getD, List.getElem?_append_left h, ← List.getD_eq_getElem?_getD]
theorem nb_u0 (a : Nat) (r : List UInt8) (h : a < 256) : nb (u a :: r) 0 = a := by simp [nb, u_nat h]
theorem nb_u1 (x : UInt8) (a : Nat) (r : List UInt8) (h : a < 256) : nb (x :: u a :: r) 1 = a := by simp [nb, u_nat h]
theorem nb_u2 (x y : UInt8) (a : Nat) (r : List UInt8) (h : a < 256) : nb (x :: y :: u a :: r) 2 = a := by simp [nb, u_nat h]
theorem nb_u3 (x y z : UInt8) (a : Nat) (r : List UInt8) (h : a < 256) : nb (x :: y :: z :: u a :: r) 3 = a := by simp [nb, u_nat h]
theorem inner_iff (b : Nat) : inner b = true ↔ (128 ≤ b ∧ b < 192) := by simp [inner]
theorem enc_rest {c : Nat} (h : isSg c = true) (k : Nat) (h0 : 0 < k) (hk : k < (enc c).length) : inner (nb (enc c) k) = true := by
  have h1 := (isSg_iff c).1 h
  rw [inner_iff]
  rw [enc_len] at hk
  unfold enc
  split at hk
  · omega
  · rename_i a1
    rw [if_neg a1]
    split at hk
    · rename_i a2
      rw [if_pos a2]
      obtain rfl : k = 1 := by omega
      rw [nb_u1 _ _ _ (by omega)]; omega
    · rename_i a2
      rw [if_neg a2]
      split at hk
      · rename_i a3
        rw [if_pos a3]
        rcases (show k = 1 ∨ k = 2 by omega) with rfl | rfl
        · rw [nb_u1 _ _ _ (by omega)]; omega
        · rw [nb_u2 _ _ _ _ (by omega)]; omega
      · rename_i a3
        rw [if_neg a3]
        rcases (show k = 1 ∨ k = 2 ∨ k = 3 by omega) with rfl | rfl | rfl
        · rw [nb_u1 _ _ _ (by omega)]; omega
        · rw [nb_u2 _ _ _ _ (by omega)]; omega
        · rw [nb_u3 _ _ _ _ _ (by omega)]; omega
theorem enc_small {c : Nat} (h : c < 128) : enc c = [u c] := by unfold enc; rw [if_pos h]
/-! ### Folded -/
/-! ### Blanks at both ends -/
end Go.Proofs.YthbeempmdpfnmaaGreatDoor

namespace Go.Proofs.YthbeempmdpfnmaaGreatDoor
open Go.RowKit Go.Lib Sg
theorem isPlain_any (c : Nat) (w : World) (hc : c ≤ 1114111) :
    Calls Tryz.prog 77 #[.int .i32 c] w fun e w' => e = .returned (.bool (plain c)) ∧ w = w' := by
  by_cases h9 : c = 9
  · subst h9
    go_enter Tryz.func77, Tryz.ntmps77
    go_wp2
    go_ret
    exact ⟨rfl, rfl⟩
  have b9 : ((c : Int) == 9) = false := by rw [beq_eq_false_iff_ne]; omega
  by_cases h10 : c = 10
  · subst h10
    go_enter Tryz.func77, Tryz.ntmps77
    go_wp2
    go_ret
    exact ⟨rfl, rfl⟩
  have b10 : ((c : Int) == 10) = false := by rw [beq_eq_false_iff_ne]; omega
  by_cases h13 : c = 13
  · subst h13
    go_enter Tryz.func77, Tryz.ntmps77
    go_wp2
    go_ret
    exact ⟨rfl, rfl⟩
  have b13 : ((c : Int) == 13) = false := by rw [beq_eq_false_iff_ne]; omega
  by_cases h65534 : c = 65534
  · subst h65534
    go_enter Tryz.func77, Tryz.ntmps77
    go_wp2
    go_ret
    exact ⟨rfl, rfl⟩
  have b65534 : ((c : Int) == 65534) = false := by rw [beq_eq_false_iff_ne]; omega
  by_cases h65535 : c = 65535
  · subst h65535
    go_enter Tryz.func77, Tryz.ntmps77
    go_wp2
    go_ret
    exact ⟨rfl, rfl⟩
  have b65535 : ((c : Int) == 65535) = false := by rw [beq_eq_false_iff_ne]; omega
  by_cases h32 : 32 ≤ c
  · have E : Hid (plain c = true) := by show _ = _; rw [plain_iff]; omega
    have d32 : decide (32 ≤ (c : Int)) = true := by simp; omega
    have hi : (c : Int) ≤ 1114111 := by omega
    clear h9 h10 h13 h65534 h65535 h32 hc
    go_enter Tryz.func77, Tryz.ntmps77
    go_wp2
    go_ret
    exact ⟨by rw [E.out]; rfl, rfl⟩
  · have E : Hid (plain c = false) := by show _ = _; rw [Bool.eq_false_iff, ne_eq, plain_iff]; omega
    have d32 : decide (32 ≤ (c : Int)) = false := by simp; omega
    have hi : (c : Int) ≤ 1114111 := by omega
    clear h9 h10 h13 h65534 h65535 h32 hc
    go_enter Tryz.func77, Tryz.ntmps77
    go_wp2
    go_ret
    exact ⟨by rw [E.out]; rfl, rfl⟩
theorem rPlain_any (c : Nat) (w : World) (hc : c ≤ 1114111) :
    Calls Tryz.prog 42 #[.int .i64 c] w fun e w' => e = .returned (.bool (plain c)) ∧ w = w' := by
  by_cases h9 : c = 9
  · subst h9
    go_enter Tryz.func42, Tryz.ntmps42
    go_wp2
    go_ret
    exact ⟨rfl, rfl⟩
  have b9 : ((c : Int) == 9) = false := by rw [beq_eq_false_iff_ne]; omega
  by_cases h10 : c = 10
  · subst h10
    go_enter Tryz.func42, Tryz.ntmps42
    go_wp2
    go_ret
    exact ⟨rfl, rfl⟩
  have b10 : ((c : Int) == 10) = false := by rw [beq_eq_false_iff_ne]; omega
  by_cases h13 : c = 13
  · subst h13
    go_enter Tryz.func42, Tryz.ntmps42
    go_wp2
    go_ret
    exact ⟨rfl, rfl⟩
  have b13 : ((c : Int) == 13) = false := by rw [beq_eq_false_iff_ne]; omega
  by_cases h65534 : c = 65534
  · subst h65534
    go_enter Tryz.func42, Tryz.ntmps42
    go_wp2
    go_ret
    exact ⟨rfl, rfl⟩
  have b65534 : ((c : Int) != 65534) = true := by rw [bne_iff_ne]; omega
  by_cases h65535 : c = 65535
  · subst h65535
    go_enter Tryz.func42, Tryz.ntmps42
    go_wp2
    go_ret
    exact ⟨rfl, rfl⟩
  have b65535 : ((c : Int) != 65535) = true := by rw [bne_iff_ne]; omega
  by_cases h32 : 32 ≤ c
  · have E : Hid (plain c = true) := by show _ = _; rw [plain_iff]; omega
    have d32 : decide (32 ≤ (c : Int)) = true := by simp; omega
    have hi : (c : Int) ≤ 1114111 := by omega
    clear h9 h10 h13 h65534 h65535 h32 hc
    go_enter Tryz.func42, Tryz.ntmps42
    go_wp2
    go_ret
    exact ⟨by rw [E.out]; rfl, rfl⟩
  · have E : Hid (plain c = false) := by show _ = _; rw [Bool.eq_false_iff, ne_eq, plain_iff]; omega
    have d32 : decide (32 ≤ (c : Int)) = false := by simp; omega
    have hi : (c : Int) ≤ 1114111 := by omega
    clear h9 h10 h13 h65534 h65535 h32 hc
    go_enter Tryz.func42, Tryz.ntmps42
    go_wp2
    go_ret
    exact ⟨by rw [E.out]; rfl, rfl⟩
theorem prefix_c (s : ByteArray) (w : World) (b : Bool) (h : ([239, 191, 189] : List UInt8).isPrefixOf s.data.toList = b) :
    Calls Tryz.prog 84 #[.string s, .string ⟨#[239, 191, 189]⟩] w fun e w' => e = .returned (.bool b) ∧ w' = w := by
  subst h
  exact Any.strings_HasPrefix Tryz.lays99 s ⟨#[239, 191, 189]⟩ w
theorem isTorn_any (s : ByteArray) (c : Nat) (w : World) (b : Bool) (h : ([239, 191, 189] : List UInt8).isPrefixOf s.data.toList = b) :
    Calls Tryz.prog 78 #[.string s, .int .i32 c] w fun e w' => e = .returned (.bool ((c == 65533) && !b)) ∧ w = w' := by
  have hp := prefix_c s w b h
  have H := Lib.hid hp
  clear hp h
  by_cases e : c = 65533
  · have b1 : ((c : Int) == 65533) = true := by rw [e]; rfl
    have E : Hid (((c == 65533) && !b) = !b) := by show _ = _; rw [e]; rfl
    clear e
    go_enter Tryz.func78, Tryz.ntmps78
    go_wp2_with fail
    refine H.out.mono ?_
    rintro r w' ⟨rfl, rfl⟩
    go_wp2
    go_ret
    exact ⟨by rw [E.out]; rfl, rfl⟩
  · have b1 : ((c : Int) == 65533) = false := by rw [beq_eq_false_iff_ne]; omega
    have E : Hid (((c == 65533) && !b) = false) := by show _ = _; simp [e]
    clear e
    go_enter Tryz.func78, Tryz.ntmps78
    go_wp2
    go_ret
    exact ⟨by rw [E.out]; rfl, rfl⟩
/-- What Len and Check find of a text. -/
def LenP (l : List UInt8) (w : World) (e : Ending) (w' : World) : Prop :=
  ((∃ cs, IsT l cs ∧ e = .returned (.tuple #[.int .i64 (cs.length : Nat), .int .i64 0])) ∨ ((∀ cs, ¬ IsT l cs) ∧ e = .returned (.tuple #[.int .i64 0, .int .i64 10]))) ∧ Below w.heap.size w w'
theorem LenP.no {l : List UInt8} {w w' : World} {e : Ending} (h : ∀ cs, ¬ IsT l cs) (he : e = .returned (.tuple #[.int .i64 0, .int .i64 10])) (hb : Below w.heap.size w w') : LenP l w e w' := ⟨.inr ⟨h, he⟩, hb⟩
theorem LenP.yes {l : List UInt8} {w w' : World} {e : Ending} {cs : List Nat} {n : Int} (h : IsT l cs) (hn : n = (cs.length : Nat)) (he : e = .returned (.tuple #[.int .i64 n, .int .i64 0])) (hb : Below w.heap.size w w') : LenP l w e w' :=
  ⟨.inl ⟨cs, h, by rw [he, hn]⟩, hb⟩
theorem extract_drop (s : ByteArray) (k : Nat) : (s.extract k s.size).data.toList = s.data.toList.drop k := by
  rw [Lib.extract_data, List.take_of_length_le (by rw [List.length_drop, ← Lib.size_eq]; exact Nat.le_refl _)]
theorem next_at {P : Program} (w : World) (s : ByteArray) (pos c n : Nat) (h : pos < s.size) (hd : Utf8.decode s pos = (c, n)) (ty : TypeId) :
    (Instr.next (.pointer (some ⟨w.heap.size, 0, none⟩)) true ty).run P (w.iter s pos) = .ok (.tuple #[.bool true, .int .i64 pos, .int .i32 c]) (w.iter s (pos + n)) := by
  have := run_next_any (P := P) w s pos ty h
  rw [hd] at this
  exact this
theorem len_any (s : ByteArray) (w : World) (hs : s.size ≤ 1048576) :
    Calls Tryz.prog 66 #[.string s] w (LenP s.data.toList w) := by
  have hl : s.data.toList.length = s.size := by simp
  have HL := Lib.hid hl
  clear hl
  go_enter Tryz.func66, Tryz.ntmps66
  go_wp2_with fail
  go_loopw [4] (fun n wr => ∃ (pos : Nat) (done : List Nat), wr = w.iter s pos ∧ pos ≤ s.size ∧ n = .int .i64 (done.length : Nat) ∧ done.length ≤ pos ∧ Hid (∀ c ∈ done, ok c = true) ∧ Hid (s.data.toList = cat done ++ s.data.toList.drop pos))
    (fun _ wr => s.size - wr.iterPos w.heap.size)
  case atStart => exact ⟨0, [], rfl, Nat.zero_le _, rfl, Nat.le_refl _, (fun _ h => by cases h), rfl⟩
  case round =>
    obtain ⟨pos, done, rfl, hp, rfl, hdl, HD, HC⟩ := hrel
    by_cases hlt : pos < s.size
    · have hne : s.data.toList.drop pos ≠ [] := fun e => by
        have := congrArg List.length e
        rw [List.length_drop, HL.out] at this
        simp at this
        omega
      have hdd := decode_drop s pos hlt
      rcases hf : front (s.data.toList.drop pos) with _ | ⟨c, n⟩
      · obtain ⟨n, hd, hn⟩ := front_dec_none hf
        have hnx := fun ty => next_at (P := Tryz.prog) w s pos 65533 n hlt (hdd.trans hd) ty
        have hpre := front_none_65533 hf
        have HN := Lib.hid (not_text HD.out HC.out hne (.inl hf))
        have HX := Lib.hid ((congrArg (fun x => ([239, 191, 189] : List UInt8).isPrefixOf x) (extract_drop s pos)).trans hpre)
        clear hne hdd hf hd hpre
        go_wp2_with fail
        refine (isPlain_any 65533 _ (by omega)).mono ?_
        rintro r w' ⟨rfl, rfl⟩
        rw [show plain 65533 = true from rfl]
        go_wp2_with fail
        refine (isTorn_any _ 65533 _ false HX.out).mono ?_
        rintro r w' ⟨rfl, rfl⟩
        rw [show ((65533 : Nat) == 65533 && !false) = true from rfl]
        go_wp2_with fail
        go_ret2
        exact LenP.no HN.out rfl ((Below.refl _ _).alloc (Nat.le_refl _) _)
      · obtain ⟨hd, hc, h1, h4, h2⟩ := front_dec hf
        have hnx := fun ty => next_at (P := Tryz.prog) w s pos c n hlt (hdd.trans hd) ty
        rcases hpl : plain c with _ | _
        · have HN := Lib.hid (not_text HD.out HC.out hne (.inr ⟨c, n, hf, hpl⟩))
          have HP := Lib.hid hpl
          clear hne hdd hf hd hpl h2
          go_wp2_with fail
          refine (isPlain_any c _ hc).mono ?_
          rintro r w' ⟨rfl, rfl⟩
          rw [HP.out]
          go_wp2_with fail
          go_ret2
          exact LenP.no HN.out rfl ((Below.refl _ _).alloc (Nat.le_refl _) _)
        · obtain ⟨m1, m2, m3, m4⟩ := more_text HD.out HC.out hf hpl
          have HM1 := Lib.hid m1
          have HM2 := Lib.hid m2
          have hbp : ∃ b, ([239, 191, 189] : List UInt8).isPrefixOf (s.extract pos s.size).data.toList = b ∧ ((c == 65533) && !b) = false := by
            refine ⟨_, rfl, ?_⟩
            rw [extract_drop]
            by_cases e : c = 65533
            · subst e; rw [front_65533 hf]; rfl
            · simp [e]
          obtain ⟨b, hb1, hb2⟩ := hbp
          have HB1 := Lib.hid hb1
          have HB2 := Lib.hid hb2
          have HP := Lib.hid hpl
          have hpn : pos + n ≤ s.size := by rw [List.length_drop, HL.out] at m4; omega
          clear hne hdd hf hd hpl m1 m2 hb1 hb2 h2 m4
          go_wp2_with fail
          refine (isPlain_any c _ hc).mono ?_
          rintro r w' ⟨rfl, rfl⟩
          rw [HP.out]
          go_wp2_with fail
          refine (isTorn_any _ c _ b HB1.out).mono ?_
          rintro r w' ⟨rfl, rfl⟩
          rw [HB2.out]
          go_wp2_with fail
          refine ⟨⟨pos + n, done ++ [c], rfl, hpn, by simp, by simp; omega, HM1.out, ?_⟩, by simp; omega⟩
          have := HM2.out
          rw [List.drop_drop] at this
          exact this
    · have hpe : pos = s.size := by omega
      have hnx : ∀ ty, (Instr.next (.pointer (some ⟨w.heap.size, 0, none⟩)) true ty).run Tryz.prog (w.iter s pos) = _ := fun ty => run_next_end w s pos ty hlt
      have HT : Hid (IsT s.data.toList done) := by
        refine ⟨HD.out, ?_⟩
        have h := HC.out
        rw [List.drop_of_length_le (by rw [HL.out]; omega), List.append_nil] at h
        exact h
      clear hpe
      go_wp2_with fail
      go_ret2
      exact LenP.yes HT.out rfl rfl ((Below.refl _ _).alloc (Nat.le_refl _) _)
theorem len_yes (s : ByteArray) (w : World) (hs : s.size ≤ 1048576) {cs : List Nat} (h : IsT s.data.toList cs) :
    Calls Tryz.prog 66 #[.string s] w fun e w' => e = .returned (.tuple #[.int .i64 (cs.length : Nat), .int .i64 0]) ∧ Below w.heap.size w w' :=
  (len_any s w hs).mono fun e w' hp => by
    rcases hp with ⟨⟨ds, hd, he⟩ | ⟨hn, _⟩, hb⟩
    · rw [h.unique hd]; exact ⟨he, hb⟩
    · exact absurd h (hn cs)
theorem len_no (s : ByteArray) (w : World) (hs : s.size ≤ 1048576) (h : ∀ cs, ¬ IsT s.data.toList cs) :
    Calls Tryz.prog 66 #[.string s] w fun e w' => e = .returned (.tuple #[.int .i64 0, .int .i64 10]) ∧ Below w.heap.size w w' :=
  (len_any s w hs).mono fun e w' hp => by
    rcases hp with ⟨⟨ds, hd, _⟩ | ⟨_, he⟩, hb⟩
    · exact absurd hd (h ds)
    · exact ⟨he, hb⟩
theorem check_yes (s : ByteArray) (w : World) (hs : s.size ≤ 1048576) {cs : List Nat} (h : IsT s.data.toList cs) :
    Calls Tryz.prog 54 #[.string s] w fun e w' => e = .returned (.int .i64 0) ∧ Below w.heap.size w w' := by
  have H := Lib.hid (len_yes s w hs h)
  clear h hs
  go_enter Tryz.func54, Tryz.ntmps54
  go_wp2_with fail
  refine H.out.mono ?_
  rintro r w' ⟨rfl, hb⟩
  go_wp2
  go_ret
  exact ⟨rfl, hb⟩
theorem check_no (s : ByteArray) (w : World) (hs : s.size ≤ 1048576) (h : ∀ cs, ¬ IsT s.data.toList cs) :
    Calls Tryz.prog 54 #[.string s] w fun e w' => e = .returned (.int .i64 10) ∧ Below w.heap.size w w' := by
  have H := Lib.hid (len_no s w hs h)
  clear h hs
  go_enter Tryz.func54, Tryz.ntmps54
  go_wp2_with fail
  refine H.out.mono ?_
  rintro r w' ⟨rfl, hb⟩
  go_wp2
  go_ret
  exact ⟨rfl, hb⟩
end Go.Proofs.YthbeempmdpfnmaaGreatDoor

namespace Go.Proofs.YthbeempmdpfnmaaGreatDoor
open Go.RowKit Go.Lib Sg
theorem lowN_low {b : Nat} : lowN (lowN b) = lowN b := by
  by_cases h : 65 ≤ b ∧ b ≤ 90
  · have e : lowN b = b + 32 := by unfold lowN; rw [if_pos h]
    rw [e]; unfold lowN; rw [if_neg (by omega)]
  · have e : lowN b = b := by unfold lowN; rw [if_neg h]
    rw [e, e]
end Go.Proofs.YthbeempmdpfnmaaGreatDoor
