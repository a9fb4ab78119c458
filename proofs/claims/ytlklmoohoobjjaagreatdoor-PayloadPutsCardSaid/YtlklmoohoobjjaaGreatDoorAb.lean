/- Package glyph, the builder, elements in memory. Conditions: those of each theorem's head. -/
import Derived.Test.YtlklmoohoobjjaaGreatDoorAa
import Derived.Test.YtlklmoohoobjjaaGreatDoorShelf
import Derived.WalkKit
import Derived.WalkSpells
import Derived.WalkLawsBesides
import Derived.BigQuiet
import Derived.Lib.Hide
import Derived.Lib.SlTrimSet
import Derived.Shelf.Strings.BuilderK

namespace Go.Proofs.YtlklmoohoobjjaaGreatDoor
open Go.RowKit Go.Lib Sg

theorem num_any (e : Int) (w : World) :
    Calls Tryz.prog 24 #[.int .i64 e] w fun r w' => r = .returned (.int .i64 e) ∧ w = w' := by
  go_enter Tryz.func24, Tryz.ntmps24
  go_wp2
  go_ret
  exact ⟨rfl, rfl⟩

/-- A string made of a new row of bytes. -/
theorem conv_row {P : Program} (W : World) (src dst e t : TypeId) (hs : P.underlying src = some (.slice e)) (he : P.underlying e = some (.int .u8)) (hd : P.underlying dst = some .string)
    (l : List UInt8) (n cap : Nat) (C : Array Value) (hn : l.length = n) (hC : C.toList = l.map fun b => Value.int .u8 (b.toNat : Int)) :
    (convert src dst (.slice (some ⟨W.heap.size, 0, none⟩) n cap)).run P (W.alloc (.cells C t)) = .ok (.string ⟨l.toArray⟩) (W.alloc (.cells C t)) := by
  subst hn
  refine run_convert_bytes_back _ src dst e _ cap l hs he hd fun j hj => ?_
  have h0 : (⟨W.heap.size, 0, none⟩ : Addr).add j = ⟨W.heap.size, j, none⟩ := by
    unfold Addr.add; split <;> simp_all
  rw [h0, World.cell?_alloc_mark, ← Array.getElem?_toList, hC]
  simp [List.getElem?_eq_getElem hj]
theorem u_int {n : Nat} (h : n < 256) : ((u n).toNat : Int) = (n : Int) := by rw [u_nat h]

theorem enc_one {c : Nat} (h : isSg c = true) (hc : c < 128) : (enc c).length = 1 ∧ (#[Value.int .u8 (c : Int)] : Array Value).toList = (enc c).map fun b => Value.int .u8 (b.toNat : Int) := by
  have hb := (isSg_iff c).1 h
  unfold enc
  rw [if_pos hc]
  refine ⟨rfl, ?_⟩
  simp only [List.map_cons, List.map_nil]
  rw [u_int (by omega)]
theorem enc_two {c : Nat} (h : isSg c = true) (hc : ¬ c < 128 ∧ c < 2048) : (enc c).length = 2 ∧ (#[Value.int .u8 (192 + (c : Int) / 64), Value.int .u8 (128 + (c : Int) % 64)] : Array Value).toList = (enc c).map fun b => Value.int .u8 (b.toNat : Int) := by
  have hb := (isSg_iff c).1 h
  unfold enc
  rw [if_neg hc.1, if_pos hc.2]
  refine ⟨rfl, ?_⟩
  simp only [List.map_cons, List.map_nil]
  rw [u_int (by omega), u_int (by omega)]
  simp
theorem enc_three {c : Nat} (h : isSg c = true) (hc : ¬ c < 2048 ∧ c < 65536) : (enc c).length = 3 ∧ (#[Value.int .u8 (224 + (c : Int) / 4096), Value.int .u8 (128 + (c : Int) / 64 % 64), Value.int .u8 (128 + (c : Int) % 64)] : Array Value).toList = (enc c).map fun b => Value.int .u8 (b.toNat : Int) := by
  have hb := (isSg_iff c).1 h
  unfold enc
  rw [if_neg (by omega), if_neg hc.1, if_pos hc.2]
  refine ⟨rfl, ?_⟩
  simp only [List.map_cons, List.map_nil]
  rw [u_int (by omega), u_int (by omega), u_int (by omega)]
  simp
theorem enc_four {c : Nat} (h : isSg c = true) (hc : ¬ c < 65536) : (enc c).length = 4 ∧ (#[Value.int .u8 (240 + (c : Int) / 262144), Value.int .u8 (128 + (c : Int) / 4096 % 64), Value.int .u8 (128 + (c : Int) / 64 % 64), Value.int .u8 (128 + (c : Int) % 64)] : Array Value).toList = (enc c).map fun b => Value.int .u8 (b.toNat : Int) := by
  have hb := (isSg_iff c).1 h
  unfold enc
  rw [if_neg (by omega), if_neg (by omega), if_neg hc]
  refine ⟨rfl, ?_⟩
  simp only [List.map_cons, List.map_nil]
  rw [u_int (by omega), u_int (by omega), u_int (by omega), u_int (by omega)]
  simp

end Go.Proofs.YtlklmoohoobjjaaGreatDoor

namespace Go.Proofs.YtlklmoohoobjjaaGreatDoor
open Go.RowKit Go.Lib Sg

/-- Block B's first n cells are bytes, the j-th f j, and may be written. -/
def RowB (w : World) (B n : Nat) (f : Nat → Nat) : Prop := ∀ j, j < n → w.cell? ⟨B, j, none⟩ = some (.int .u8 (f j : Int)) ∧ w.frozen? ⟨B, j, none⟩ = false

theorem RowB.new (w : World) (s : ByteArray) (cap e : Nat) :
    RowB (w.alloc (.cells (bytesRow s cap) e ((bytesRow s cap).size, (bytesRow s cap).size + 1))) w.heap.size s.size (nb s.data.toList) := by
  intro j hj
  have hj' : j < s.data.size := hj
  have hsz : s.size ≤ (bytesRow s cap).size := by unfold bytesRow; simp
  constructor
  · rw [World.cell?_alloc_mark, bytesRow_at s cap j hj']
    simp [nb, List.getD_eq_getElem?_getD, Array.getElem?_eq_getElem hj']
  · rw [World.frozen?_alloc_mark]
    simp; omega
theorem RowB.drew {w : World} {B n : Nat} {f : Nat → Nat} (h : RowB w B n f) : RowB w.drew B n f := h
theorem RowB.set {w : World} {B n : Nat} {f g : Nat → Nat} (h : RowB w B n f) {k : Nat} (hk : k < n) {v : Int} (hv : v = (g k : Int)) (hg : ∀ j, j < n → j ≠ k → g j = f j) : RowB (w.setCell ⟨B, k, none⟩ (.int .u8 v)) B n g := by
  intro j hj
  rw [World.frozen?_setCell]
  refine ⟨?_, (h j hj).2⟩
  by_cases e : j = k
  · subst e
    rw [World.cell?_setCell_same _ _ _ (h j hj).1, hv]
  · rw [World.cell?_setCell_other _ _ _ _ (fun e2 => e (by cases e2; rfl)), (h j hj).1, hg j hj e]
theorem RowB.same {w : World} {B n : Nat} {f g : Nat → Nat} (h : RowB w B n f) (hg : ∀ j, j < n → g j = f j) : RowB w B n g := by
  intro j hj
  rw [hg j hj]
  exact h j hj
theorem RowB.conv {P : Program} {w : World} {B n : Nat} {f : Nat → Nat} (h : RowB w B n f) (src dst e : TypeId) (hs : P.underlying src = some (.slice e)) (he : P.underlying e = some (.int .u8)) (hd : P.underlying dst = some .string)
    (l : List UInt8) (cap : Nat) (hn : l.length = n) (hl : ∀ j, j < n → f j = nb l j) :
    (convert src dst (.slice (some ⟨B, 0, none⟩) n cap)).run P w = .ok (.string ⟨l.toArray⟩) w := by
  subst hn
  refine run_convert_bytes_back w src dst e _ cap l hs he hd fun j hj => ?_
  have h0 : (⟨B, 0, none⟩ : Addr).add j = ⟨B, j, none⟩ := by
    unfold Addr.add; split <;> simp_all
  rw [h0, (h j hj).1, hl j hj]
  simp [nb, List.getD_eq_getElem?_getD, List.getElem?_eq_getElem hj]


end Go.Proofs.YtlklmoohoobjjaaGreatDoor

namespace Go.Proofs.YtlklmoohoobjjaaGreatDoor
open Go.RowKit Go.Lib Sg

def lowN (b : Nat) : Nat := if 65 ≤ b ∧ b ≤ 90 then b + 32 else b
def low (a : UInt8) : UInt8 := u (lowN a.toNat)
theorem lowN_lt {b : Nat} (h : b < 256) : lowN b < 256 := by unfold lowN; split <;> omega
theorem low_nat (a : UInt8) : (low a).toNat = lowN a.toNat := u_nat (lowN_lt (UInt8.toNat_lt a))
def foldL (l : List UInt8) : List UInt8 := l.map low
theorem foldL_len (l : List UInt8) : (foldL l).length = l.length := by simp [foldL]
theorem nb_foldL (l : List UInt8) (j : Nat) (h : j < l.length) : nb (foldL l) j = lowN (nb l j) := by
  unfold nb foldL
  simp [List.getD_eq_getElem?_getD, List.getElem?_eq_getElem h, low_nat]
def fs (l : List UInt8) (k j : Nat) : Nat := if j < k then lowN (nb l j) else nb l j

theorem fold_step {wr : World} {B n k x : Nat} {l : List UInt8} (h : RowB wr B n (fs l k)) (hk : k < n) (hX : nb l k = x) {v : Int} (hv : v = (lowN x : Int)) :
    RowB (wr.setCell ⟨B, k, none⟩ (.int .u8 v)) B n (fs l (k + 1)) := by
  refine h.set hk (by rw [hv]; unfold fs; rw [if_pos (by omega), hX]) fun j _ hne => ?_
  unfold fs
  by_cases hj : j < k
  · rw [if_pos (by omega), if_pos hj]
  · rw [if_neg (by omega), if_neg hj]
theorem fold_skip {wr : World} {B n k x : Nat} {l : List UInt8} (h : RowB wr B n (fs l k)) (hX : nb l k = x) (hv : lowN x = x) : RowB wr B n (fs l (k + 1)) := by
  refine h.same fun j _ => ?_
  unfold fs
  by_cases hj : j < k
  · rw [if_pos (by omega), if_pos hj]
  · by_cases e : j = k
    · subst e; rw [if_pos (by omega), if_neg hj, hX, hv]
    · rw [if_neg (by omega), if_neg hj]

set_option maxHeartbeats 400000 in
set_option maxRecDepth 100000 in
set_option maxHeartbeats 1000000 in
theorem fold_any (s : ByteArray) (w : World) (hs : s.size ≤ 9223372036854775807) :
    Calls Tryz.prog 89 #[.string s] w fun e w' => e = .returned (.string ⟨(foldL s.data.toList).toArray⟩) ∧ Below w.heap.size w w' := by
  have hl : s.data.toList.length = s.size := by simp
  have hcv := run_bytes_of_string (P := Tryz.prog) w 9 82 5 s Tryz.underlying9 Tryz.underlying82 Tryz.underlying5
  generalize grownCap w s.size 0 5 = cap at hcv
  have hrow0 := RowB.new w.drew s cap 5
  generalize hC : bytesRow s cap = C at hcv hrow0
  clear hC
  have H0 : Hid (RowB (w.drew.alloc (.cells C 5 (C.size, C.size + 1))) w.heap.size s.size (nb s.data.toList)) := hrow0
  have HL := Lib.hid hl
  clear hrow0 hl
  go_enter Tryz.func89, Tryz.ntmps89
  go_wp2
  go_loopw [10] (fun i wr => ∃ k : Nat, k ≤ s.size ∧ i = .int .i64 k ∧ RowB wr w.heap.size s.size (fs s.data.toList k) ∧ Below w.heap.size w wr) (fun i _ => s.size - (RowKit.intOf i).toNat)
  case atStart =>
    exact ⟨0, Nat.zero_le _, rfl, H0.out.same (fun j _ => by simp [fs]), ((Below.refl _ _).drew).alloc (Nat.le_refl _) _⟩
  case round =>
    obtain ⟨k, hk, rfl, hrow, hbel⟩ := hrel
    have HB := Lib.hid hbel
    clear hbel
    by_cases hlt : k < s.size
    · have hc := (hrow k hlt).1
      have hz := (hrow k hlt).2
      have hv : fs s.data.toList k k = nb s.data.toList k := by simp [fs]
      have hx := nb_lt s.data.toList k
      rw [hv] at hc
      generalize hX : nb s.data.toList k = x at hc hx hv
      have HX := Lib.hid hX
      have HR := Lib.hid hrow
      clear hX hrow hv
      by_cases hup : 65 ≤ x ∧ x ≤ 90
      · obtain ⟨h1, h2⟩ := hup
        have hstep := fold_step HR.out hlt HX.out (v := (x : Int) - 65 + 97) (by unfold lowN; rw [if_pos ⟨h1, h2⟩]; omega)
        have HS := Lib.hid hstep
        clear hstep
        go_wp2
        refine ⟨⟨k + 1, by omega, by go_num, HS.out, HB.out.setCell (Nat.le_refl _) _⟩, by simp [RowKit.intOf]; omega⟩
      · have hstep := fold_skip HR.out HX.out (by unfold lowN; rw [if_neg hup])
        have HS := Lib.hid hstep
        clear hstep
        by_cases h1 : 65 ≤ x
        · have h2 : ¬ x ≤ 90 := fun e => hup ⟨h1, e⟩
          clear hup
          go_wp2
          refine ⟨⟨k + 1, by omega, by go_num, HS.out, HB.out⟩, by simp [RowKit.intOf]; omega⟩
        · clear hup
          go_wp2
          refine ⟨⟨k + 1, by omega, by go_num, HS.out, HB.out⟩, by simp [RowKit.intOf]; omega⟩
    · have hk' : k = s.size := by omega
      have hback := RowB.conv (P := Tryz.prog) hrow 82 9 5 Tryz.underlying82 Tryz.underlying5 Tryz.underlying9 (foldL s.data.toList) cap (by rw [foldL_len]; exact HL.out)
        (fun j hj => by rw [nb_foldL _ _ (by rw [HL.out]; exact hj)]; simp [fs, hk', hj])
      clear hrow hk'
      go_wp2
      go_ret
      exact ⟨rfl, HB.out⟩

end Go.Proofs.YtlklmoohoobjjaaGreatDoor

namespace Go.Proofs.YtlklmoohoobjjaaGreatDoor
open Go.RowKit Go.Lib Sg

def inner (b : Nat) : Bool := decide (128 ≤ b) && decide (b < 192)
theorem and_byte : ∀ x : Fin 256, (bits BinOp.and IntKind.u8 ((x.val : Nat) : Int) 192 == 128) = inner x.val := by decide +kernel
theorem clone_any (s : ByteArray) (w : World) (hs : s.size ≤ 281474976710656) :
    Calls Tryz.prog 48 #[.string s] w fun e w' => e = .returned (.string s) ∧ Below w.heap.size w w' := by
  have hc := Any.stringslite_Clone Tryz.laysM316 s w hs
  change Calls Tryz.prog 62 _ _ _ at hc
  have H := Lib.hid hc
  clear hc hs
  go_enter Tryz.func48, Tryz.ntmps48
  go_wp2_with fail
  refine H.out.mono ?_
  rintro r w' ⟨rfl, hb⟩
  go_wp2
  go_ret
  exact ⟨rfl, hb⟩

/-- From k downward the first place at which no sign is torn. -/
def back (l : List UInt8) : Nat → Nat
  | 0 => 0
  | k + 1 => if inner (nb l (k + 1)) then back l k else k + 1
theorem back_le (l : List UInt8) : ∀ k, back l k ≤ k
  | 0 => Nat.le_refl _
  | k + 1 => by
    unfold back; split
    · have := back_le l k; omega
    · exact Nat.le_refl _
/-- How long a text's front of at most n bytes is. -/
def hd (l : List UInt8) (n : Int) : Nat := if (l.length : Int) ≤ n then l.length else back l n.toNat
theorem hd_le (l : List UInt8) (n : Int) : hd l n ≤ l.length := by
  unfold hd; split
  · exact Nat.le_refl _
  · have := back_le l n.toNat; omega
theorem byte_nb (s : ByteArray) (k : Nat) (h : k < s.size) : (s[k]'h).toNat = nb s.data.toList k := by
  unfold nb
  have h' : k < s.data.size := h
  simp [List.getD_eq_getElem?_getD, Array.getElem?_eq_getElem h']
  rfl
theorem extract_zero (s : ByteArray) (k : Nat) : s.extract 0 k = ⟨(s.data.toList.take k).toArray⟩ := by
  apply ByteArray.ext
  apply Array.toList_inj.1
  rw [Lib.extract_data]
  simp

theorem front_dec {l : List UInt8} {c n : Nat} (h : front l = some (c, n)) : dec l = (c, n) ∧ c ≤ 1114111 ∧ 1 ≤ n ∧ n ≤ 4 ∧ (c = 65533 → 2 ≤ n) := by
  obtain ⟨hs, hn, r, hr⟩ := front_some h
  have hb := (isSg_iff c).1 hs
  have hl := enc_len_le c
  unfold front at h
  split at h
  · cases h
  · rename_i hno
    simp only [Option.some.injEq] at h
    rw [h] at hno
    refine ⟨h, by omega, by omega, by omega, fun e => ?_⟩
    simp only at hno
    omega
theorem front_dec_none {l : List UInt8} (h : front l = none) : ∃ n, dec l = (65533, n) ∧ n < 2 := by
  unfold front at h
  split at h
  · rename_i hy
    unfold dec at hy ⊢
    by_cases h0 : l.length = 0
    · rw [if_pos h0]; exact ⟨0, rfl, by omega⟩
    · rw [if_neg h0] at hy ⊢
      rcases hd : decodeN l.length (nb l 0) (nb l 1) (nb l 2) (nb l 3) with ⟨c, k⟩
      rw [hd] at hy
      have hs := decN_split _ _ _ _ _ _ _ (nb_lt l 1) (nb_lt l 2) (nb_lt l 3) hd
      simp only at hy
      have e1 : c = 65533 := by omega
      have e2 : k = 1 := by omega
      subst e1 e2
      exact ⟨1, rfl, by omega⟩
  · cases h



end Go.Proofs.YtlklmoohoobjjaaGreatDoor

namespace Go.Proofs.YtlklmoohoobjjaaGreatDoor
open Go.Lib Sg

theorem nb_append_right (a b : List UInt8) (k : Nat) (h : a.length ≤ k) : nb (a ++ b) k = nb b (k - a.length) := by
  unfold nb; rw [List.getD_eq_getElem?_getD, List.getElem?_append_right h, ← List.getD_eq_getElem?_getD]
theorem nb_append_left (a b : List UInt8) (k : Nat) (h : k < a.length) : nb (a ++ b) k = nb a k := by
  unfold nb; rw [List.getD_eq_getElem?_getD, List.getElem?_append_left h, ← List.getD_eq_getElem?_getD]
theorem nb_u0 (a : Nat) (r : List UInt8) (h : a < 256) : nb (u a :: r) 0 = a := by simp [nb, u_nat h]
theorem nb_u1 (x : UInt8) (a : Nat) (r : List UInt8) (h : a < 256) : nb (x :: u a :: r) 1 = a := by simp [nb, u_nat h]
theorem nb_u2 (x y : UInt8) (a : Nat) (r : List UInt8) (h : a < 256) : nb (x :: y :: u a :: r) 2 = a := by simp [nb, u_nat h]
theorem nb_u3 (x y z : UInt8) (a : Nat) (r : List UInt8) (h : a < 256) : nb (x :: y :: z :: u a :: r) 3 = a := by simp [nb, u_nat h]
theorem inner_iff (b : Nat) : inner b = true ↔ (128 ≤ b ∧ b < 192) := by simp [inner]
theorem inner_false (b : Nat) : inner b = false ↔ (b < 128 ∨ 192 ≤ b) := by simp [inner]; omega

/-- A sign's first byte is none of those behind it; all others are. -/
theorem enc_first {c : Nat} (h : isSg c = true) : inner (nb (enc c) 0) = false := by
  have h1 := (isSg_iff c).1 h
  rw [inner_false]
  unfold enc
  repeat' split
  all_goals (rw [nb_u0 _ _ (by omega)]; omega)
theorem enc_rest {c : Nat} (h : isSg c = true) (k : Nat) (h0 : 0 < k) (hk : k < (enc c).length) : inner (nb (enc c) k) = true := by
  have h1 := (isSg_iff c).1 h
  rw [inner_iff]
  rw [enc_len] at hk
  unfold enc
  split at hk
  · omega
  · rename_i a1
    rw [if_neg a1]
    split at hk
    · rename_i a2
      rw [if_pos a2]
      obtain rfl : k = 1 := by omega
      rw [nb_u1 _ _ _ (by omega)]; omega
    · rename_i a2
      rw [if_neg a2]
      split at hk
      · rename_i a3
        rw [if_pos a3]
        rcases (show k = 1 ∨ k = 2 by omega) with rfl | rfl
        · rw [nb_u1 _ _ _ (by omega)]; omega
        · rw [nb_u2 _ _ _ _ (by omega)]; omega
      · rename_i a3
        rw [if_neg a3]
        rcases (show k = 1 ∨ k = 2 ∨ k = 3 by omega) with rfl | rfl | rfl
        · rw [nb_u1 _ _ _ (by omega)]; omega
        · rw [nb_u2 _ _ _ _ (by omega)]; omega
        · rw [nb_u3 _ _ _ _ _ (by omega)]; omega
theorem enc_small {c : Nat} (h : c < 128) : enc c = [u c] := by unfold enc; rw [if_pos h]
theorem enc_big {c : Nat} (hs : isSg c = true) (h : ¬ c < 128) : 192 ≤ nb (enc c) 0 ∧ 2 ≤ (enc c).length := by
  have h1 := (isSg_iff c).1 hs
  constructor
  · unfold enc
    rw [if_neg h]
    repeat' split
    all_goals (rw [nb_u0 _ _ (by omega)]; omega)
  · rw [enc_len, if_neg h]; repeat' split
    all_goals omega

/-- A place that no sign spans parts a text into texts. -/
theorem cut_text : ∀ (cs : List Nat) (k : Nat), (∀ c ∈ cs, ok c = true) → k ≤ (cat cs).length → (k = 0 ∨ k = (cat cs).length ∨ inner (nb (cat cs) k) = false) →
    ∃ a b, cs = a ++ b ∧ (cat cs).take k = cat a ∧ (cat cs).drop k = cat b
  | [], k, _, hk, _ => ⟨[], [], rfl, by simp [cat], by simp [cat]⟩
  | c :: cs, k, hok, hk, hb => by
    have hc := ok_sg (hok c (List.mem_cons_self ..))
    rcases Nat.eq_zero_or_pos k with h0 | h0
    · subst h0; exact ⟨[], c :: cs, rfl, by simp [cat], by simp⟩
    · rw [cat_cons] at hk hb ⊢
      rw [List.length_append] at hk hb
      have hge : (enc c).length ≤ k := by
        rcases Nat.lt_or_ge k (enc c).length with hlt | hge
        · rcases hb with hb | hb | hb
          · omega
          · omega
          · rw [nb_append_left _ _ _ hlt, enc_rest hc k h0 hlt] at hb; cases hb
        · exact hge
      obtain ⟨a, b, e, e1, e2⟩ := cut_text cs (k - (enc c).length) (fun d hd => hok d (List.mem_cons_of_mem _ hd)) (by omega) (by
        rcases hb with hb | hb | hb
        · omega
        · right; left; omega
        · right; right; rwa [nb_append_right _ _ _ hge] at hb)
      refine ⟨c :: a, b, by rw [e]; rfl, ?_, ?_⟩
      · rw [List.take_append, List.take_of_length_le hge, e1, cat_cons]
      · rw [List.drop_append, List.drop_of_length_le hge, e2, List.nil_append]
theorem back_spec (l : List UInt8) : ∀ k, back l k = 0 ∨ inner (nb l (back l k)) = false
  | 0 => .inl rfl
  | k + 1 => by
    unfold back
    split
    · exact back_spec l k
    · rename_i h; right; simpa using h
theorem back_ge (l : List UInt8) (j : Nat) (hj : inner (nb l j) = false) : ∀ k, j ≤ k → j ≤ back l k
  | 0, h => by omega
  | k + 1, h => by
    unfold back
    split
    · rename_i hi
      rcases Nat.lt_or_ge k j with hlt | hge
      · obtain rfl : j = k + 1 := by omega
        rw [hj] at hi; cases hi
      · exact back_ge l j hj k hge
    · exact h
/-- Some sign's first byte stands at most three bytes ahead. -/
theorem near : ∀ (cs : List Nat) (k : Nat), (∀ c ∈ cs, ok c = true) → k < (cat cs).length → ∃ j, j ≤ k ∧ k ≤ j + 3 ∧ inner (nb (cat cs) j) = false
  | [], k, _, hk => by simp [cat] at hk
  | c :: cs, k, hok, hk => by
    have hc := ok_sg (hok c (List.mem_cons_self ..))
    have h4 := (enc_len_le c)
    rw [cat_cons] at hk ⊢
    rw [List.length_append] at hk
    rcases Nat.lt_or_ge k (enc c).length with hlt | hge
    · exact ⟨0, by omega, by omega, by rw [nb_append_left _ _ _ (by omega)]; exact enc_first hc⟩
    · obtain ⟨j, h1, h2, h3⟩ := near cs (k - (enc c).length) (fun d hd => hok d (List.mem_cons_of_mem _ hd)) (by omega)
      refine ⟨j + (enc c).length, by omega, by omega, ?_⟩
      rw [nb_append_right _ _ _ (by omega), Nat.add_sub_cancel]
      exact h3
/-- What the law asks of a text's front. -/
theorem hd_text {l : List UInt8} {cs : List Nat} (h : IsT l cs) (n : Int) :
    (∃ a b, cs = a ++ b ∧ l.take (hd l n) = cat a ∧ l.drop (hd l n) = cat b) ∧ (hd l n : Int) ≤ max n 0 ∧ (hd l n = l.length ∨ (n < 0 ∧ hd l n = 0) ∨ n - hd l n < 4) := by
  obtain ⟨hok, rfl⟩ := h
  have hle := hd_le (cat cs) n
  by_cases hbig : ((cat cs).length : Int) ≤ n
  · have e : hd (cat cs) n = (cat cs).length := by unfold hd; rw [if_pos hbig]
    exact ⟨cut_text cs _ hok hle (.inr (.inl e)), by omega, .inl e⟩
  · have e : hd (cat cs) n = back (cat cs) n.toNat := by unfold hd; rw [if_neg hbig]
    have hb := back_le (cat cs) n.toNat
    rw [e] at hle ⊢
    refine ⟨cut_text cs _ hok hle ((back_spec (cat cs) n.toNat).elim .inl fun x => .inr (.inr x)), by omega, ?_⟩
    by_cases hn : n < 0
    · right; left; exact ⟨hn, by omega⟩
    · obtain ⟨j, h1, h2, h3⟩ := near cs n.toNat hok (by omega)
      have := back_ge (cat cs) j h3 n.toNat h1
      right; right; omega
theorem IsT_left {cs a b : List Nat} {l m : List UInt8} (h : IsT l cs) (e : cs = a ++ b) (hm : m = cat a) : IsT m a :=
  ⟨fun c hc => h.1 c (by rw [e]; exact List.mem_append_left _ hc), hm⟩
theorem IsT_right {cs a b : List Nat} {l m : List UInt8} (h : IsT l cs) (e : cs = a ++ b) (hm : m = cat b) : IsT m b :=
  ⟨fun c hc => h.1 c (by rw [e]; exact List.mem_append_right _ hc), hm⟩

/-! ### Folded -/
def lowC (c : Nat) : Nat := if 65 ≤ c ∧ c ≤ 90 then c + 32 else c
theorem lowN_high {b : Nat} (h : 128 ≤ b) : lowN b = b := by unfold lowN; rw [if_neg (by omega)]
theorem low_high {a : UInt8} (h : 128 ≤ a.toNat) : low a = a := UInt8.toNat_inj.1 (by rw [low_nat, lowN_high h])
theorem fold_enc {c : Nat} (h : ok c = true) : foldL (enc c) = enc (lowC c) ∧ ok (lowC c) = true := by
  have hs := (isSg_iff c).1 (ok_sg h)
  have hp := (plain_iff c).1 (ok_plain h)
  by_cases hc : c < 128
  · have hl : lowC c < 128 := by unfold lowC; split <;> omega
    rw [enc_small hc, enc_small hl]
    constructor
    · show [low (u c)] = _
      congr 1
      apply UInt8.toNat_inj.1
      rw [low_nat, u_nat (by omega), u_nat (by omega)]
      rfl
    · refine ok_mk ((isSg_iff _).2 (by omega)) ((plain_iff _).2 ?_)
      unfold lowC; split <;> omega
  · have e : lowC c = c := by unfold lowC; rw [if_neg (by omega)]
    rw [e]
    refine ⟨?_, h⟩
    unfold foldL
    conv => rhs; rw [← List.map_id (enc c)]
    apply List.map_congr_left
    intro a ha
    apply low_high
    obtain ⟨i, hi, rfl⟩ := List.getElem_of_mem ha
    have hn : nb (enc c) i = (enc c)[i].toNat := by unfold nb; rw [List.getD_eq_getElem?_getD, List.getElem?_eq_getElem hi]; rfl
    rw [← hn]
    rcases Nat.eq_zero_or_pos i with h0 | h0
    · subst h0; have := (enc_big (ok_sg h) hc).1; omega
    · have := (inner_iff _).1 (enc_rest (ok_sg h) i h0 hi); omega
theorem fold_text {l : List UInt8} {cs : List Nat} (h : IsT l cs) : IsT (foldL l) (cs.map lowC) := by
  obtain ⟨hok, rfl⟩ := h
  induction cs with
  | nil => exact IsT.nil
  | cons c cs ih =>
    have h1 := fold_enc (hok c (List.mem_cons_self ..))
    have h2 := ih (fun d hd => hok d (List.mem_cons_of_mem _ hd))
    have e : foldL (cat (c :: cs)) = enc (lowC c) ++ foldL (cat cs) := by
      rw [cat_cons]; unfold foldL; rw [List.map_append]; congr 1; exact h1.1
    rw [e]
    exact (IsT.one h1.2).append h2

/-! ### Blanks at both ends -/
def bl (a : UInt8) : Bool := ([32, 9, 10, 13] : List UInt8).contains a
theorem bl_iff (a : UInt8) : bl a = true ↔ (a.toNat = 32 ∨ a.toNat = 9 ∨ a.toNat = 10 ∨ a.toNat = 13) := by
  simp only [bl, List.contains_cons, List.contains_nil, Bool.or_false, Bool.or_eq_true, beq_iff_eq, ← UInt8.toNat_inj]
  rfl
def trim (l : List UInt8) : List UInt8 := Lib.trimS l [32, 9, 10, 13]
theorem trim_eq (l : List UInt8) : trim l = ((l.reverse.dropWhile bl).reverse).dropWhile bl := rfl
theorem bl_enc {c : Nat} (h : isSg c = true) : (∃ r, enc c = u c :: r ∧ r = [] ∧ c < 128) ∨ ((∀ a ∈ enc c, bl a = false) ∧ 128 ≤ c) := by
  by_cases hc : c < 128
  · exact .inl ⟨[], enc_small hc, rfl, hc⟩
  · refine .inr ⟨fun a ha => ?_, by omega⟩
    obtain ⟨i, hi, rfl⟩ := List.getElem_of_mem ha
    have hn : nb (enc c) i = (enc c)[i].toNat := by unfold nb; rw [List.getD_eq_getElem?_getD, List.getElem?_eq_getElem hi]; rfl
    have hge : 128 ≤ (enc c)[i].toNat := by
      rw [← hn]
      rcases Nat.eq_zero_or_pos i with h0 | h0
      · subst h0; have := (enc_big h hc).1; omega
      · have := (inner_iff _).1 (enc_rest h i h0 hi); omega
    rw [Bool.eq_false_iff, ne_eq, bl_iff]
    omega
theorem dropWhile_stop {p : UInt8 → Bool} : ∀ {l : List UInt8}, l ≠ [] → (∀ a ∈ l.head?, p a = false) → ∀ r, (l ++ r).dropWhile p = l ++ r
  | [], h, _, _ => absurd rfl h
  | a :: l, _, h, r => by rw [List.cons_append, List.dropWhile_cons_of_neg (by have := h a rfl; simp [this])]
/-- Blanks taken off a text's front leave a text; off its end, too. -/
theorem left_text : ∀ (cs : List Nat), (∀ c ∈ cs, ok c = true) → ∃ b, IsT ((cat cs).dropWhile bl) b
  | [], _ => ⟨[], IsT.nil⟩
  | c :: cs, hok => by
    have hc := hok c (List.mem_cons_self ..)
    rw [cat_cons]
    rcases bl_enc (ok_sg hc) with ⟨r, e, rfl, _⟩ | ⟨hn, _⟩
    · by_cases hb : bl (u c) = true
      · rw [e, List.cons_append, List.dropWhile_cons_of_pos hb, List.nil_append]
        exact left_text cs (fun d hd => hok d (List.mem_cons_of_mem _ hd))
      · rw [e, List.cons_append, List.dropWhile_cons_of_neg hb, ← List.cons_append, ← e, ← cat_cons]
        exact ⟨c :: cs, hok, rfl⟩
    · rw [dropWhile_stop (enc_ne c) (fun a ha => hn a (List.mem_of_mem_head? ha)), ← cat_cons]
      exact ⟨c :: cs, hok, rfl⟩
theorem right_text (cs : List Nat) (hok : ∀ c ∈ cs, ok c = true) : ∃ b, IsT ((cat cs).reverse.dropWhile bl).reverse b := by
  induction hn : cs.length generalizing cs with
  | zero => rw [List.eq_nil_of_length_eq_zero hn]; exact ⟨[], IsT.nil⟩
  | succ n ih =>
    rcases List.eq_nil_or_concat cs with rfl | ⟨ds, c, rfl⟩
    · cases hn
    · rw [List.concat_eq_append] at hn hok ⊢
      have hc := hok c (by simp)
      have e1 : cat (ds ++ [c]) = cat ds ++ enc c := by rw [cat_append]; simp [cat]
      rw [e1, List.reverse_append]
      rcases bl_enc (ok_sg hc) with ⟨r, e, rfl, _⟩ | ⟨hno, _⟩
      · by_cases hb : bl (u c) = true
        · rw [e, List.reverse_singleton, List.singleton_append, List.dropWhile_cons_of_pos hb]
          exact ih ds (fun d hd => hok d (List.mem_append_left _ hd)) (by simp at hn; omega)
        · rw [e, List.reverse_singleton, List.singleton_append, List.dropWhile_cons_of_neg hb, List.reverse_cons, List.reverse_reverse, ← e, ← e1]
          exact ⟨ds ++ [c], hok, rfl⟩
      · rw [dropWhile_stop (by simp [enc_ne c]) (fun a ha => hno a (by have := List.mem_of_mem_head? ha; simpa using this)), ← List.reverse_append, List.reverse_reverse, ← e1]
        exact ⟨ds ++ [c], hok, rfl⟩
theorem trim_text {l : List UInt8} {cs : List Nat} (h : IsT l cs) : ∃ b, IsT (trim l) b := by
  obtain ⟨hok, rfl⟩ := h
  obtain ⟨b, hb⟩ := right_text cs hok
  rw [trim_eq, hb.2]
  exact left_text b hb.1
theorem dropWhile_twice {p : UInt8 → Bool} : ∀ l : List UInt8, (l.dropWhile p).dropWhile p = l.dropWhile p
  | [] => rfl
  | a :: l => by
    by_cases h : p a = true
    · rw [List.dropWhile_cons_of_pos h]; exact dropWhile_twice l
    · rw [List.dropWhile_cons_of_neg h, List.dropWhile_cons_of_neg h]
theorem dropWhile_all {p : UInt8 → Bool} : ∀ {l : List UInt8}, (∀ a ∈ l, p a = true) → l.dropWhile p = []
  | [], _ => rfl
  | a :: l, h => by rw [List.dropWhile_cons_of_pos (h a (List.mem_cons_self ..))]; exact dropWhile_all fun b hb => h b (List.mem_cons_of_mem _ hb)
theorem dropWhile_split {p : UInt8 → Bool} : ∀ (l : List UInt8), ∃ t, l = t ++ l.dropWhile p ∧ ∀ a ∈ t, p a = true
  | [] => ⟨[], rfl, fun _ h => by cases h⟩
  | a :: l => by
    by_cases h : p a = true
    · obtain ⟨t, e, ht⟩ := dropWhile_split (p := p) l
      rw [List.dropWhile_cons_of_pos h]
      exact ⟨a :: t, by rw [List.cons_append, ← e], fun b hb => (List.mem_cons.1 hb).elim (fun e => by rw [e]; exact h) (ht b)⟩
    · rw [List.dropWhile_cons_of_neg h]
      exact ⟨[], rfl, fun _ h => by cases h⟩
theorem dropWhile_head {p : UInt8 → Bool} : ∀ (l : List UInt8), ∀ a ∈ (l.dropWhile p).head?, p a = false
  | [], a, h => by simp at h
  | b :: l, a, h => by
    by_cases hb : p b = true
    · rw [List.dropWhile_cons_of_pos hb] at h; exact dropWhile_head l a h
    · rw [List.dropWhile_cons_of_neg hb] at h
      simp at h; subst h; simpa using hb
/-- A list whose ends are no blanks is left as it is. -/
theorem trim_fix {l : List UInt8} (h1 : ∀ a ∈ l.head?, bl a = false) (h2 : ∀ a ∈ l.getLast?, bl a = false) : trim l = l := by
  by_cases h : l = []
  · subst h; rfl
  · have e1 := dropWhile_stop (p := bl) (l := l.reverse) (by simpa using h) (fun a ha => h2 a (by rw [List.head?_reverse] at ha; exact ha)) []
    rw [List.append_nil] at e1
    have e2 := dropWhile_stop (p := bl) h h1 []
    rw [List.append_nil] at e2
    rw [trim_eq, e1, List.reverse_reverse, e2]
/-- Blanks around a list have no part. -/
theorem trim_around (a b l : List UInt8) (ha : ∀ x ∈ a, bl x = true) (hb : ∀ x ∈ b, bl x = true) : trim (a ++ l ++ b) = trim l := by
  rw [trim_eq, trim_eq]
  have e1 : (a ++ l ++ b).reverse.dropWhile bl = ((a ++ l).reverse).dropWhile bl := by
    rw [List.reverse_append, List.dropWhile_append, dropWhile_all (fun x hx => hb x (by simpa using hx))]
    rfl
  rw [e1, List.reverse_append, List.dropWhile_append]
  by_cases h : (l.reverse.dropWhile bl).isEmpty
  · rw [if_pos h]
    have h' : l.reverse.dropWhile bl = [] := by simpa using h
    rw [h', dropWhile_all (l := a.reverse) (fun x hx => ha x (by simpa using hx))]
  · rw [if_neg h, List.reverse_append, List.reverse_reverse, List.dropWhile_append, dropWhile_all ha]
    rfl
theorem trim_ends (l : List UInt8) : (∀ a ∈ (trim l).head?, bl a = false) ∧ (∀ a ∈ (trim l).getLast?, bl a = false) := by
  rw [trim_eq]
  refine ⟨dropWhile_head _, ?_⟩
  intro a ha
  obtain ⟨t, e, _⟩ := dropWhile_split (p := bl) ((l.reverse.dropWhile bl).reverse)
  have h1 := dropWhile_head (p := bl) l.reverse
  apply h1 a
  rw [← List.getLast?_reverse, e, List.getLast?_append]
  rw [Option.mem_def] at ha
  rw [ha]
  rfl
theorem trim_trim (l : List UInt8) : trim (trim l) = trim l := trim_fix (trim_ends l).1 (trim_ends l).2


end Go.Proofs.YtlklmoohoobjjaaGreatDoor

namespace Go.Proofs.YtlklmoohoobjjaaGreatDoor
open Go.RowKit Go.Lib Sg

theorem isPlain_any (c : Nat) (w : World) (hc : c ≤ 1114111) :
    Calls Tryz.prog 121 #[.int .i32 c] w fun e w' => e = .returned (.bool (plain c)) ∧ w = w' := by
  by_cases h9 : c = 9
  · subst h9
    go_enter Tryz.func121, Tryz.ntmps121
    go_wp2
    go_ret
    exact ⟨rfl, rfl⟩
  have b9 : ((c : Int) == 9) = false := by rw [beq_eq_false_iff_ne]; omega
  by_cases h10 : c = 10
  · subst h10
    go_enter Tryz.func121, Tryz.ntmps121
    go_wp2
    go_ret
    exact ⟨rfl, rfl⟩
  have b10 : ((c : Int) == 10) = false := by rw [beq_eq_false_iff_ne]; omega
  by_cases h13 : c = 13
  · subst h13
    go_enter Tryz.func121, Tryz.ntmps121
    go_wp2
    go_ret
    exact ⟨rfl, rfl⟩
  have b13 : ((c : Int) == 13) = false := by rw [beq_eq_false_iff_ne]; omega
  by_cases h65534 : c = 65534
  · subst h65534
    go_enter Tryz.func121, Tryz.ntmps121
    go_wp2
    go_ret
    exact ⟨rfl, rfl⟩
  have b65534 : ((c : Int) == 65534) = false := by rw [beq_eq_false_iff_ne]; omega
  by_cases h65535 : c = 65535
  · subst h65535
    go_enter Tryz.func121, Tryz.ntmps121
    go_wp2
    go_ret
    exact ⟨rfl, rfl⟩
  have b65535 : ((c : Int) == 65535) = false := by rw [beq_eq_false_iff_ne]; omega
  by_cases h32 : 32 ≤ c
  · have E : Hid (plain c = true) := by show _ = _; rw [plain_iff]; omega
    have d32 : decide (32 ≤ (c : Int)) = true := by simp; omega
    have hi : (c : Int) ≤ 1114111 := by omega
    clear h9 h10 h13 h65534 h65535 h32 hc
    go_enter Tryz.func121, Tryz.ntmps121
    go_wp2
    go_ret
    exact ⟨by rw [E.out]; rfl, rfl⟩
  · have E : Hid (plain c = false) := by show _ = _; rw [Bool.eq_false_iff, ne_eq, plain_iff]; omega
    have d32 : decide (32 ≤ (c : Int)) = false := by simp; omega
    have hi : (c : Int) ≤ 1114111 := by omega
    clear h9 h10 h13 h65534 h65535 h32 hc
    go_enter Tryz.func121, Tryz.ntmps121
    go_wp2
    go_ret
    exact ⟨by rw [E.out]; rfl, rfl⟩
theorem prefix_c (s : ByteArray) (w : World) (b : Bool) (h : ([239, 191, 189] : List UInt8).isPrefixOf s.data.toList = b) :
    Calls Tryz.prog 126 #[.string s, .string ⟨#[239, 191, 189]⟩] w fun e w' => e = .returned (.bool b) ∧ w' = w := by
  subst h
  exact Any.strings_HasPrefix Tryz.lays99 s ⟨#[239, 191, 189]⟩ w
theorem isTorn_any (s : ByteArray) (c : Nat) (w : World) (b : Bool) (h : ([239, 191, 189] : List UInt8).isPrefixOf s.data.toList = b) :
    Calls Tryz.prog 122 #[.string s, .int .i32 c] w fun e w' => e = .returned (.bool ((c == 65533) && !b)) ∧ w = w' := by
  have hp := prefix_c s w b h
  have H := Lib.hid hp
  clear hp h
  by_cases e : c = 65533
  · have b1 : ((c : Int) == 65533) = true := by rw [e]; rfl
    have E : Hid (((c == 65533) && !b) = !b) := by show _ = _; rw [e]; rfl
    clear e
    go_enter Tryz.func122, Tryz.ntmps122
    go_wp2_with fail
    refine H.out.mono ?_
    rintro r w' ⟨rfl, rfl⟩
    go_wp2
    go_ret
    exact ⟨by rw [E.out]; rfl, rfl⟩
  · have b1 : ((c : Int) == 65533) = false := by rw [beq_eq_false_iff_ne]; omega
    have E : Hid (((c == 65533) && !b) = false) := by show _ = _; simp [e]
    clear e
    go_enter Tryz.func122, Tryz.ntmps122
    go_wp2
    go_ret
    exact ⟨by rw [E.out]; rfl, rfl⟩
theorem dropWhile_len (p : UInt8 → Bool) (l : List UInt8) : (l.dropWhile p).length ≤ l.length := (List.dropWhile_sublist p).length_le
theorem trimS_len (l cs : List UInt8) : (Lib.trimS l cs).length ≤ l.length := by
  unfold Lib.trimS Lib.trimLeftS Lib.trimRightS
  refine Nat.le_trans (dropWhile_len _ _) ?_
  rw [List.length_reverse]
  refine Nat.le_trans (dropWhile_len _ _) ?_
  rw [List.length_reverse]
  exact Nat.le_refl _
theorem trim_any (s : ByteArray) (w : World) (hs : s.size ≤ 1048576) :
    Calls Tryz.prog 55 #[.string s] w fun e w' => e = .returned (.string ⟨(Lib.trimS s.data.toList [32, 9, 10, 13]).toArray⟩) ∧ Below w.heap.size w w' := by
  have hcon := Any.strings_Trim_laid Tryz.lays160 (by kernel_rfl) s ⟨#[32, 9, 10, 13]⟩ w (by omega) (by decide) (ascii_of_all (by decide))
  change Calls Tryz.prog 68 _ _ (fun e w' => e = .returned (.string ⟨(Lib.trimS s.data.toList [32, 9, 10, 13]).toArray⟩) ∧ Below w.heap.size w w') at hcon
  have hle : (⟨(Lib.trimS s.data.toList [32, 9, 10, 13]).toArray⟩ : ByteArray).size ≤ 281474976710656 := by
    have := trimS_len s.data.toList [32, 9, 10, 13]
    have h2 : s.data.toList.length = s.size := by simp
    show (Lib.trimS s.data.toList [32, 9, 10, 13]).toArray.size ≤ _
    rw [List.size_toArray]
    omega
  generalize (⟨(Lib.trimS s.data.toList [32, 9, 10, 13]).toArray⟩ : ByteArray) = r at hcon hle ⊢
  have H := Lib.hid hcon
  have HE := Lib.hid hle
  clear hcon hle
  go_enter Tryz.func55, Tryz.ntmps55
  go_wp2_with fail
  refine H.out.mono ?_
  rintro e w1 ⟨rfl, hb1⟩
  go_wp2_with fail
  refine (clone_any _ _ HE.out).mono ?_
  rintro e w2 ⟨rfl, hb2⟩
  go_wp2
  go_ret
  exact ⟨rfl, hb1.trans (hb2.mono hb1.size)⟩

/-- What Len and Check find of a text. -/
def LenP (l : List UInt8) (w : World) (e : Ending) (w' : World) : Prop :=
  ((∃ cs, IsT l cs ∧ e = .returned (.tuple #[.int .i64 (cs.length : Nat), .int .i64 0])) ∨ ((∀ cs, ¬ IsT l cs) ∧ e = .returned (.tuple #[.int .i64 0, .int .i64 10]))) ∧ Below w.heap.size w w'
theorem LenP.no {l : List UInt8} {w w' : World} {e : Ending} (h : ∀ cs, ¬ IsT l cs) (he : e = .returned (.tuple #[.int .i64 0, .int .i64 10])) (hb : Below w.heap.size w w') : LenP l w e w' := ⟨.inr ⟨h, he⟩, hb⟩
theorem LenP.yes {l : List UInt8} {w w' : World} {e : Ending} {cs : List Nat} {n : Int} (h : IsT l cs) (hn : n = (cs.length : Nat)) (he : e = .returned (.tuple #[.int .i64 n, .int .i64 0])) (hb : Below w.heap.size w w') : LenP l w e w' :=
  ⟨.inl ⟨cs, h, by rw [he, hn]⟩, hb⟩
theorem extract_drop (s : ByteArray) (k : Nat) : (s.extract k s.size).data.toList = s.data.toList.drop k := by
  rw [Lib.extract_data, List.take_of_length_le (by rw [List.length_drop, ← Lib.size_eq]; exact Nat.le_refl _)]
theorem next_at {P : Program} (w : World) (s : ByteArray) (pos c n : Nat) (h : pos < s.size) (hd : Utf8.decode s pos = (c, n)) (ty : TypeId) :
    (Instr.next (.pointer (some ⟨w.heap.size, 0, none⟩)) true ty).run P (w.iter s pos) = .ok (.tuple #[.bool true, .int .i64 pos, .int .i32 c]) (w.iter s (pos + n)) := by
  have := run_next_any (P := P) w s pos ty h
  rw [hd] at this
  exact this

set_option maxHeartbeats 1000000 in
theorem len_any (s : ByteArray) (w : World) (hs : s.size ≤ 1048576) :
    Calls Tryz.prog 114 #[.string s] w (LenP s.data.toList w) := by
  have hl : s.data.toList.length = s.size := by simp
  have HL := Lib.hid hl
  clear hl
  go_enter Tryz.func114, Tryz.ntmps114
  go_wp2_with fail
  go_loopw [4] (fun n wr => ∃ (pos : Nat) (done : List Nat), wr = w.iter s pos ∧ pos ≤ s.size ∧ n = .int .i64 (done.length : Nat) ∧ done.length ≤ pos ∧ Hid (∀ c ∈ done, ok c = true) ∧ Hid (s.data.toList = cat done ++ s.data.toList.drop pos))
    (fun _ wr => s.size - wr.iterPos w.heap.size)
  case atStart => exact ⟨0, [], rfl, Nat.zero_le _, rfl, Nat.le_refl _, (fun _ h => by cases h), rfl⟩
  case round =>
    obtain ⟨pos, done, rfl, hp, rfl, hdl, HD, HC⟩ := hrel
    by_cases hlt : pos < s.size
    · have hne : s.data.toList.drop pos ≠ [] := fun e => by
        have := congrArg List.length e
        rw [List.length_drop, HL.out] at this
        simp at this
        omega
      have hdd := decode_drop s pos hlt
      rcases hf : front (s.data.toList.drop pos) with _ | ⟨c, n⟩
      · obtain ⟨n, hd, hn⟩ := front_dec_none hf
        have hnx := fun ty => next_at (P := Tryz.prog) w s pos 65533 n hlt (hdd.trans hd) ty
        have hpre := front_none_65533 hf
        have HN := Lib.hid (not_text HD.out HC.out hne (.inl hf))
        have HX := Lib.hid ((congrArg (fun x => ([239, 191, 189] : List UInt8).isPrefixOf x) (extract_drop s pos)).trans hpre)
        clear hne hdd hf hd hpre
        go_wp2_with fail
        refine (isPlain_any 65533 _ (by omega)).mono ?_
        rintro r w' ⟨rfl, rfl⟩
        rw [show plain 65533 = true from rfl]
        go_wp2_with fail
        refine (isTorn_any _ 65533 _ false HX.out).mono ?_
        rintro r w' ⟨rfl, rfl⟩
        rw [show ((65533 : Nat) == 65533 && !false) = true from rfl]
        go_wp2_with fail
        go_ret2
        exact LenP.no HN.out rfl ((Below.refl _ _).alloc (Nat.le_refl _) _)
      · obtain ⟨hd, hc, h1, h4, h2⟩ := front_dec hf
        have hnx := fun ty => next_at (P := Tryz.prog) w s pos c n hlt (hdd.trans hd) ty
        rcases hpl : plain c with _ | _
        · have HN := Lib.hid (not_text HD.out HC.out hne (.inr ⟨c, n, hf, hpl⟩))
          have HP := Lib.hid hpl
          clear hne hdd hf hd hpl h2
          go_wp2_with fail
          refine (isPlain_any c _ hc).mono ?_
          rintro r w' ⟨rfl, rfl⟩
          rw [HP.out]
          go_wp2_with fail
          go_ret2
          exact LenP.no HN.out rfl ((Below.refl _ _).alloc (Nat.le_refl _) _)
        · obtain ⟨m1, m2, m3, m4⟩ := more_text HD.out HC.out hf hpl
          have HM1 := Lib.hid m1
          have HM2 := Lib.hid m2
          have hbp : ∃ b, ([239, 191, 189] : List UInt8).isPrefixOf (s.extract pos s.size).data.toList = b ∧ ((c == 65533) && !b) = false := by
            refine ⟨_, rfl, ?_⟩
            rw [extract_drop]
            by_cases e : c = 65533
            · subst e; rw [front_65533 hf]; rfl
            · simp [e]
          obtain ⟨b, hb1, hb2⟩ := hbp
          have HB1 := Lib.hid hb1
          have HB2 := Lib.hid hb2
          have HP := Lib.hid hpl
          have hpn : pos + n ≤ s.size := by rw [List.length_drop, HL.out] at m4; omega
          clear hne hdd hf hd hpl m1 m2 hb1 hb2 h2 m4
          go_wp2_with fail
          refine (isPlain_any c _ hc).mono ?_
          rintro r w' ⟨rfl, rfl⟩
          rw [HP.out]
          go_wp2_with fail
          refine (isTorn_any _ c _ b HB1.out).mono ?_
          rintro r w' ⟨rfl, rfl⟩
          rw [HB2.out]
          go_wp2_with fail
          refine ⟨⟨pos + n, done ++ [c], rfl, hpn, by simp, by simp; omega, HM1.out, ?_⟩, by simp; omega⟩
          have := HM2.out
          rw [List.drop_drop] at this
          exact this
    · have hpe : pos = s.size := by omega
      have hnx : ∀ ty, (Instr.next (.pointer (some ⟨w.heap.size, 0, none⟩)) true ty).run Tryz.prog (w.iter s pos) = _ := fun ty => run_next_end w s pos ty hlt
      have HT : Hid (IsT s.data.toList done) := by
        refine ⟨HD.out, ?_⟩
        have h := HC.out
        rw [List.drop_of_length_le (by rw [HL.out]; omega), List.append_nil] at h
        exact h
      clear hpe
      go_wp2_with fail
      go_ret2
      exact LenP.yes HT.out rfl rfl ((Below.refl _ _).alloc (Nat.le_refl _) _)
theorem len_yes (s : ByteArray) (w : World) (hs : s.size ≤ 1048576) {cs : List Nat} (h : IsT s.data.toList cs) :
    Calls Tryz.prog 114 #[.string s] w fun e w' => e = .returned (.tuple #[.int .i64 (cs.length : Nat), .int .i64 0]) ∧ Below w.heap.size w w' :=
  (len_any s w hs).mono fun e w' hp => by
    rcases hp with ⟨⟨ds, hd, he⟩ | ⟨hn, _⟩, hb⟩
    · rw [h.unique hd]; exact ⟨he, hb⟩
    · exact absurd h (hn cs)
theorem len_no (s : ByteArray) (w : World) (hs : s.size ≤ 1048576) (h : ∀ cs, ¬ IsT s.data.toList cs) :
    Calls Tryz.prog 114 #[.string s] w fun e w' => e = .returned (.tuple #[.int .i64 0, .int .i64 10]) ∧ Below w.heap.size w w' :=
  (len_any s w hs).mono fun e w' hp => by
    rcases hp with ⟨⟨ds, hd, _⟩ | ⟨_, he⟩, hb⟩
    · exact absurd hd (h ds)
    · exact ⟨he, hb⟩
theorem check_yes (s : ByteArray) (w : World) (hs : s.size ≤ 1048576) {cs : List Nat} (h : IsT s.data.toList cs) :
    Calls Tryz.prog 103 #[.string s] w fun e w' => e = .returned (.int .i64 0) ∧ Below w.heap.size w w' := by
  have H := Lib.hid (len_yes s w hs h)
  clear h hs
  go_enter Tryz.func103, Tryz.ntmps103
  go_wp2_with fail
  refine H.out.mono ?_
  rintro r w' ⟨rfl, hb⟩
  go_wp2
  go_ret
  exact ⟨rfl, hb⟩
theorem check_no (s : ByteArray) (w : World) (hs : s.size ≤ 1048576) (h : ∀ cs, ¬ IsT s.data.toList cs) :
    Calls Tryz.prog 103 #[.string s] w fun e w' => e = .returned (.int .i64 10) ∧ Below w.heap.size w w' := by
  have H := Lib.hid (len_no s w hs h)
  clear h hs
  go_enter Tryz.func103, Tryz.ntmps103
  go_wp2_with fail
  refine H.out.mono ?_
  rintro r w' ⟨rfl, hb⟩
  go_wp2
  go_ret
  exact ⟨rfl, hb⟩


end Go.Proofs.YtlklmoohoobjjaaGreatDoor

namespace Go.Proofs.YtlklmoohoobjjaaGreatDoor
open Go.RowKit Go.Lib Go.Shelf

def ren167 : Ren := ⟨fun | 167 => 51 | 240 => 63 | 276 => 74 | n => n, fun | 0 => 0 | 4 => 4 | 5 => 5 | 9 => 9 | 20 => 20 | 37 => 82 | 70 => 81 | 72 => 84 | 75 => 86 | 80 => 90 | 164 => 116 | n => n, fun | n => n⟩
theorem lays167 : Lays.n167 Tryz.prog ren167 := {
  mixed := by kernel_rfl
  f167 := Tryz.func51.trans (congrArg some (by kernel_rfl))
  f240 := Tryz.func63.trans (congrArg some (by kernel_rfl))
  f276 := Tryz.func74.trans (congrArg some (by kernel_rfl))
  t0 := Tryz.underlying0
  a0 := Tryz.isAgg0
  z0 := Tryz.sizeOf0
  v0 := Tryz.zeroValue0
  t4 := Tryz.underlying4
  a4 := Tryz.isAgg4
  z4 := Tryz.sizeOf4
  v4 := Tryz.zeroValue4
  t5 := Tryz.underlying5
  a5 := Tryz.isAgg5
  z5 := Tryz.sizeOf5
  v5 := Tryz.zeroValue5
  t9 := Tryz.underlying9
  a9 := Tryz.isAgg9
  z9 := Tryz.sizeOf9
  v9 := Tryz.zeroValue9
  t20 := Tryz.underlying20
  a20 := Tryz.isAgg20
  z20 := Tryz.sizeOf20
  v20 := Tryz.zeroValue20
  t37 := Tryz.underlying82
  a37 := Tryz.isAgg82
  z37 := Tryz.sizeOf82
  v37 := Tryz.zeroValue82
  t70 := Tryz.underlying81
  a70 := Tryz.isAgg81
  z70 := Tryz.sizeOf81
  v70 := Tryz.zeroValue81
  t72 := Tryz.underlying84
  a72 := Tryz.isAgg84
  z72 := Tryz.sizeOf84
  v72 := Tryz.zeroValue84
  t75 := Tryz.underlying86
  a75 := Tryz.isAgg86
  z75 := Tryz.sizeOf86
  v75 := Tryz.zeroValue86
  t164 := Tryz.underlying116
  a164 := Tryz.isAgg116
  z164 := Tryz.sizeOf116
  v164 := Tryz.zeroValue116 }
def ren166 : Ren := ⟨fun | 166 => 50 | 240 => 63 | 276 => 74 | n => n, fun | 0 => 0 | 3 => 3 | 4 => 4 | 5 => 5 | 9 => 9 | 20 => 20 | 37 => 82 | 70 => 81 | 72 => 84 | 75 => 86 | 80 => 90 | 164 => 116 | n => n, fun | n => n⟩
theorem lays166 : Lays.n166 Tryz.prog ren166 := {
  mixed := by kernel_rfl
  f166 := Tryz.func50.trans (congrArg some (by kernel_rfl))
  f240 := Tryz.func63.trans (congrArg some (by kernel_rfl))
  f276 := Tryz.func74.trans (congrArg some (by kernel_rfl))
  t0 := Tryz.underlying0
  a0 := Tryz.isAgg0
  z0 := Tryz.sizeOf0
  v0 := Tryz.zeroValue0
  t3 := Tryz.underlying3
  a3 := Tryz.isAgg3
  z3 := Tryz.sizeOf3
  v3 := Tryz.zeroValue3
  t4 := Tryz.underlying4
  a4 := Tryz.isAgg4
  z4 := Tryz.sizeOf4
  v4 := Tryz.zeroValue4
  t9 := Tryz.underlying9
  a9 := Tryz.isAgg9
  z9 := Tryz.sizeOf9
  v9 := Tryz.zeroValue9
  t20 := Tryz.underlying20
  a20 := Tryz.isAgg20
  z20 := Tryz.sizeOf20
  v20 := Tryz.zeroValue20
  t37 := Tryz.underlying82
  a37 := Tryz.isAgg82
  z37 := Tryz.sizeOf82
  v37 := Tryz.zeroValue82
  t70 := Tryz.underlying81
  a70 := Tryz.isAgg81
  z70 := Tryz.sizeOf81
  v70 := Tryz.zeroValue81
  t72 := Tryz.underlying84
  a72 := Tryz.isAgg84
  z72 := Tryz.sizeOf84
  v72 := Tryz.zeroValue84
  t75 := Tryz.underlying86
  a75 := Tryz.isAgg86
  z75 := Tryz.sizeOf86
  v75 := Tryz.zeroValue86
  t164 := Tryz.underlying116
  a164 := Tryz.isAgg116
  z164 := Tryz.sizeOf116
  v164 := Tryz.zeroValue116 }
theorem x72_166 : Builder.X72 Tryz.prog ren166 := ⟨by kernel_rfl, by kernel_rfl⟩
theorem x166 : Builder.Extra Tryz.prog ren166 := { x72_166 with t5 := Tryz.underlying5, a5 := Tryz.isAgg5, z5 := Tryz.sizeOf5, v5 := Tryz.zeroValue5, infoByte := by kernel_rfl, cellsByte := by kernel_rfl, sizeByte := by kernel_rfl, neB5 := by decide }
theorem x72_167 : Builder.X72 Tryz.prog ren167 := ⟨by kernel_rfl, by kernel_rfl⟩
theorem x167 : Builder.Extra Tryz.prog ren167 := { x72_167 with t5 := Tryz.underlying5, a5 := Tryz.isAgg5, z5 := Tryz.sizeOf5, v5 := Tryz.zeroValue5, infoByte := by kernel_rfl, cellsByte := by kernel_rfl, sizeByte := by kernel_rfl, neB5 := by decide }
theorem x169 : Builder.Extra Tryz.prog Tryz.lays169_ren := { sizeBuilder := by kernel_rfl, liesBuilder := by kernel_rfl, t5 := Tryz.underlying5, a5 := Tryz.isAgg5, z5 := Tryz.sizeOf5, v5 := Tryz.zeroValue5, infoByte := by kernel_rfl, cellsByte := by kernel_rfl, sizeByte := by kernel_rfl, neB5 := by decide }

/-- Block b, the call's own (from B on), is a builder that holds these bytes. -/
def Bd (B b : Nat) (l : List UInt8) (w : World) : Prop := Lib.IsBuilder 84 5 B b (Lib.byteCells l) w
theorem At.below {T e : TypeId} {B b : Nat} {p : Value} {bs : List Value} {w w' : World} (h : Lib.BuilderAt T e B b p bs w) (hb : Below w.heap.size w w') : Lib.BuilderAt T e B b p bs w' := by
  have hlt := Lib.BuilderAt.lt h
  obtain ⟨hB, v, hbk, hown, hne⟩ := h
  refine ⟨hB, v, (hb.block b hlt).trans hbk, ?_, hne⟩
  have hg : w.grownBy w' none := ⟨hb.os, hb.tape, hb.output, hb.size, fun k hk _ => hb.block k hk⟩
  refine hown.kept hg ?_
  cases hv : v.ownBlock with
  | none => exact .inl rfl
  | some k => exact .inr (by simp)
/-- What leaves the old blocks leaves a builder. -/
theorem Bd.below {B b : Nat} {l : List UInt8} {w w' : World} (h : Bd B b l w) (hb : Below w.heap.size w w') : Bd B b l w' :=
  h.elim (fun x => .inl (At.below x hb)) (fun x => .inr (At.below x hb))
theorem Bd.lt {B b : Nat} {l : List UInt8} {w : World} (h : Bd B b l w) : b < w.heap.size := h.elim Lib.BuilderAt.lt Lib.BuilderAt.lt
theorem bd_write {B b : Nat} {l : List UInt8} (c : Nat) (w : World) (hc : c < 256) (h : Bd B b l w) (hl : l.length + 1 ≤ 140737488355328) (hB : B ≤ w.heap.size) :
    Calls Tryz.prog 51 #[.pointer (some ⟨b, 0, none⟩), .int .u8 c] w fun e w' => e = .returned .nilIface ∧ Bd B b (l ++ [By.u c]) w' ∧ Below B w w' :=
  (Any.Builder_WriteByte lays167 x167 B b (Lib.byteCells l) c w h (by rw [Lib.byteCells_length]; exact hl) hB).mono
    fun e w' ⟨he, hb, hB⟩ => ⟨he, .inr (by
      have e1 : Lib.byteCells (l ++ [By.u c]) = Lib.byteCells l ++ [Value.int .u8 (c : Int)] := by
        simp [Lib.byteCells, By.u_nat hc]
      rw [e1]; exact hb), hB⟩
theorem bd_string {B b : Nat} {l : List UInt8} (w : World) (h : Bd B b l w) (hB : B ≤ w.heap.size) :
    Calls Tryz.prog 52 #[.pointer (some ⟨b, 0, none⟩)] w fun e w' => e = .returned (.string ⟨l.toArray⟩) ∧ Below B w w' :=
  (Any.Builder_String_any Tryz.lays169 x169 B b l w h hB).mono fun _ _ ⟨he, hb⟩ => ⟨he, hb⟩

theorem bd_new (w : World) : Bd w.heap.size w.heap.size [] (w.alloc (.cells #[.pointer none, .slice none 0 0] 84)) := Lib.fresh_isBuilder _ _ w
theorem bd_str {B b : Nat} {l : List UInt8} (s : ByteArray) (w : World) (h : Bd B b l w) (hl : l.length + s.size ≤ 140737488355328) (hB : B ≤ w.heap.size) :
    Calls Tryz.prog 50 #[.pointer (some ⟨b, 0, none⟩), .string s] w fun e w' => e = .returned (.tuple #[.int .i64 s.size, .nilIface]) ∧ Bd B b (l ++ s.data.toList) w' ∧ Below B w w' :=
  (Any.Builder_WriteString lays166 x166 B b (Lib.byteCells l) s w h (by rw [Lib.byteCells_length]; exact hl) hB).mono
    fun e w' ⟨he, hb, hB⟩ => ⟨he, .inr (by
      have e1 : Lib.byteCells (l ++ s.data.toList) = Lib.byteCells l ++ Lib.strCells s := by
        simp [Lib.byteCells, Lib.strCells]
      rw [e1]; exact hb), hB⟩

/-! ### A builder beside other blocks of the call's own: what is no row of bytes and not the builder's block stays -/
/-- Block O, the call's own (from B on), is a builder that holds these bytes, one that may have been read. -/
def Bf (B O : Nat) (l : List UInt8) (w : World) : Prop := Lib.IsBuilderF 84 5 B O (Lib.byteCells l) w
/-- What a call that writes into the builder O alone leaves: all below B; each other block that is no row of bytes. -/
structure Kp (B O : Nat) (w w' : World) : Prop where
  below : Below B w w'
  oth : Lib.OthersKept 5 (some O) w w'
theorem Kp.refl (B O : Nat) (w : World) : Kp B O w w := ⟨Below.refl _ _, Lib.OthersKept.refl _ _ _⟩
theorem Kp.trans {B O : Nat} {a b c : World} (h : Kp B O a b) (k : Kp B O b c) : Kp B O a c := ⟨h.below.trans k.below, h.oth.trans k.oth⟩
theorem Kp.alloc {B O : Nat} {a w : World} (h : Kp B O a w) (hB : B ≤ w.heap.size) (o : Obj) : Kp B O a (w.alloc o) := ⟨h.below.alloc hB o, h.oth.alloc o⟩
theorem Kp.drew {B O : Nat} {a w : World} (h : Kp B O a w) : Kp B O a w.drew := ⟨h.below.drew, h.oth.drew⟩
/-- What makes memory of its own alone keeps all. -/
theorem Kp.of {B O : Nat} {w w' : World} (h : Below w.heap.size w w') (hB : B ≤ w.heap.size) : Kp B O w w' :=
  ⟨h.mono hB, fun k _ hk _ _ => (h.block k (Array.getElem?_eq_some_iff.1 hk).1).trans hk⟩
theorem Kp.block {B O : Nat} {w w' : World} (h : Kp B O w w') {k : Nat} {cs : Array Value} {T : TypeId} {fz : Nat × Nat} (hk : w.heap[k]? = some (.cells cs T fz)) (hO : k ≠ O) (hT : T ≠ 5) : w'.heap[k]? = some (.cells cs T fz) :=
  h.oth k _ hk (fun e => hO (Option.some.inj e)) (fun c f e => by cases e; exact hT rfl)
theorem Kp.size {B O : Nat} {w w' : World} (h : Kp B O w w') : w.heap.size ≤ w'.heap.size := h.below.size
theorem Bf.of {B O : Nat} {l : List UInt8} {w : World} (h : Bd B O l w) : Bf B O l w := Lib.IsBuilderF.of h
theorem Bf.alloc {B O : Nat} {l : List UInt8} {w : World} (h : Bf B O l w) (o : Obj) : Bf B O l (w.alloc o) := Lib.IsBuilderF.alloc h o
theorem bfAt_below {T e : TypeId} {B b : Nat} {p : Value} {bs : List Value} {w w' : World} (h : Lib.BuilderAtF T e B b p bs w) (hb : Below w.heap.size w w') : Lib.BuilderAtF T e B b p bs w' := by
  have hlt := Lib.BuilderAtF.lt h
  obtain ⟨hB, v, hbk, hown, hne⟩ := h
  refine ⟨hB, v, (hb.block b hlt).trans hbk, ⟨hown.1, ?_⟩, hne⟩
  rcases hown.2 with hn | ⟨g, cap, cur, fz, hv, hbg, hg, rest⟩
  · exact .inl hn
  · exact .inr ⟨g, cap, cur, fz, hv, hbg, (hb.block g (Array.getElem?_eq_some_iff.1 hg).1).trans hg, rest⟩
theorem Bf.below {B O : Nat} {l : List UInt8} {w w' : World} (h : Bf B O l w) (hb : Below w.heap.size w w') : Bf B O l w' :=
  h.elim (fun x => .inl (bfAt_below x hb)) (fun x => .inr (bfAt_below x hb))
theorem Bf.lt {B O : Nat} {l : List UInt8} {w : World} (h : Bf B O l w) : O < w.heap.size := h.elim Lib.BuilderAtF.lt Lib.BuilderAtF.lt
theorem bf_str {B O : Nat} {l : List UInt8} (s : ByteArray) (w : World) (h : Bf B O l w) (hl : l.length + s.size ≤ 140737488355328) (hB : B ≤ w.heap.size) :
    Calls Tryz.prog 50 #[.pointer (some ⟨O, 0, none⟩), .string s] w fun e w' => e = .returned (.tuple #[.int .i64 s.size, .nilIface]) ∧ Bf B O (l ++ s.data.toList) w' ∧ Kp B O w w' :=
  (Any.Builder_WriteString_k lays166 x166 B O (Lib.byteCells l) s w h (by rw [Lib.byteCells_length]; exact hl) hB).mono
    fun e w' ⟨he, hb, hB, ho⟩ => ⟨he, .inr (by
      have e1 : Lib.byteCells (l ++ s.data.toList) = Lib.byteCells l ++ Lib.strCells s := by
        simp [Lib.byteCells, Lib.strCells]
      rw [e1]; exact hb), ⟨hB, ho⟩⟩
theorem bf_byte {B O : Nat} {l : List UInt8} (c : Nat) (w : World) (hc : c < 256) (h : Bf B O l w) (hl : l.length + 1 ≤ 140737488355328) (hB : B ≤ w.heap.size) :
    Calls Tryz.prog 51 #[.pointer (some ⟨O, 0, none⟩), .int .u8 c] w fun e w' => e = .returned .nilIface ∧ Bf B O (l ++ [By.u c]) w' ∧ Kp B O w w' :=
  (Any.Builder_WriteByte_k lays167 x167 B O (Lib.byteCells l) c w h (by rw [Lib.byteCells_length]; exact hl) hB).mono
    fun e w' ⟨he, hb, hB, ho⟩ => ⟨he, .inr (by
      have e1 : Lib.byteCells (l ++ [By.u c]) = Lib.byteCells l ++ [Value.int .u8 (c : Int)] := by
        simp [Lib.byteCells, By.u_nat hc]
      rw [e1]; exact hb), ⟨hB, ho⟩⟩
theorem bf_string {B O : Nat} {l : List UInt8} (w : World) (h : Bf B O l w) (hB : B ≤ w.heap.size) :
    Calls Tryz.prog 52 #[.pointer (some ⟨O, 0, none⟩)] w fun e w' => e = .returned (.string ⟨l.toArray⟩) ∧ Kp B O w w' := by
  by_cases h0 : l = []
  · subst h0
    exact (Any.Builder_String_empty_k Tryz.lays169 x169 B O w h hB).mono fun e w' ⟨he, _, h2, h3⟩ => ⟨he, h2, h3⟩
  · exact (Any.Builder_String_k Tryz.lays169 x169 B O l w h h0).mono fun e w' ⟨he, _, h2, h3⟩ => ⟨he, h2, h3⟩


end Go.Proofs.YtlklmoohoobjjaaGreatDoor

namespace Go.Proofs.YtlklmoohoobjjaaGreatDoor
open Go.RowKit Go.Lib Tg

/-- The attributes lie behind the address a, two cells each, below block B. -/
def AtIn (B : Nat) (w : World) (a : Option Addr) (l : List (ByteArray × ByteArray)) : Prop :=
  ∀ i (h : i < l.length), ∃ b o, a = some ⟨b, o, none⟩ ∧ b < B ∧ w.cell? ⟨b, o + i * 2, none⟩ = some (.string l[i].1) ∧ w.cell? ⟨b, o + i * 2 + 1, none⟩ = some (.string l[i].2)
/-- Five cells behind an address. -/
def Five (w : World) (b o : Nat) (v0 v1 v2 v3 v4 : Value) : Prop :=
  w.cell? ⟨b, o, none⟩ = some v0 ∧ w.cell? ⟨b, o + 1, none⟩ = some v1 ∧ w.cell? ⟨b, o + 2, none⟩ = some v2 ∧ w.cell? ⟨b, o + 3, none⟩ = some v3 ∧ w.cell? ⟨b, o + 4, none⟩ = some v4
/-- No text of the element, its kids aside, is longer than a text may be. -/
def Szd (sp nm tx : ByteArray) (atr : List (ByteArray × ByteArray)) : Prop :=
  (sp.size ≤ 140737488351232 ∧ nm.size ≤ 140737488351232 ∧ tx.size ≤ 140737488351232 ∧ atr.length ≤ 140737488351232) ∧ ∀ a ∈ atr, a.1.size ≤ 140737488351232 ∧ a.2.size ≤ 140737488351232
/-- The value v is the element, in the world w, of blocks below B. -/
inductive In (B : Nat) (w : World) : El → Value → Prop
  | mk (sp nm : ByteArray) (atr : List (ByteArray × ByteArray)) (tx : ByteArray) (ks : List El) (aA : Option Addr) (cA : Nat) (aK : Option Addr) (cK : Nat) (V : Nat → Nat → Value) :
      Szd sp nm tx atr → atr.length ≤ cA ∧ cA ≤ maxLen → ks.length ≤ maxLen → AtIn B w aA atr →
      (∀ i, i < ks.length → ∃ b o, aK = some ⟨b, o, none⟩ ∧ b < B ∧ Five w b (o + i * 5) (V i 0) (V i 1) (V i 2) (V i 3) (V i 4)) →
      (∀ i (h : i < ks.length), In B w ks[i] (.agg #[V i 0, V i 1, V i 2, V i 3, V i 4])) →
      In B w (.mk sp nm atr tx ks) (.agg #[.string sp, .string nm, .slice aA atr.length cA, .string tx, .slice aK ks.length cK])

/-- The kids lie behind an address, five cells each. -/
def KsIn (B : Nat) (w : World) (a : Option Addr) (l : List El) : Prop :=
  ∀ i (h : i < l.length), ∃ b o aA cA aK cK, a = some ⟨b, o, none⟩ ∧ b < B ∧ Five w b (o + i * 5) (.string l[i].sp) (.string l[i].nm) (.slice aA l[i].atr.length cA) (.string l[i].tx) (.slice aK l[i].ks.length cK) ∧
    In B w l[i] (.agg #[.string l[i].sp, .string l[i].nm, .slice aA l[i].atr.length cA, .string l[i].tx, .slice aK l[i].ks.length cK])
theorem In.sized {B : Nat} {w : World} {e : El} {v : Value} (h : In B w e v) : Szd e.sp e.nm e.tx e.atr := by
  cases h with
  | mk sp nm atr tx ks aA cA aK cK V h0 => exact h0
theorem In.form {B : Nat} {w : World} {e : El} {v : Value} (h : In B w e v) : ∃ aA cA aK cK, v = .agg #[.string e.sp, .string e.nm, .slice aA e.atr.length cA, .string e.tx, .slice aK e.ks.length cK] := by
  cases h with
  | mk sp nm atr tx ks aA cA aK cK => exact ⟨aA, cA, aK, cK, rfl⟩
theorem In.out {B : Nat} {w : World} {e : El} {v : Value} (h : In B w e v) : ∃ aA cA aK cK, v = .agg #[.string e.sp, .string e.nm, .slice aA e.atr.length cA, .string e.tx, .slice aK e.ks.length cK] ∧
    (e.atr.length ≤ cA ∧ cA ≤ maxLen) ∧ e.ks.length ≤ maxLen ∧ AtIn B w aA e.atr ∧ KsIn B w aK e.ks := by
  cases h with
  | mk sp nm atr tx ks aA cA aK cK V h0 h1 h2 h3 h4 h5 =>
    refine ⟨aA, cA, aK, cK, rfl, h1, h2, h3, fun i hi => ?_⟩
    obtain ⟨b, o, ha, hb, hf⟩ := h4 i hi
    have hin := h5 i hi
    obtain ⟨a1, c1, a2, c2, hv⟩ := hin.form
    simp only [Value.agg.injEq, Array.mk.injEq, List.cons.injEq, and_true] at hv
    obtain ⟨e0, e1, e2, e3, e4⟩ := hv
    rw [e0, e1, e2, e3, e4] at hf hin
    exact ⟨b, o, _, _, _, _, ha, hb, hf, hin⟩
theorem Five.below {B : Nat} {w w' : World} (h : Below B w w') {b o : Nat} (hb : b < B) {v0 v1 v2 v3 v4 : Value} (f : Five w b o v0 v1 v2 v3 v4) : Five w' b o v0 v1 v2 v3 v4 :=
  ⟨(h.cell (p := ⟨b, o, none⟩) hb).trans f.1, (h.cell (p := ⟨b, o + 1, none⟩) hb).trans f.2.1, (h.cell (p := ⟨b, o + 2, none⟩) hb).trans f.2.2.1, (h.cell (p := ⟨b, o + 3, none⟩) hb).trans f.2.2.2.1, (h.cell (p := ⟨b, o + 4, none⟩) hb).trans f.2.2.2.2⟩
theorem AtIn.below {B : Nat} {w w' : World} {a : Option Addr} {l : List (ByteArray × ByteArray)} (h : AtIn B w a l) (hb : Below B w w') : AtIn B w' a l := by
  intro i hi
  obtain ⟨b, o, ha, hlt, h1, h2⟩ := h i hi
  exact ⟨b, o, ha, hlt, (hb.cell (p := ⟨b, o + i * 2, none⟩) hlt).trans h1, (hb.cell (p := ⟨b, o + i * 2 + 1, none⟩) hlt).trans h2⟩
/-- What stays below B leaves an element what it is. -/
theorem In.stay {B : Nat} {w w' : World} {e : El} {v : Value} (h : In B w e v) (hb : Below B w w') : In B w' e v := by
  induction h with
  | mk sp nm atr tx ks aA cA aK cK V h0 h1 h2 h3 h4 _ ih =>
    refine .mk sp nm atr tx ks aA cA aK cK V h0 h1 h2 (h3.below hb) (fun i hi => ?_) ih
    obtain ⟨b, o, ha, hlt, hf⟩ := h4 i hi
    exact ⟨b, o, ha, hlt, hf.below hb hlt⟩
theorem In.mono {B B' : Nat} {w : World} {e : El} {v : Value} (h : In B w e v) (hb : B ≤ B') : In B' w e v := by
  induction h with
  | mk sp nm atr tx ks aA cA aK cK V h0 h1 h2 h3 h4 _ ih =>
    refine .mk sp nm atr tx ks aA cA aK cK V h0 h1 h2 (fun i hi => ?_) (fun i hi => ?_) ih
    · obtain ⟨b, o, ha, hlt, hf⟩ := h3 i hi
      exact ⟨b, o, ha, Nat.lt_of_lt_of_le hlt hb, hf⟩
    · obtain ⟨b, o, ha, hlt, hf⟩ := h4 i hi
      exact ⟨b, o, ha, Nat.lt_of_lt_of_le hlt hb, hf⟩
theorem KsIn.below {B : Nat} {w w' : World} {a : Option Addr} {l : List El} (h : KsIn B w a l) (hb : Below B w w') : KsIn B w' a l := by
  intro i hi
  obtain ⟨b, o, a1, c1, a2, c2, ha, hlt, hf, hin⟩ := h i hi
  exact ⟨b, o, a1, c1, a2, c2, ha, hlt, hf.below hb hlt, hin.stay hb⟩
/-- A box of five cells in a block of its own. -/
theorem five_box (w : World) (v0 v1 v2 v3 v4 : Value) (t : TypeId) : Five (w.alloc (.cells #[v0, v1, v2, v3, v4] t)) w.heap.size 0 v0 v1 v2 v3 v4 := by
  refine ⟨?_, ?_, ?_, ?_, ?_⟩ <;> simp
theorem five_of {w : World} {b : Nat} {v0 v1 v2 v3 v4 : Value} {t : TypeId} {fz : Nat × Nat} (h : w.heap[b]? = some (.cells #[v0, v1, v2, v3, v4] t fz)) : Five w b 0 v0 v1 v2 v3 v4 := by
  refine ⟨?_, ?_, ?_, ?_, ?_⟩ <;> (rw [Lib.cell_of_heap h]; rfl)
theorem bcell {W w1 : World} (hb : Below W.heap.size W w1) : (∀ b o, b < W.heap.size → w1.cell? ⟨b, o, none⟩ = W.cell? ⟨b, o, none⟩) ∧ (∀ b o, b < W.heap.size → w1.frozen? ⟨b, o, none⟩ = W.frozen? ⟨b, o, none⟩) :=
  ⟨fun b o h => hb.cell (p := ⟨b, o, none⟩) h, fun b o h => hb.frozen (p := ⟨b, o, none⟩) h⟩
theorem more {w w1 w2 : World} {B : Nat} (h : Below B w w1) (hw : B ≤ w.heap.size) (h2 : Below w1.heap.size w1 w2) : Below B w w2 := h.trans (h2.mono (Nat.le_trans hw h.size))


end Go.Proofs.YtlklmoohoobjjaaGreatDoor
