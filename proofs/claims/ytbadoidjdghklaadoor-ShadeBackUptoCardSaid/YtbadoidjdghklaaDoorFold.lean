/- Contracts of glyph.Fold and of the document's own answer to it: each great letter's byte in its small form. Condition: a string's length is one that an int holds. -/
import Derived.Test.YtbadoidjdghklaaDoorRow
import Derived.Test.YtbadoidjdghklaaDoorPl
namespace Go.Proofs.YtbadoidjdghklaaDoor
open Go.RowKit Go.Lib Sg

def fs (l : List UInt8) (k j : Nat) : Nat := if j < k then lowN (nb l j) else nb l j

theorem fold_step {wr : World} {B n k x : Nat} {l : List UInt8} (h : RowB wr B n (fs l k)) (hk : k < n) (hX : nb l k = x) {v : Int} (hv : v = (lowN x : Int)) :
    RowB (wr.setCell ⟨B, k, none⟩ (.int .u8 v)) B n (fs l (k + 1)) := by
  refine h.set hk (by rw [hv]; unfold fs; rw [if_pos (by omega), hX]) fun j _ hne => ?_
  unfold fs
  by_cases hj : j < k
  · rw [if_pos (by omega), if_pos hj]
  · rw [if_neg (by omega), if_neg hj]
theorem fold_skip {wr : World} {B n k x : Nat} {l : List UInt8} (h : RowB wr B n (fs l k)) (hX : nb l k = x) (hv : lowN x = x) : RowB wr B n (fs l (k + 1)) := by
  refine h.same fun j _ => ?_
  unfold fs
  by_cases hj : j < k
  · rw [if_pos (by omega), if_pos hj]
  · by_cases e : j = k
    · subst e; rw [if_pos (by omega), if_neg hj, hX, hv]
    · rw [if_neg (by omega), if_neg hj]

set_option maxHeartbeats 400000 in
theorem fold_any (s : ByteArray) (w : World) (hs : s.size ≤ 9223372036854775807) :
    Calls Tryd.prog 42 #[.string s] w fun e w' => e = .returned (.string ⟨(foldL s.data.toList).toArray⟩) ∧ Below w.heap.size w w' := by
  have hl : s.data.toList.length = s.size := by simp
  have hcv := run_bytes_of_string (P := Tryd.prog) w 9 39 5 s Tryd.underlying9 Tryd.underlying39 Tryd.underlying5
  generalize grownCap w s.size 0 5 = cap at hcv
  have hrow0 := RowB.new w.drew s cap 5
  generalize hC : bytesRow s cap = C at hcv hrow0
  clear hC
  have H0 : Hid (RowB (w.drew.alloc (.cells C 5 (C.size, C.size + 1))) w.heap.size s.size (nb s.data.toList)) := hrow0
  have HL := Lib.hid hl
  clear hrow0 hl
  go_enter Tryd.func42, Tryd.ntmps42
  go_wp2
  go_loopw [10] (fun i wr => ∃ k : Nat, k ≤ s.size ∧ i = .int .i64 k ∧ RowB wr w.heap.size s.size (fs s.data.toList k) ∧ Below w.heap.size w wr) (fun i _ => s.size - (RowKit.intOf i).toNat)
  case atStart =>
    exact ⟨0, Nat.zero_le _, rfl, H0.out.same (fun j _ => by simp [fs]), ((Below.refl _ _).drew).alloc (Nat.le_refl _) _⟩
  case round =>
    obtain ⟨k, hk, rfl, hrow, hbel⟩ := hrel
    have HB := Lib.hid hbel
    clear hbel
    by_cases hlt : k < s.size
    · have hc := (hrow k hlt).1
      have hz := (hrow k hlt).2
      have hv : fs s.data.toList k k = nb s.data.toList k := by simp [fs]
      have hx := nb_lt s.data.toList k
      rw [hv] at hc
      generalize hX : nb s.data.toList k = x at hc hx hv
      have HX := Lib.hid hX
      have HR := Lib.hid hrow
      clear hX hrow hv
      by_cases hup : 65 ≤ x ∧ x ≤ 90
      · obtain ⟨h1, h2⟩ := hup
        have hstep := fold_step HR.out hlt HX.out (v := (x : Int) - 65 + 97) (by unfold lowN; rw [if_pos ⟨h1, h2⟩]; omega)
        have HS := Lib.hid hstep
        clear hstep
        go_wp2
        refine ⟨⟨k + 1, by omega, by go_num, HS.out, HB.out.setCell (Nat.le_refl _) _⟩, by simp [RowKit.intOf]; omega⟩
      · have hstep := fold_skip HR.out HX.out (by unfold lowN; rw [if_neg hup])
        have HS := Lib.hid hstep
        clear hstep
        by_cases h1 : 65 ≤ x
        · have h2 : ¬ x ≤ 90 := fun e => hup ⟨h1, e⟩
          clear hup
          go_wp2
          refine ⟨⟨k + 1, by omega, by go_num, HS.out, HB.out⟩, by simp [RowKit.intOf]; omega⟩
        · clear hup
          go_wp2
          refine ⟨⟨k + 1, by omega, by go_num, HS.out, HB.out⟩, by simp [RowKit.intOf]; omega⟩
    · have hk' : k = s.size := by omega
      have hback := RowB.conv (P := Tryd.prog) hrow 39 9 5 Tryd.underlying39 Tryd.underlying5 Tryd.underlying9 (foldL s.data.toList) cap (by rw [foldL_len]; exact HL.out)
        (fun j hj => by rw [nb_foldL _ _ (by rw [HL.out]; exact hj)]; simp [fs, hk', hj])
      clear hrow hk'
      go_wp2
      go_ret
      exact ⟨rfl, HB.out⟩
set_option maxHeartbeats 400000 in
theorem rFold_any (s : ByteArray) (w : World) (hs : s.size ≤ 9223372036854775807) :
    Calls Tryd.prog 35 #[.string s] w fun e w' => e = .returned (.string ⟨(foldL s.data.toList).toArray⟩) ∧ Below w.heap.size w w' := by
  have hl : s.data.toList.length = s.size := by simp
  have hcv := run_bytes_of_string (P := Tryd.prog) w 9 39 5 s Tryd.underlying9 Tryd.underlying39 Tryd.underlying5
  generalize grownCap w s.size 0 5 = cap at hcv
  have hrow0 := RowB.new w.drew s cap 5
  generalize hC : bytesRow s cap = C at hcv hrow0
  clear hC
  have H0 : Hid (RowB (w.drew.alloc (.cells C 5 (C.size, C.size + 1))) w.heap.size s.size (nb s.data.toList)) := hrow0
  have HL := Lib.hid hl
  clear hrow0 hl
  go_enter Tryd.func35, Tryd.ntmps35
  go_wp2
  go_loopw [4] (fun i wr => ∃ k : Nat, k ≤ s.size ∧ i = .int .i64 k ∧ RowB wr w.heap.size s.size (fs s.data.toList k) ∧ Below w.heap.size w wr) (fun i _ => s.size - (RowKit.intOf i).toNat)
  case atStart =>
    exact ⟨0, Nat.zero_le _, rfl, H0.out.same (fun j _ => by simp [fs]), ((Below.refl _ _).drew).alloc (Nat.le_refl _) _⟩
  case round =>
    obtain ⟨k, hk, rfl, hrow, hbel⟩ := hrel
    have HB := Lib.hid hbel
    clear hbel
    by_cases hlt : k < s.size
    · have hc := (hrow k hlt).1
      have hz := (hrow k hlt).2
      have hv : fs s.data.toList k k = nb s.data.toList k := by simp [fs]
      have hx := nb_lt s.data.toList k
      rw [hv] at hc
      generalize hX : nb s.data.toList k = x at hc hx hv
      have HX := Lib.hid hX
      have HR := Lib.hid hrow
      clear hX hrow hv
      by_cases hup : 65 ≤ x ∧ x ≤ 90
      · obtain ⟨h1, h2⟩ := hup
        have hstep := fold_step HR.out hlt HX.out (v := (x : Int) + 32) (by unfold lowN; rw [if_pos ⟨h1, h2⟩]; omega)
        have HS := Lib.hid hstep
        clear hstep
        go_wp2
        refine ⟨⟨k + 1, by omega, by go_num, HS.out, HB.out.setCell (Nat.le_refl _) _⟩, by simp [RowKit.intOf]; omega⟩
      · have hstep := fold_skip HR.out HX.out (by unfold lowN; rw [if_neg hup])
        have HS := Lib.hid hstep
        clear hstep
        by_cases h1 : 65 ≤ x
        · have h2 : ¬ x ≤ 90 := fun e => hup ⟨h1, e⟩
          clear hup
          go_wp2
          refine ⟨⟨k + 1, by omega, by go_num, HS.out, HB.out⟩, by simp [RowKit.intOf]; omega⟩
        · clear hup
          go_wp2
          refine ⟨⟨k + 1, by omega, by go_num, HS.out, HB.out⟩, by simp [RowKit.intOf]; omega⟩
    · have hk' : k = s.size := by omega
      have hback := RowB.conv (P := Tryd.prog) hrow 39 9 5 Tryd.underlying39 Tryd.underlying5 Tryd.underlying9 (foldL s.data.toList) cap (by rw [foldL_len]; exact HL.out)
        (fun j hj => by rw [nb_foldL _ _ (by rw [HL.out]; exact hj)]; simp [fs, hk', hj])
      clear hrow hk'
      go_wp2
      go_ret
      exact ⟨rfl, HB.out⟩
end Go.Proofs.YtbadoidjdghklaaDoor
