/- Contracts of glyph.Head and of the document's own answer to it: a text's longest front that tears no sign. Condition: a string's length is one that a row of bytes may have. -/
import Derived.Test.YtgcjgggnmhcfcaaGly
namespace Go.Proofs.Ytgcjgggnmhcfcaa
open Go.RowKit Go.Lib Sg

def inner (b : Nat) : Bool := decide (128 ≤ b) && decide (b < 192)
theorem and_byte : ∀ x : Fin 256, (bits BinOp.and IntKind.u8 ((x.val : Nat) : Int) 192 == 128) = inner x.val := by decide +kernel
theorem clone_any (s : ByteArray) (w : World) (hs : s.size ≤ 281474976710656) :
    Calls Try.prog 34 #[.string s] w fun e w' => e = .returned (.string s) ∧ Below w.heap.size w w' := by
  have hc := Any.stringslite_Clone Try.laysM316 s w hs
  change Calls Try.prog 43 _ _ _ at hc
  have H := Lib.hid hc
  clear hc hs
  go_enter Try.func34, Try.ntmps34
  go_wp2_with fail
  refine H.out.mono ?_
  rintro r w' ⟨rfl, hb⟩
  go_wp2
  go_ret
  exact ⟨rfl, hb⟩

/-- From k downward the first place at which no sign is torn. -/
def back (l : List UInt8) : Nat → Nat
  | 0 => 0
  | k + 1 => if inner (nb l (k + 1)) then back l k else k + 1
theorem back_le (l : List UInt8) : ∀ k, back l k ≤ k
  | 0 => Nat.le_refl _
  | k + 1 => by
    unfold back; split
    · have := back_le l k; omega
    · exact Nat.le_refl _
/-- How long a text's front of at most n bytes is. -/
def hd (l : List UInt8) (n : Int) : Nat := if (l.length : Int) ≤ n then l.length else back l n.toNat
theorem hd_le (l : List UInt8) (n : Int) : hd l n ≤ l.length := by
  unfold hd; split
  · exact Nat.le_refl _
  · have := back_le l n.toNat; omega
theorem byte_nb (s : ByteArray) (k : Nat) (h : k < s.size) : (s[k]'h).toNat = nb s.data.toList k := by
  unfold nb
  have h' : k < s.data.size := h
  simp [List.getD_eq_getElem?_getD, Array.getElem?_eq_getElem h']
  rfl
theorem extract_zero (s : ByteArray) (k : Nat) : s.extract 0 k = ⟨(s.data.toList.take k).toArray⟩ := by
  apply ByteArray.ext
  apply Array.toList_inj.1
  rw [Lib.extract_data]
  simp

theorem front_dec {l : List UInt8} {c n : Nat} (h : front l = some (c, n)) : dec l = (c, n) ∧ c ≤ 1114111 ∧ 1 ≤ n ∧ n ≤ 4 ∧ (c = 65533 → 2 ≤ n) := by
  obtain ⟨hs, hn, r, hr⟩ := front_some h
  have hb := (isSg_iff c).1 hs
  have hl := enc_len_le c
  unfold front at h
  split at h
  · cases h
  · rename_i hno
    simp only [Option.some.injEq] at h
    rw [h] at hno
    refine ⟨h, by omega, by omega, by omega, fun e => ?_⟩
    simp only at hno
    omega
theorem front_dec_none {l : List UInt8} (h : front l = none) : ∃ n, dec l = (65533, n) ∧ n < 2 := by
  unfold front at h
  split at h
  · rename_i hy
    unfold dec at hy ⊢
    by_cases h0 : l.length = 0
    · rw [if_pos h0]; exact ⟨0, rfl, by omega⟩
    · rw [if_neg h0] at hy ⊢
      rcases hd : decodeN l.length (nb l 0) (nb l 1) (nb l 2) (nb l 3) with ⟨c, k⟩
      rw [hd] at hy
      have hs := decN_split _ _ _ _ _ _ _ (nb_lt l 1) (nb_lt l 2) (nb_lt l 3) hd
      simp only at hy
      have e1 : c = 65533 := by omega
      have e2 : k = 1 := by omega
      subst e1 e2
      exact ⟨1, rfl, by omega⟩
  · cases h


end Go.Proofs.Ytgcjgggnmhcfcaa
