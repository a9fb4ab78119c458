/- The law GlyphSame's walk: folding keeps lengths, and is the same again, whatever was the case of a letter. Condition: the decoder's two tables hold what their text lays. -/

import Derived.Test.YthhmdkdpfeofjaaDoorLen
import Derived.Test.YthhmdkdpfeofjaaDoorTxg
namespace Go.Proofs.YthhmdkdpfeofjaaDoor
open Go.RowKit Go.Lib Sg
theorem lowN_low {b : Nat} : lowN (lowN b) = lowN b := by
  by_cases h : 65 ≤ b ∧ b ≤ 90
  · have e : lowN b = b + 32 := by unfold lowN; rw [if_pos h]
    rw [e]; unfold lowN; rw [if_neg (by omega)]
  · have e : lowN b = b := by unfold lowN; rw [if_neg h]
    rw [e, e]
theorem foldL_foldL (l : List UInt8) : foldL (foldL l) = foldL l := by
  unfold foldL
  rw [List.map_map]
  apply List.map_congr_left
  intro a _
  show low (low a) = low a
  have : (low (low a)).toNat = (low a).toNat := by rw [low_nat, low_nat, lowN_low]
  exact UInt8.toNat_inj.1 this
def flip32 (x : Nat) : Nat := if x < 97 then x + 32 else x - 32
theorem xor_byte : ∀ x : Fin 256, (97 ≤ lowN x.val ∧ lowN x.val ≤ 122) → bits BinOp.xor IntKind.u8 ((x.val : Nat) : Int) 32 = (flip32 x.val : Int) ∧ lowN (flip32 x.val) = lowN x.val ∧ flip32 x.val < 256 := by decide +kernel
theorem fold_flip (l : List UInt8) (k x : Nat) (hk : k < l.length) (hx : nb l k = x) (hf : lowN (flip32 x) = lowN x) (h256 : flip32 x < 256) : foldL (l.set k (u (flip32 x))) = foldL l := by
  unfold foldL
  apply List.ext_getElem?
  intro j
  rw [List.getElem?_map, List.getElem?_map, List.getElem?_set]
  by_cases e : k = j
  · subst e
    rw [if_pos rfl, if_pos hk, List.getElem?_eq_getElem hk]
    simp only [Option.map_some, Option.some.injEq]
    apply UInt8.toNat_inj.1
    rw [low_nat, low_nat, u_nat h256, hf, ← hx]
    simp [nb, List.getD_eq_getElem?_getD, List.getElem?_eq_getElem hk]
  · rw [if_neg e]
theorem nb_set (l : List UInt8) (k v : Nat) (hv : v < 256) (hk : k < l.length) (j : Nat) : nb (l.set k (u v)) j = if j = k then v else nb l j := by
  unfold nb
  rw [List.getD_eq_getElem?_getD, List.getElem?_set]
  by_cases e : k = j
  · subst e; rw [if_pos rfl, if_pos hk, if_pos rfl]; exact u_nat hv
  · rw [if_neg e, if_neg (fun x => e x.symm), List.getD_eq_getElem?_getD]


end Go.Proofs.YthhmdkdpfeofjaaDoor
