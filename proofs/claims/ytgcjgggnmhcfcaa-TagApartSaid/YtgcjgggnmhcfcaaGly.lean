/- Contracts of the small functions of package glyph and of the document's own answers for layer 1: what each call returns, and that memory stays. No condition beyond what each theorem's head says. -/
import Derived.Test.YtgcjgggnmhcfcaaSg
import Derived.Test.YtgcjgggnmhcfcaaShelf
import Derived.WalkKit
import Derived.WalkSpells
import Derived.WalkLawsBesides
import Derived.BigQuiet
import Derived.Lib.Hide
namespace Go.Proofs.Ytgcjgggnmhcfcaa
open Go.RowKit Go.Lib Sg

theorem num_any (e : Int) (w : World) :
    Calls Try.prog 6 #[.int .i64 e] w fun r w' => r = .returned (.int .i64 e) ∧ w = w' := by
  go_enter Try.func6, Try.ntmps6
  go_wp2
  go_ret
  exact ⟨rfl, rfl⟩

/-- A string made of a new row of bytes. -/
theorem conv_row {P : Program} (W : World) (src dst e t : TypeId) (hs : P.underlying src = some (.slice e)) (he : P.underlying e = some (.int .u8)) (hd : P.underlying dst = some .string)
    (l : List UInt8) (n cap : Nat) (C : Array Value) (hn : l.length = n) (hC : C.toList = l.map fun b => Value.int .u8 (b.toNat : Int)) :
    (convert src dst (.slice (some ⟨W.heap.size, 0, none⟩) n cap)).run P (W.alloc (.cells C t)) = .ok (.string ⟨l.toArray⟩) (W.alloc (.cells C t)) := by
  subst hn
  refine run_convert_bytes_back _ src dst e _ cap l hs he hd fun j hj => ?_
  have h0 : (⟨W.heap.size, 0, none⟩ : Addr).add j = ⟨W.heap.size, j, none⟩ := by
    unfold Addr.add; split <;> simp_all
  rw [h0, World.cell?_alloc_mark, ← Array.getElem?_toList, hC]
  simp [List.getElem?_eq_getElem hj]
theorem u_int {n : Nat} (h : n < 256) : ((u n).toNat : Int) = (n : Int) := by rw [u_nat h]

theorem enc_one {c : Nat} (h : isSg c = true) (hc : c < 128) : (enc c).length = 1 ∧ (#[Value.int .u8 (c : Int)] : Array Value).toList = (enc c).map fun b => Value.int .u8 (b.toNat : Int) := by
  have hb := (isSg_iff c).1 h
  unfold enc
  rw [if_pos hc]
  refine ⟨rfl, ?_⟩
  simp only [List.map_cons, List.map_nil]
  rw [u_int (by omega)]
theorem enc_two {c : Nat} (h : isSg c = true) (hc : ¬ c < 128 ∧ c < 2048) : (enc c).length = 2 ∧ (#[Value.int .u8 (192 + (c : Int) / 64), Value.int .u8 (128 + (c : Int) % 64)] : Array Value).toList = (enc c).map fun b => Value.int .u8 (b.toNat : Int) := by
  have hb := (isSg_iff c).1 h
  unfold enc
  rw [if_neg hc.1, if_pos hc.2]
  refine ⟨rfl, ?_⟩
  simp only [List.map_cons, List.map_nil]
  rw [u_int (by omega), u_int (by omega)]
  simp
theorem enc_three {c : Nat} (h : isSg c = true) (hc : ¬ c < 2048 ∧ c < 65536) : (enc c).length = 3 ∧ (#[Value.int .u8 (224 + (c : Int) / 4096), Value.int .u8 (128 + (c : Int) / 64 % 64), Value.int .u8 (128 + (c : Int) % 64)] : Array Value).toList = (enc c).map fun b => Value.int .u8 (b.toNat : Int) := by
  have hb := (isSg_iff c).1 h
  unfold enc
  rw [if_neg (by omega), if_neg hc.1, if_pos hc.2]
  refine ⟨rfl, ?_⟩
  simp only [List.map_cons, List.map_nil]
  rw [u_int (by omega), u_int (by omega), u_int (by omega)]
  simp
theorem enc_four {c : Nat} (h : isSg c = true) (hc : ¬ c < 65536) : (enc c).length = 4 ∧ (#[Value.int .u8 (240 + (c : Int) / 262144), Value.int .u8 (128 + (c : Int) / 4096 % 64), Value.int .u8 (128 + (c : Int) / 64 % 64), Value.int .u8 (128 + (c : Int) % 64)] : Array Value).toList = (enc c).map fun b => Value.int .u8 (b.toNat : Int) := by
  have hb := (isSg_iff c).1 h
  unfold enc
  rw [if_neg (by omega), if_neg (by omega), if_neg hc]
  refine ⟨rfl, ?_⟩
  simp only [List.map_cons, List.map_nil]
  rw [u_int (by omega), u_int (by omega), u_int (by omega), u_int (by omega)]
  simp
end Go.Proofs.Ytgcjgggnmhcfcaa
