/- Contract of package digest's words: the sixteen words of 64 bytes. Condition: the bytes are there. -/
import Derived.Test.YtnoabinodojkiaaDoorDg
import Derived.Test.YtnoabinodojkiaaDoorTr
import Derived.Laws.Rows
import Derived.Laws.CopyOwn
namespace Go.Proofs.YtnoabinodojkiaaDoor
open Go.RowKit Go.Lib By Dg

/-- Sixteen words as cells. -/
def c16 (m : Nat → Int) : Array Value := #[.int .u32 (m 0), .int .u32 (m 1), .int .u32 (m 2), .int .u32 (m 3), .int .u32 (m 4), .int .u32 (m 5), .int .u32 (m 6), .int .u32 (m 7), .int .u32 (m 8), .int .u32 (m 9), .int .u32 (m 10), .int .u32 (m 11), .int .u32 (m 12), .int .u32 (m 13), .int .u32 (m 14), .int .u32 (m 15)]
theorem c16_at (m : Nat → Int) {j : Nat} (hj : j < 16) : (c16 m)[j]? = some (.int .u32 (m j)) := by
  have : j = 0 ∨ j = 1 ∨ j = 2 ∨ j = 3 ∨ j = 4 ∨ j = 5 ∨ j = 6 ∨ j = 7 ∨ j = 8 ∨ j = 9 ∨ j = 10 ∨ j = 11 ∨ j = 12 ∨ j = 13 ∨ j = 14 ∨ j = 15 := by omega
  rcases this with rfl | rfl | rfl | rfl | rfl | rfl | rfl | rfl | rfl | rfl | rfl | rfl | rfl | rfl | rfl | rfl <;> rfl
theorem c16_size (m : Nat → Int) : (c16 m).size = 16 := rfl
theorem c16_set (m : Nat → Int) {j : Nat} (hj : j < 16) (v : Int) : (c16 m).setIfInBounds j (.int .u32 v) = c16 (fun i => if i = j then v else m i) := by
  apply Array.ext_getElem?
  intro i
  rw [Array.getElem?_setIfInBounds]
  by_cases h : j = i
  · subst h
    rw [if_pos rfl, if_pos (by rw [c16_size]; exact hj), c16_at _ hj, if_pos rfl]
  · rw [if_neg h]
    by_cases hi : i < 16
    · rw [c16_at m hi, c16_at _ hi, if_neg (Ne.symm h)]
    · rw [Array.getElem?_eq_none (by rw [c16_size]; omega), Array.getElem?_eq_none (by rw [c16_size]; omega)]
/-- Word j as far as k bytes are read. -/
def pm (g : Bool) (l : List UInt8) (q k j : Nat) : Int := pw g l (q + 4 * j) (min 4 (k - 4 * j))
theorem pm_zero (g : Bool) (l : List UInt8) (q : Nat) : c16 (pm g l q 0) = #[.int .u32 0, .int .u32 0, .int .u32 0, .int .u32 0, .int .u32 0, .int .u32 0, .int .u32 0, .int .u32 0, .int .u32 0, .int .u32 0, .int .u32 0, .int .u32 0, .int .u32 0, .int .u32 0, .int .u32 0, .int .u32 0] := rfl
theorem pm_end (g : Bool) (l : List UInt8) (q : Nat) : c16 (pm g l q 64) = c16 (fun j => wd g l (q + 4 * j)) := by
  apply Array.ext_getElem?
  intro i
  by_cases hi : i < 16
  · rw [c16_at _ hi, c16_at _ hi, pm, show min 4 (64 - 4 * i) = 4 by omega, pw_four]
  · rw [Array.getElem?_eq_none (by rw [c16_size]; omega), Array.getElem?_eq_none (by rw [c16_size]; omega)]
theorem pm_at (g : Bool) (l : List UInt8) (q k : Nat) : pm g l q k (k / 4) = pw g l (q + 4 * (k / 4)) (k % 4) := by
  rw [pm, show min 4 (k - 4 * (k / 4)) = k % 4 by omega]
theorem pm_next (g : Bool) (l : List UInt8) (q : Nat) {k : Nat} (hk : k < 64) : (c16 (pm g l q k)).setIfInBounds (k / 4) (.int .u32 (io (pw g l (q + 4 * (k / 4)) (k % 4)) ((nb l (q + k) : Int) * 2 ^ sh g (k % 4) 4))) = c16 (pm g l q (k + 1)) := by
  rw [c16_set _ (by omega)]
  apply Array.ext_getElem?
  intro i
  by_cases hi : i < 16
  · rw [c16_at _ hi, c16_at _ hi]
    by_cases h : i = k / 4
    · subst h
      rw [if_pos rfl, pm, show min 4 (k + 1 - 4 * (k / 4)) = k % 4 + 1 by omega, pw, show q + 4 * (k / 4) + k % 4 = q + k by omega]
    · rw [if_neg h, pm, pm, show min 4 (k + 1 - 4 * i) = min 4 (k - 4 * i) by omega]
  · rw [Array.getElem?_eq_none (by rw [c16_size]; omega), Array.getElem?_eq_none (by rw [c16_size]; omega)]

/-- Block B, the call's own, holds these words. -/
def Has (T : TypeId) (cs : Array Value) (B : Nat) (w : World) : Prop := w.heap[B]? = some (.cells cs T (0, 0))
theorem Has.below {T : TypeId} {cs : Array Value} {B : Nat} {w w' : World} (h : Has T cs B w) (hb : Below w.heap.size w w') : Has T cs B w' := (hb.block B (Array.getElem?_eq_some_iff.1 h).1).trans h
theorem Has.lt {T : TypeId} {cs : Array Value} {B : Nat} {w : World} (h : Has T cs B w) : B < w.heap.size := (Array.getElem?_eq_some_iff.1 h).1
theorem Has.set {T : TypeId} {cs : Array Value} {B j : Nat} {w : World} (h : Has T cs B w) (v : Value) : Has T (cs.setIfInBounds j v) B (w.setCell ⟨B, j, none⟩ v) := heap_setCell_same w B j cs T v h
theorem Has.other {T : TypeId} {cs : Array Value} {B : Nat} {w : World} (h : Has T cs B w) {a : Addr} (ha : B ≠ a.block) (v : Value) : Has T cs B (w.setCell a v) := (heap_setCell_other w a B v ha).trans h
theorem Has.cell {T : TypeId} {cs : Array Value} {B j : Nat} {w : World} (h : Has T cs B w) {v : Value} (hv : cs[j]? = some v) : w.cell? ⟨B, j, none⟩ = some v := (cell_of_row w B j cs T (0, 0) h).trans hv
theorem Has.frozen {T : TypeId} {cs : Array Value} {B j : Nat} {w : World} (h : Has T cs B w) : w.frozen? ⟨B, j, none⟩ = false := frozen_of_row w B j cs T h
theorem Has.new (T : TypeId) (cs : Array Value) (w : World) : Has T cs w.heap.size (w.alloc (.cells cs T)) := heap_alloc_new w _
theorem Has.alloc {T : TypeId} {cs : Array Value} {B : Nat} {w : World} (h : Has T cs B w) (o : Obj) : Has T cs B (w.alloc o) := (Below.heap_alloc w o B h.lt).trans h
theorem Has.drewN {T : TypeId} {cs : Array Value} {B : Nat} {w : World} (h : Has T cs B w) (n : Nat) : Has T cs B (w.drewN n) := h.below (below_drewN w n)

theorem Has.row {T : TypeId} {cs : Array Value} {B : Nat} {w : World} (h : Has T cs B w) (cs' : Array Value) : Has T cs' B (w.setRow B cs') := setRow_heap w B cs cs' T (0, 0) h
theorem Has.rowOther {T : TypeId} {cs : Array Value} {B g : Nat} {w : World} (h : Has T cs B w) (hg : B ≠ g) (cs' : Array Value) : Has T cs B (w.setRow g cs') := (setRow_other w g B cs' hg).trans h
theorem c16_one (m : Nat → Int) : (c16 m).all (·.oneCell') = true := by simp [c16, Value.oneCell']
theorem sh_four (g : Bool) {i : Nat} (hi : i < 4) : sh g i 4 = 0 ∨ sh g i 4 = 8 ∨ sh g i 4 = 16 ∨ sh g i 4 = 24 := by unfold sh; split <;> omega
theorem sh_fit {y t : Nat} (hy : y < 256) (ht : t = 0 ∨ t = 8 ∨ t = 16 ∨ t = 24) : (y : Int) * 2 ^ t % 4294967296 = (y : Int) * 2 ^ t := by
  rcases ht with rfl | rfl | rfl | rfl
  · rw [Int.pow_zero]; omega
  · rw [show (2 : Int) ^ 8 = 256 by decide]; omega
  · rw [show (2 : Int) ^ 16 = 65536 by decide]; omega
  · rw [show (2 : Int) ^ 24 = 16777216 by decide]; omega
theorem words_any (g : Bool) (s : ByteArray) (q : Nat) (w : World) (hq : 64 * (q + 1) ≤ s.size) (hs : s.size ≤ 200000) : Calls Tryd.prog 17 #[.int .i64 (og g), .string s, .int .i64 q] w fun e w' => e = .returned (.agg (c16 (fun j => wd g s.data.toList (64 * q + 4 * j)))) ∧ Below w.heap.size w w' := by
  have HS := Lib.hid (fun k W (hk : k < 4) => shift_any g k 4 W hk (by omega))
  have hq2 : 64 * ((q : Int) + 1) ≤ s.size := by omega
  have hs2 : (s.size : Int) ≤ 200000 := by omega
  have H0 : Hid (∀ o1, Has 33 (c16 (pm g s.data.toList (64 * q) 0)) (w.heap.size + 1) ((w.alloc o1).alloc (.cells #[.int .u32 0, .int .u32 0, .int .u32 0, .int .u32 0, .int .u32 0, .int .u32 0, .int .u32 0, .int .u32 0, .int .u32 0, .int .u32 0, .int .u32 0, .int .u32 0, .int .u32 0, .int .u32 0, .int .u32 0, .int .u32 0] 33))) := fun o1 => by
    rw [pm_zero]; exact heap_alloc2_new w o1 _
  have H1 : Hid (∀ o2, Has 33 (c16 (pm g s.data.toList (64 * q) 0)) w.heap.size ((w.alloc (.cells #[.int .u32 0, .int .u32 0, .int .u32 0, .int .u32 0, .int .u32 0, .int .u32 0, .int .u32 0, .int .u32 0, .int .u32 0, .int .u32 0, .int .u32 0, .int .u32 0, .int .u32 0, .int .u32 0, .int .u32 0, .int .u32 0] 33)).alloc o2)) := fun o2 => by
    rw [pm_zero]; exact heap_alloc2_old w _ o2
  have HB0 := Lib.hid (fun o1 o2 => ((Below.refl _ w).alloc (Nat.le_refl _) o1).alloc (by simp) o2)
  have HDr := Lib.hid (fun W n => below_drewN W n)
  generalize og g = o at HS
  go_enter Tryd.func17, Tryd.ntmps17
  go_wp2_with fail
  go_loopw [17] (fun i wr => ∃ k : Nat, i = .int .i64 k ∧ k ≤ 64 ∧ Hid (Has 33 (c16 (pm g s.data.toList (64 * q) k)) (w.heap.size + 1) wr) ∧ Hid (Has 33 (c16 (pm g s.data.toList (64 * q) 0)) w.heap.size wr) ∧ Hid (Below w.heap.size w wr)) (fun i _ => 64 - (RowKit.intOf i).toNat)
  case atStart => exact ⟨0, rfl, by omega, H0.out _, H1.out _, HB0.out _ _⟩
  case round =>
    obtain ⟨k, rfl, hk, HM, HR, HB⟩ := hrel
    by_cases hlt : k < 64
    · have HS1 : Hid (∀ W, Calls Tryd.prog 32 #[.int .i64 o, .int .i64 ((k : Int) % 4), .int .i64 4] W fun e w' => e = .returned (.int .i64 (sh g (k % 4) 4 : Nat)) ∧ W = w') := fun W => by
        rw [show (k : Int) % 4 = ((k % 4 : Nat) : Int) by omega]
        exact HS.out _ W (by omega)
      have ht := sh_four g (show k % 4 < 4 by omega)
      have hx : k < (s.extract (q * 64) ((q + 1) * 64)).size := by rw [ByteArray.size_extract]; omega
      have hb : ((s.extract (q * 64) ((q + 1) * 64))[k]'hx).toNat = nb s.data.toList (64 * q + k) := by
        rw [byte_nb, extract_cut, nb_drop, Nat.mul_comm q 64]
        unfold nb
        rw [List.getD_eq_getElem?_getD, List.getElem?_take_of_lt (by omega), ← List.getD_eq_getElem?_getD]
      have hy := nb_lt s.data.toList (64 * q + k)
      have hc0 := HM.out.cell (j := k / 4) (c16_at _ (by omega))
      have HF : Hid (wr.frozen? ⟨w.heap.size + 1, k / 4, none⟩ = false) := HM.out.frozen (j := k / 4)
      rw [pm_at] at hc0
      have HN : Hid (∀ W, Has 33 (c16 (pm g s.data.toList (64 * q) k)) (w.heap.size + 1) W → Has 33 (c16 (pm g s.data.toList (64 * q) (k + 1))) (w.heap.size + 1) (W.setCell ⟨w.heap.size + 1, k / 4, none⟩ (.int .u32 (io (pw g s.data.toList (64 * q + 4 * (k / 4)) (k % 4)) ((nb s.data.toList (64 * q + k) : Int) * 2 ^ sh g (k % 4) 4))))) := fun W h => by
        rw [← pm_next g _ _ hlt]
        exact h.set _
      generalize nb s.data.toList (64 * q + k) = y at hb hy HN
      generalize pw g s.data.toList (64 * q + 4 * (k / 4)) (k % 4) = z at hc0 HN
      generalize sh g (k % 4) 4 = t at HS1 ht HN
      have s32 : t < 32 := by omega
      rw [← sh_fit hy ht] at HN
      clear ht
      have hc : ∀ x : Ext wr, x.to.cell? ⟨w.heap.size + 1, k / 4, none⟩ = _ := fun x => ext_cell x hc0
      have he := extSome wr
      have HC0 := Lib.hid hc0
      clear hq hc0
      go_wp2_with fail
      refine ext_tail 15 (by kernel_rfl) (by kernel_rfl) ?_
      simp only [List.take_succ_cons, List.take_zero, List.drop_succ_cons, List.drop_zero]
      repeat (go_big_quiet_step ((go_at_call 32; with_reducible exact ext_same _ (HS1.out _))))
      refine wpQuiet_nil ?_
      rintro _ ⟨x, hx⟩
      subst hx
      have hc1 := ext_cell x HC0.out
      have hf1 := ext_frozen x HC0.out HF.out
      have HM1 := Lib.hid (HN.out _ (HM.out.below x.below))
      have HR1 := Lib.hid ((HR.out.below x.below).other (a := ⟨w.heap.size + 1, k / 4, none⟩) (by simp) (.int .u32 (io z ((y : Int) * 2 ^ t % 4294967296))))
      have HB1 := Lib.hid ((HB.out.trans (x.below.mono HB.out.size)).setCell (p := ⟨w.heap.size + 1, k / 4, none⟩) (by simp) (.int .u32 (io z ((y : Int) * 2 ^ t % 4294967296))))
      clear hc he
      generalize x.to = w5 at hc1 hf1 HM1 HR1 HB1 ⊢
      go_wp2_with fail
      exact ⟨⟨k + 1, by go_num, by omega, HM1.out, HR1.out, HB1.out⟩, by simp [RowKit.intOf]; omega⟩
    · obtain rfl : k = 64 := by omega
      have hM := HM.out
      rw [pm_end] at hM
      have HM2 := Lib.hid hM
      have HB2 := Lib.hid (below_setRow HB.out (Nat.le_refl _) (c16 (fun j => wd g s.data.toList (64 * q + 4 * j))))
      have HR2 := Lib.hid (HR.out.row (c16 (fun j => wd g s.data.toList (64 * q + 4 * j))))
      clear HM hM
      generalize hm : (fun j => wd g s.data.toList (64 * q + 4 * j)) = m at HM2 HB2 HR2
      have Hm := Lib.hid hm
      clear hm
      go_wp2_with (first | (refine wpList_load_row rfl 33 _ rfl (w.heap.size + 1) rfl 33 _ (0, 0) _ HM2.out Tryd.underlying33 rfl (by kernel_rfl) ?_) | (refine wpList_store_row rfl 33 _ _ rfl w.heap.size _ rfl rfl 33 _ HR.out (by kernel_rfl) rfl (c16_one _) ?_))
      exact bodyPost_ret (results_cell_row Tryd.results17 _ _ w.heap.size 33 _ (0, 0) _ rfl HR2.out Tryd.underlying33 rfl (by kernel_rfl)) rfl ⟨by rw [← Hm.out], HB2.out⟩
end Go.Proofs.YtnoabinodojkiaaDoor
