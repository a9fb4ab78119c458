/- Contracts of tag.hasAttr and of the library's search under it: whether some of the attributes have a name. Condition: an element of at most 20000 values and letters. -/
import Derived.Test.YtgcjgggnmhcfcaaTn
namespace Go.Proofs.Ytgcjgggnmhcfcaa
open Go.RowKit Go.Lib Go.Shelf Tg

theorem isAt_any (n v nm : ByteArray) (Bn : Nat) (w : World) (h : w.cell? ⟨Bn, 0, none⟩ = some (.string nm)) :
    Calls Try.prog 42 #[.agg #[.string n, .string v], .pointer (some ⟨Bn, 0, none⟩)] w fun e w' => e = .returned (.bool (n.data.toList == nm.data.toList)) ∧ Below w.heap.size w w' := by
  have h1 := cell_alloc h (.cells #[.string n, .string v] 53)
  have E : Hid ((n.toList == nm.toList) = (n.data.toList == nm.data.toList)) := by show _ = _; rw [ByteArray.toList_eq, ByteArray.toList_eq]
  go_enter Try.func42, Try.ntmps42
  go_wp2
  go_ret
  exact ⟨by rw [← E.out]; rfl, (Below.refl _ _).alloc (Nat.le_refl _) _⟩
theorem hasB_take {l : List (ByteArray × ByteArray)} {k : Nat} (h : k < l.length) (nm : ByteArray) : hasB (l.take (k + 1)) nm = (hasB (l.take k) nm || l[k].1.data.toList == nm.data.toList) := by
  unfold hasB
  rw [List.take_succ_eq_append_getElem h, List.any_append]; simp
theorem hasB_mem {l : List (ByteArray × ByteArray)} {k : Nat} (h : k < l.length) {nm : ByteArray} (he : (l[k].1.data.toList == nm.data.toList) = true) : hasB l nm = true :=
  List.any_eq_true.2 ⟨_, List.getElem_mem h, he⟩
/-- What the search gives. -/
def IxP (l : List (ByteArray × ByteArray)) (nm : ByteArray) (w : World) (e : Ending) (w' : World) : Prop :=
  ((∃ i : Nat, hasB l nm = true ∧ e = .returned (.int .i64 i)) ∨ (hasB l nm = false ∧ e = .returned (.int .i64 (-1)))) ∧ Below w.heap.size w w'
set_option maxRecDepth 100000 in
set_option maxHeartbeats 4000000 in
theorem indexFunc_any (l : List (ByteArray × ByteArray)) (nm : ByteArray) (Bn : Nat) (a : Option Addr) (c : Nat) (w : World) (h : w.cell? ⟨Bn, 0, none⟩ = some (.string nm)) (hl : l.length ≤ 20000) (hA : AtIn w.heap.size w a l) :
    Calls Try.prog 46 #[.slice a l.length c, .func (.func 42) #[] #[.pointer (some ⟨Bn, 0, none⟩)]] w (IxP l nm w) := by
  have HA := Lib.hid hA
  have HC := Lib.hid h
  have HW : Hid (Below w.heap.size w w) := Below.refl _ _
  have hBn : Bn < w.heap.size := World.block_lt_of_cell? w _ h
  clear hA h
  go_enter Try.func46, Try.ntmps46
  go_wp2_with fail
  go_loopw [8] (fun i wr => ∃ k : Nat, i = .int .i64 k ∧ k ≤ l.length ∧ Hid (hasB (l.take k) nm = false) ∧ Hid (Below w.heap.size w wr)) (fun i _ => l.length - (RowKit.intOf i).toNat)
  case atStart => exact ⟨0, rfl, Nat.zero_le _, rfl, HW.out⟩
  case round =>
    obtain ⟨k, rfl, hk, HO, HB⟩ := hrel
    by_cases hlt : k < l.length
    · obtain ⟨b, o, rfl, hb, y0, y1⟩ := (HA.out.below HB.out) k hlt
      have hz : (⟨Bn, 0, none⟩ : Addr).block < w.heap.size := hBn
      have HF := Lib.hid (isAt_any l[k].1 l[k].2 nm Bn wr ((HB.out.cell hz).trans HC.out))
      have HT := Lib.hid (hasB_take hlt nm)
      have HM := Lib.hid (fun he => hasB_mem (nm := nm) hlt he)
      generalize (l[k].1.data.toList == nm.data.toList) = bb at HF HT HM
      clear hz
      cases bb with
      | true =>
        have HM2 : Hid (hasB l nm = true) := HM.out rfl
        clear HM
        go_wp2_with fail
        refine HF.out.mono ?_
        rintro r w1 ⟨rfl, hbb⟩
        have HB1 := Lib.hid (more HB.out (Nat.le_refl _) hbb)
        clear hbb
        go_wp2_with fail
        go_ret
        exact ⟨.inl ⟨k, HM2.out, rfl⟩, HB1.out⟩
      | false =>
        go_wp2_with fail
        refine HF.out.mono ?_
        rintro r w1 ⟨rfl, hbb⟩
        have HB1 := Lib.hid (more HB.out (Nat.le_refl _) hbb)
        have HT2 : Hid (hasB (l.take (k + 1)) nm = false) := by show _ = _; rw [HT.out, HO.out]; rfl
        clear hbb
        go_wp2_with fail
        go_roundw
        case rel => exact ⟨k + 1, by go_num, by omega, HT2.out, HB1.out⟩
        case measure => simp [RowKit.intOf]; omega
    · have HN : Hid (hasB l nm = false) := by
        have := HO.out
        rw [List.take_of_length_le (by omega)] at this
        exact this
      go_wp2_with fail
      go_ret
      exact ⟨.inr ⟨HN.out, rfl⟩, HB.out⟩
theorem containsFunc_any (l : List (ByteArray × ByteArray)) (nm : ByteArray) (Bn : Nat) (a : Option Addr) (c : Nat) (w : World) (h : w.cell? ⟨Bn, 0, none⟩ = some (.string nm)) (hl : l.length ≤ 20000) (hA : AtIn w.heap.size w a l) :
    Calls Try.prog 41 #[.slice a l.length c, .func (.func 42) #[] #[.pointer (some ⟨Bn, 0, none⟩)]] w fun e w' => e = .returned (.bool (hasB l nm)) ∧ Below w.heap.size w w' := by
  have H := Lib.hid (indexFunc_any l nm Bn a c w h hl hA)
  clear h hA hl
  go_enter Try.func41, Try.ntmps41
  go_wp2_with fail
  refine H.out.mono ?_
  rintro r w1 ⟨hr, hb⟩
  have HB := Lib.hid hb
  clear hb
  rcases hr with ⟨i, hh, rfl⟩ | ⟨hh, rfl⟩
  · have HH := Lib.hid hh
    clear hh
    go_wp2_with fail
    go_ret
    exact ⟨by rw [HH.out]; rfl, HB.out⟩
  · have HH := Lib.hid hh
    clear hh
    go_wp2_with fail
    go_ret
    exact ⟨by rw [HH.out]; rfl, HB.out⟩
theorem hasAttr_any (l : List (ByteArray × ByteArray)) (nm : ByteArray) (a : Option Addr) (c : Nat) (w : World) (hl : l.length ≤ 20000) (hA : AtIn w.heap.size w a l) :
    Calls Try.prog 31 #[.slice a l.length c, .string nm] w fun e w' => e = .returned (.bool (hasB l nm)) ∧ Below w.heap.size w w' := by
  have HW : Hid (Below w.heap.size w (w.alloc (.cells #[.string nm] 9))) := (Below.refl _ _).alloc (Nat.le_refl _) _
  have H := Lib.hid (containsFunc_any l nm w.heap.size a c (w.alloc (.cells #[.string nm] 9)) (by simp) hl ((hA.below HW.out).up HW.out.size))
  clear hA hl
  go_enter Try.func31, Try.ntmps31
  go_wp2_with fail
  refine H.out.mono ?_
  rintro r w1 ⟨rfl, hb⟩
  have HB := Lib.hid (more HW.out (Nat.le_refl _) hb)
  clear hb
  go_wp2_with fail
  go_ret
  exact ⟨rfl, HB.out⟩
end Go.Proofs.Ytgcjgggnmhcfcaa
