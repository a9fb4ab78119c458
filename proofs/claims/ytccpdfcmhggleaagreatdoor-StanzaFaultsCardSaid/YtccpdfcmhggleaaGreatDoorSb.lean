/- Contracts of the library's searches at package stanza's calls: whether a text is among some; whether an attribute is strange; whether an element may not be in a Load. Condition: the elements are not too much. -/
import Derived.Test.YtccpdfcmhggleaaGreatDoorSa
namespace Go.Proofs.YtccpdfcmhggleaaGreatDoor
open Go.RowKit Go.Lib Go.Shelf Tg St

theorem any_take {α : Type} {l : List α} {k : Nat} {p : α → Bool} (h : k < l.length) : (l.take (k + 1)).any p = ((l.take k).any p || p l[k]) := by
  rw [List.take_succ_eq_append_getElem h, List.any_append]; simp
theorem any_mem {α : Type} {l : List α} {k : Nat} {p : α → Bool} (h : k < l.length) (he : p l[k] = true) : l.any p = true := List.any_eq_true.2 ⟨_, List.getElem_mem h, he⟩
/-- What a search gives. -/
def IxB (b : Bool) (w : World) (e : Ending) (w' : World) : Prop := ((∃ i : Nat, b = true ∧ e = .returned (.int .i64 i)) ∨ (b = false ∧ e = .returned (.int .i64 (-1)))) ∧ Below w.heap.size w w'
/-! ### Texts -/
/-- Behind an address the texts l. -/
def StrS (w : World) (a : Option Addr) (l : List ByteArray) : Prop := ∀ i (h : i < l.length), ∃ b o, a = some ⟨b, o, none⟩ ∧ w.cell? ⟨b, o + i, none⟩ = some (.string l[i])
theorem strs_new (w : World) (l : List ByteArray) (t : TypeId) : StrS (w.alloc (.cells (l.map Value.string).toArray t)) (some ⟨w.heap.size, 0, none⟩) l := by
  intro i hi
  refine ⟨w.heap.size, 0, rfl, ?_⟩
  rw [Lib.cell_of_heap (heap_alloc_new w _)]
  simp [List.getElem?_map, List.getElem?_eq_getElem hi]
set_option maxRecDepth 100000 in
set_option maxHeartbeats 4000000 in
theorem index_str (l : List ByteArray) (v : ByteArray) (a : Option Addr) (c : Nat) (w : World) (hl : l.length ≤ 20000) (hA : StrS w a l) :
    Calls Tryz.prog 80 #[.slice a l.length c, .string v] w (IxB (inB v l) w) := by
  have HA := Lib.hid hA
  have HW : Hid (Below w.heap.size w w) := Below.refl _ _
  unfold inB
  clear hA
  go_enter Tryz.func80, Tryz.ntmps80
  go_wp2_with fail
  go_loop [8] (fun i => ∃ k : Nat, i = .int .i64 k ∧ k ≤ l.length ∧ Hid ((l.take k).any (fun t => eqb v t) = false)) (fun i => l.length - (RowKit.intOf i).toNat)
  case atStart => exact ⟨0, rfl, Nat.zero_le _, rfl⟩
  case round =>
    obtain ⟨k, rfl, hk, HO⟩ := hrel
    by_cases hlt : k < l.length
    · obtain ⟨b, o, rfl, y0⟩ := HA.out k hlt
      have HT := Lib.hid (any_take (p := fun t => eqb v t) hlt)
      have HM := Lib.hid (fun he => any_mem (p := fun t => eqb v t) hlt he)
      generalize l[k] = p at y0 HT HM
      have ht : (v.toList == p.toList) = eqb v p := rfl
      generalize eqb v p = bb at ht HT HM
      cases bb with
      | true =>
        have HM2 : Hid (l.any (fun t => eqb v t) = true) := HM.out rfl
        clear HM
        go_wp2_with fail
        go_ret
        exact ⟨.inl ⟨k, HM2.out, rfl⟩, HW.out⟩
      | false =>
        have HT2 : Hid ((l.take (k + 1)).any (fun t => eqb v t) = false) := by show _ = _; rw [HT.out, HO.out]; rfl
        clear HM HT
        go_wp2_with fail
        go_round
        case rel => exact ⟨k + 1, by go_num, by omega, HT2.out⟩
        case measure => simp [RowKit.intOf]; omega
    · have HN : Hid (l.any (fun t => eqb v t) = false) := by
        have := HO.out
        rw [List.take_of_length_le (by omega)] at this
        exact this
      go_wp2_with fail
      go_ret
      exact ⟨.inr ⟨HN.out, rfl⟩, HW.out⟩
theorem contains_str (l : List ByteArray) (v : ByteArray) (a : Option Addr) (c : Nat) (w : World) (hl : l.length ≤ 20000) (hA : StrS w a l) :
    Calls Tryz.prog 48 #[.slice a l.length c, .string v] w fun e w' => e = .returned (.bool (inB v l)) ∧ Below w.heap.size w w' := by
  have H := Lib.hid (index_str l v a c w hl hA)
  clear hA hl
  go_enter Tryz.func48, Tryz.ntmps48
  go_wp2_with fail
  refine H.out.mono ?_
  rintro r w1 ⟨hr, hb⟩
  have HB := Lib.hid hb
  clear hb
  rcases hr with ⟨i, hh, rfl⟩ | ⟨hh, rfl⟩
  · have HH := Lib.hid hh
    clear hh
    go_wp2_with fail
    go_ret
    exact ⟨by rw [HH.out]; rfl, HB.out⟩
  · have HH := Lib.hid hh
    clear hh
    go_wp2_with fail
    go_ret
    exact ⟨by rw [HH.out]; rfl, HB.out⟩
/-! ### Elements of a Load -/
theorem loadOne_any (e : El) (v : Value) (B : Nat) (w : World) (hin : In B w e v) (hB : B ≤ w.heap.size) (ht : wt e ≤ 20000) :
    Calls Tryz.prog 57 #[v] w fun r w' => r = .returned (.bool (ownB e || !chkB e)) ∧ Below w.heap.size w w' := by
  obtain ⟨aA, cA, aK, cK, rfl, _, _, _, _⟩ := hin.out
  have HW0 : Hid (Below w.heap.size w (w.alloc (.cells #[.string e.sp, .string e.nm, .slice aA e.atr.length cA, .string e.tx, .slice aK e.ks.length cK] 29))) := (Below.refl _ w).alloc (Nat.le_refl _) _
  have HX0 := Lib.hid (box_new w #[.string e.sp, .string e.nm, .slice aA e.atr.length cA, .string e.tx, .slice aK e.ks.length cK] 29)
  have HI := Lib.hid ((hin.stay (HW0.out.mono hB)).mono (Nat.le_trans hB HW0.out.size))
  have C1 := Lib.hid (fun W => isOwn_any e aA aK e.atr.length cA e.ks.length cK e.tx W)
  have C2 : Hid (∀ W, Below (w.alloc (.cells #[.string e.sp, .string e.nm, .slice aA e.atr.length cA, .string e.tx, .slice aK e.ks.length cK] 29)).heap.size (w.alloc (.cells #[.string e.sp, .string e.nm, .slice aA e.atr.length cA, .string e.tx, .slice aK e.ks.length cK] 29)) W → Calls Tryz.prog 27 #[.agg #[.string e.sp, .string e.nm, .slice aA e.atr.length cA, .string e.tx, .slice aK e.ks.length cK]] W fun r w' => r = .returned (.int .i64 (cdt (chkB e))) ∧ Below W.heap.size W w') :=
    fun W hb => check_any e W _ ((HI.out.stay hb).mono hb.size) ht
  clear hin HI ht hB
  generalize ownB e = b1 at C1
  generalize chkB e = b2 at C2
  generalize e.ks.length = nK at *
  generalize e.atr.length = nA at *
  generalize e.sp = sp at *
  generalize e.nm = nm at *
  generalize e.tx = tx at *
  cases b1 with
  | true =>
    go_enter Tryz.func57, Tryz.ntmps57
    go_wp2_with fail
    refine (C1.out _).mono ?_
    rintro r w1 ⟨rfl, hb⟩
    have HB := Lib.hid (more HW0.out (Nat.le_refl _) hb)
    clear hb
    go_wp2_with fail
    go_ret
    exact ⟨rfl, HB.out⟩
  | false =>
    cases b2 <;>
    · go_enter Tryz.func57, Tryz.ntmps57
      go_wp2_with fail
      refine (C1.out _).mono ?_
      rintro r w1 ⟨rfl, hb⟩
      have HB := Lib.hid (more HW0.out (Nat.le_refl _) hb)
      have HC := Lib.hid (C2.out _ hb)
      obtain ⟨x0, x1, x2, x3, x4⟩ := bx5 ((hb.block _ (heap_lt HX0.out)).trans HX0.out)
      clear hb
      unfold cdt at HC
      go_wp2_with fail
      refine HC.out.mono ?_
      rintro r w2 ⟨rfl, hb⟩
      have HB2 := Lib.hid (more HB.out (Nat.le_refl _) hb)
      clear hb
      go_wp2_with fail
      go_ret
      exact ⟨rfl, HB2.out⟩
set_option maxRecDepth 100000 in
set_option maxHeartbeats 4000000 in
theorem elems_ix (l : List El) (a : Option Addr) (c B : Nat) (w : World) (hl : l.length ≤ 20000) (hw : ∀ k ∈ l, wt k ≤ 20000) (hA : KsIn B w a l) (hB : B ≤ w.heap.size) :
    Calls Tryz.prog 82 #[.slice a l.length c, .func (.func 57) #[] #[]] w (IxB (l.any fun x => ownB x || !chkB x) w) := by
  have HWT := Lib.hid hw
  clear hw
  have HA := Lib.hid hA
  have HBB := Lib.hid hB
  have HW : Hid (Below w.heap.size w w) := Below.refl _ _
  clear hA hB
  go_enter Tryz.func82, Tryz.ntmps82
  go_wp2_with fail
  go_loopw [8] (fun i wr => ∃ k : Nat, i = .int .i64 k ∧ k ≤ l.length ∧ Hid ((l.take k).any (fun x => ownB x || !chkB x) = false) ∧ Hid (Below w.heap.size w wr)) (fun i _ => l.length - (RowKit.intOf i).toNat)
  case atStart => exact ⟨0, rfl, Nat.zero_le _, rfl, HW.out⟩
  case round =>
    obtain ⟨k, rfl, hk, HO, HB⟩ := hrel
    by_cases hlt : k < l.length
    · obtain ⟨b, o, a1, c1, a2, c2, rfl, hb, hf5, hkin⟩ := (HA.out.below (HB.out.mono HBB.out)) k hlt
      obtain ⟨y0, y1, y2, y3, y4⟩ := hf5
      have HF := Lib.hid (loadOne_any l[k] _ B wr hkin (Nat.le_trans HBB.out HB.out.size) (HWT.out _ (List.getElem_mem hlt)))
      clear hkin
      have HT := Lib.hid (any_take (p := (fun x => ownB x || !chkB x)) hlt)
      have HM := Lib.hid (fun he => any_mem (p := (fun x => ownB x || !chkB x)) hlt he)
      generalize (ownB l[k] || !chkB l[k]) = bb at HF HT HM
      cases bb with
      | true =>
        have HM2 : Hid (l.any (fun x => ownB x || !chkB x) = true) := HM.out rfl
        clear HM
        go_wp2_with fail
        refine HF.out.mono ?_
        rintro r w1 ⟨rfl, hbb⟩
        have HB1 := Lib.hid (more HB.out (Nat.le_refl _) hbb)
        clear hbb
        go_wp2_with fail
        go_ret
        exact ⟨.inl ⟨k, HM2.out, rfl⟩, HB1.out⟩
      | false =>
        go_wp2_with fail
        refine HF.out.mono ?_
        rintro r w1 ⟨rfl, hbb⟩
        have HB1 := Lib.hid (more HB.out (Nat.le_refl _) hbb)
        have HT2 : Hid ((l.take (k + 1)).any (fun x => ownB x || !chkB x) = false) := by show _ = _; rw [HT.out, HO.out]; rfl
        clear hbb
        go_wp2_with fail
        go_roundw
        case rel => exact ⟨k + 1, by go_num, by omega, HT2.out, HB1.out⟩
        case measure => simp [RowKit.intOf]; omega
    · have HN : Hid (l.any (fun x => ownB x || !chkB x) = false) := by
        have := HO.out
        rw [List.take_of_length_le (by omega)] at this
        exact this
      go_wp2_with fail
      go_ret
      exact ⟨.inr ⟨HN.out, rfl⟩, HB.out⟩
theorem elems_any (l : List El) (a : Option Addr) (c B : Nat) (w : World) (hl : l.length ≤ 20000) (hw : ∀ k ∈ l, wt k ≤ 20000) (hA : KsIn B w a l) (hB : B ≤ w.heap.size) :
    Calls Tryz.prog 56 #[.slice a l.length c, .func (.func 57) #[] #[]] w fun e w' => e = .returned (.bool (l.any fun x => ownB x || !chkB x)) ∧ Below w.heap.size w w' := by
  have H := Lib.hid (elems_ix l a c B w hl hw hA hB)
  clear hA hl hw hB
  go_enter Tryz.func56, Tryz.ntmps56
  go_wp2_with fail
  refine H.out.mono ?_
  rintro r w1 ⟨hr, hb⟩
  have HB := Lib.hid hb
  clear hb
  rcases hr with ⟨i, hh, rfl⟩ | ⟨hh, rfl⟩
  · have HH := Lib.hid hh
    clear hh
    go_wp2_with fail
    go_ret
    exact ⟨by rw [HH.out]; rfl, HB.out⟩
  · have HH := Lib.hid hh
    clear hh
    go_wp2_with fail
    go_ret
    exact ⟨by rw [HH.out]; rfl, HB.out⟩
/-! ### Attributes -/
set_option maxRecDepth 100000 in
set_option maxHeartbeats 4000000 in
theorem attrs_ix (l : List At) (a : Option Addr) (c B : Nat) (w : World) (hl : l.length ≤ 20000) (hA : AtIn B w a l) (hB : B ≤ w.heap.size) :
    Calls Tryz.prog 65 #[.slice a l.length c, .func (.func 31) #[] #[]] w (IxB (l.any fun x => strange x.1) w) := by
  have HA := Lib.hid hA
  have HBB := Lib.hid hB
  have HW : Hid (Below w.heap.size w w) := Below.refl _ _
  clear hA hB
  go_enter Tryz.func65, Tryz.ntmps65
  go_wp2_with fail
  go_loopw [8] (fun i wr => ∃ k : Nat, i = .int .i64 k ∧ k ≤ l.length ∧ Hid ((l.take k).any (fun x => strange x.1) = false) ∧ Hid (Below w.heap.size w wr)) (fun i _ => l.length - (RowKit.intOf i).toNat)
  case atStart => exact ⟨0, rfl, Nat.zero_le _, rfl, HW.out⟩
  case round =>
    obtain ⟨k, rfl, hk, HO, HB⟩ := hrel
    by_cases hlt : k < l.length
    · obtain ⟨b, o, rfl, hb, y0, y1⟩ := (HA.out.below (HB.out.mono HBB.out)) k hlt
      have HF := Lib.hid (isStrange_any l[k].1 l[k].2 wr)
      have HT := Lib.hid (any_take (p := (fun x => strange x.1)) hlt)
      have HM := Lib.hid (fun he => any_mem (p := (fun x => strange x.1)) hlt he)
      generalize strange l[k].1 = bb at HF HT HM
      cases bb with
      | true =>
        have HM2 : Hid (l.any (fun x => strange x.1) = true) := HM.out rfl
        clear HM
        go_wp2_with fail
        refine HF.out.mono ?_
        rintro r w1 ⟨rfl, hbb⟩
        have HB1 := Lib.hid (more HB.out (Nat.le_refl _) hbb)
        clear hbb
        go_wp2_with fail
        go_ret
        exact ⟨.inl ⟨k, HM2.out, rfl⟩, HB1.out⟩
      | false =>
        go_wp2_with fail
        refine HF.out.mono ?_
        rintro r w1 ⟨rfl, hbb⟩
        have HB1 := Lib.hid (more HB.out (Nat.le_refl _) hbb)
        have HT2 : Hid ((l.take (k + 1)).any (fun x => strange x.1) = false) := by show _ = _; rw [HT.out, HO.out]; rfl
        clear hbb
        go_wp2_with fail
        go_roundw
        case rel => exact ⟨k + 1, by go_num, by omega, HT2.out, HB1.out⟩
        case measure => simp [RowKit.intOf]; omega
    · have HN : Hid (l.any (fun x => strange x.1) = false) := by
        have := HO.out
        rw [List.take_of_length_le (by omega)] at this
        exact this
      go_wp2_with fail
      go_ret
      exact ⟨.inr ⟨HN.out, rfl⟩, HB.out⟩
theorem attrs_any (l : List At) (a : Option Addr) (c B : Nat) (w : World) (hl : l.length ≤ 20000) (hA : AtIn B w a l) (hB : B ≤ w.heap.size) :
    Calls Tryz.prog 30 #[.slice a l.length c, .func (.func 31) #[] #[]] w fun e w' => e = .returned (.bool (l.any fun x => strange x.1)) ∧ Below w.heap.size w w' := by
  have H := Lib.hid (attrs_ix l a c B w hl hA hB)
  clear hA hl hB
  go_enter Tryz.func30, Tryz.ntmps30
  go_wp2_with fail
  refine H.out.mono ?_
  rintro r w1 ⟨hr, hb⟩
  have HB := Lib.hid hb
  clear hb
  rcases hr with ⟨i, hh, rfl⟩ | ⟨hh, rfl⟩
  · have HH := Lib.hid hh
    clear hh
    go_wp2_with fail
    go_ret
    exact ⟨by rw [HH.out]; rfl, HB.out⟩
  · have HH := Lib.hid hh
    clear hh
    go_wp2_with fail
    go_ret
    exact ⟨by rw [HH.out]; rfl, HB.out⟩
end Go.Proofs.YtccpdfcmhggleaaGreatDoor
