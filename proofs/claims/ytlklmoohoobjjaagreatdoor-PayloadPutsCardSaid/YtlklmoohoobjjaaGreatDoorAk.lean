/- Package jid: Norm, Check, Parse, Put. Conditions: those of each theorem's head. -/
import Derived.Test.YtlklmoohoobjjaaGreatDoorAj
import Derived.Deep.RegionHeld3
import Derived.BigQuiet

namespace Go.Proofs.YtlklmoohoobjjaaGreatDoor.Jn
open Go.RowKit Go.Lib Go.Shelf Sg Jd

theorem empty_list {s : ByteArray} (h : s.data.toList = []) : s = ⟨#[]⟩ := by rw [mk_eq h]; rfl
theorem nonempty {s : ByteArray} (h : s.data.toList ≠ []) : s.toList.isEmpty = false := by
  rw [ByteArray.toList_eq]
  cases e : s.data.toList with
  | nil => exact absurd e h
  | cons _ _ => rfl
set_option maxHeartbeats 1000000 in
theorem isPart_any (s : ByteArray) (w : World) (hs : s.size ≤ 1048576) :
    Calls Tryz.prog 91 #[.string s] w fun e w' => e = .returned (.bool (okp s.data.toList)) ∧ Below w.heap.size w w' := by
  have HW : Hid (Below w.heap.size w w) := Below.refl _ _
  have hsz : s.data.toList.length = s.size := by simp
  by_cases hl : s.size ≤ 1023
  · have f : decide ((s.size : Int) ≤ 1023) = true := by simp; omega
    by_cases ht : ∃ cs, IsT s.data.toList cs
    · obtain ⟨cs, ht⟩ := ht
      have K := Lib.hid (fun W => check_yes s W hs ht)
      have hany : s.data.toList.any bar4 = cs.any low31 := by rw [ht.2, cat_bar ht.1]
      have C : Hid (∀ W, Calls Tryz.prog 92 #[.string s, .string ⟨#[9, 10, 13, 127]⟩] W fun e w' => e = .returned (.bool (s.data.toList.any bar4)) ∧ Below W.heap.size W w') :=
        fun W => contains_text s ⟨#[9, 10, 13, 127]⟩ W hs (by decide) (by decide) (by decide) ht
      have HE : Hid (okp s.data.toList = !s.data.toList.any bar4) := by
        show _ = _
        rw [okp_text ht, hany, hsz]; simp [hl]
      generalize s.data.toList.any bar4 = b at C HE
      clear ht hany hsz hl hs
      cases b with
      | true =>
        go_enter Tryz.func91, Tryz.ntmps91
        go_wp2_with fail
        refine (K.out _).mono ?_
        rintro r w1 ⟨rfl, hb⟩
        have HB1 := Lib.hid hb
        clear hb
        go_wp2_with fail
        refine (C.out _).mono ?_
        rintro r w2 ⟨rfl, hb⟩
        have HB2 := Lib.hid (HB1.out.trans (hb.mono HB1.out.size))
        clear hb
        go_wp2_with fail
        go_ret
        exact ⟨by rw [HE.out]; rfl, HB2.out⟩
      | false =>
        go_enter Tryz.func91, Tryz.ntmps91
        go_wp2_with fail
        refine (K.out _).mono ?_
        rintro r w1 ⟨rfl, hb⟩
        have HB1 := Lib.hid hb
        clear hb
        go_wp2_with fail
        refine (C.out _).mono ?_
        rintro r w2 ⟨rfl, hb⟩
        have HB2 := Lib.hid (HB1.out.trans (hb.mono HB1.out.size))
        clear hb
        go_wp2_with fail
        go_ret
        exact ⟨by rw [HE.out]; rfl, HB2.out⟩
    · have hno : ∀ cs, ¬ IsT s.data.toList cs := fun cs h => ht ⟨cs, h⟩
      have K := Lib.hid (fun W => check_no s W hs hno)
      have HE := Lib.hid (okp_none hno)
      clear ht hno hsz hl hs
      go_enter Tryz.func91, Tryz.ntmps91
      go_wp2_with fail
      refine (K.out _).mono ?_
      rintro r w1 ⟨rfl, hb⟩
      have HB1 := Lib.hid hb
      clear hb
      go_wp2_with fail
      go_ret
      exact ⟨by rw [HE.out]; rfl, HB1.out⟩
  · have f : decide ((s.size : Int) ≤ 1023) = false := by simp; omega
    have HE : Hid (okp s.data.toList = false) := by
      show _ = _
      rw [Bool.eq_false_iff, ne_eq, okp_iff]
      rintro ⟨h, _⟩
      omega
    clear hsz hl hs
    go_enter Tryz.func91, Tryz.ntmps91
    go_wp2_with fail
    go_ret
    exact ⟨by rw [HE.out]; rfl, HW.out⟩

/-- Block B holds these strings, from cell 0 on. -/
def RowS (B : Nat) (P : List ByteArray) (w : World) : Prop := B < w.heap.size ∧ ∀ j p, P[j]? = some p → w.cell? ⟨B, j, none⟩ = some (.string p)
theorem RowS.below {B : Nat} {P : List ByteArray} {w w' : World} (h : RowS B P w) (hb : Below w.heap.size w w') : RowS B P w' :=
  ⟨Nat.lt_of_lt_of_le h.1 hb.size, fun j p hj => (hb.cell (p := ⟨B, j, none⟩) h.1).trans (h.2 j p hj)⟩
theorem RowS.new (w : World) (P : List ByteArray) (t : TypeId) : RowS w.heap.size P (w.alloc (.cells (P.map Value.string).toArray t)) :=
  ⟨by simp, fun j p hj => by rw [World.cell?_alloc_mark]; simp [hj]⟩
set_option maxHeartbeats 2000000 in
theorem isDomain_any (s : ByteArray) (w : World) (hs : s.size ≤ 1048576) (hp : ∀ p ∈ pcs s, p.size ≤ 1048576) (hn : (pcs s).length ≤ 1048577) :
    Calls Tryz.prog 93 #[.string s] w fun e w' => e = .returned (.bool (dm true s.data.toList)) ∧ Below w.heap.size w w' := by
  have SP := Lib.hid (fun W => split_any s W hs)
  have HE : Hid (((pcs s).all fun p => okPiece p.data.toList) = dm true s.data.toList) := pieces s
  generalize dm true s.data.toList = b at HE ⊢
  generalize pcs s = P at SP HE hp hn
  have HP := Lib.hid hp
  clear hp hs
  go_enter Tryz.func93, Tryz.ntmps93
  go_wp2_with fail
  refine (SP.out _).mono ?_
  rintro r w1 ⟨rfl, hw⟩
  have HR : Hid (RowS w.heap.size P w1) := by subst hw; exact RowS.new w P _
  have HB : Hid (Below w.heap.size w w1) := by subst hw; exact (Below.refl _ _).alloc (Nat.le_refl _) _
  clear hw
  go_wp2_with fail
  go_loopw [8] (fun i wr => ∃ k : Nat, i = .int .i64 k ∧ k ≤ P.length ∧ Hid (∀ p ∈ P.take k, okPiece p.data.toList = true) ∧ Hid (RowS w.heap.size P wr) ∧ Hid (Below w.heap.size w wr)) (fun i _ => P.length - (RowKit.intOf i).toNat)
  case atStart => exact ⟨0, rfl, by omega, (fun p hp => by simp at hp), HR.out, HB.out⟩
  case round =>
    obtain ⟨k, rfl, hk, HK, HR2, HB2⟩ := hrel
    by_cases hlt : k < P.length
    · have hget : P[k]? = some (P[k]'hlt) := List.getElem?_eq_getElem hlt
      have hmem : P[k]'hlt ∈ P := List.getElem_mem hlt
      have hszp := HP.out _ hmem
      have hcell := HR2.out.2 k _ hget
      have HT : Hid (∀ q, q ∈ P.take (k + 1) → q ∈ P.take k ∨ q = P[k]'hlt) := by
        intro q hq
        rw [List.take_succ_eq_append_getElem hlt, List.mem_append, List.mem_singleton] at hq
        exact hq
      have HF : Hid (okPiece (P[k]'hlt).data.toList = false → b = false) := by
        intro h
        rw [← HE.out, List.all_eq_false]
        exact ⟨_, hmem, by rw [h]; exact Bool.false_ne_true⟩
      generalize P[k]'hlt = p at hcell hszp HT HF
      clear hget hmem
      by_cases h0 : p.data.toList = []
      · obtain rfl : p = ⟨#[]⟩ := empty_list h0
        have HF2 := Lib.hid (HF.out (by rfl))
        clear h0
        go_wp2_with fail
        go_ret
        exact ⟨by rw [HF2.out]; rfl, HB2.out⟩
      · have hne := nonempty h0
        have T := Lib.hid (fun W => trimL_any p W hszp)
        cases hall : p.data.toList.all ld with
        | true =>
          have HO : Hid (okPiece p.data.toList = true) := by
            show _ = _
            unfold okPiece
            rw [hall, Bool.and_true, Bool.not_eq_true']
            cases e : p.data.toList with
            | nil => exact absurd e h0
            | cons _ _ => rfl
          have e1 : mk (Lib.trimS p.data.toList letters) = ⟨#[]⟩ := by rw [(trim_empty _).2 hall]; rfl
          rw [e1] at T
          clear h0 hall e1
          go_wp2_with fail
          refine (T.out _).mono ?_
          rintro r w3 ⟨rfl, hb⟩
          have HR3 := Lib.hid (HR2.out.below hb)
          have HB3 := Lib.hid (HB2.out.trans (hb.mono HB2.out.size))
          clear hb hcell
          go_wp2_with fail
          refine ⟨⟨k + 1, by go_num, by omega, fun q hq => ?_, HR3.out, HB3.out⟩, by simp [RowKit.intOf]; omega⟩
          rcases HT.out q hq with h | rfl
          · exact HK.out q h
          · exact HO.out
        | false =>
          have HO : Hid (b = false) := HF.out (by unfold okPiece; rw [hall, Bool.and_false])
          have e1 : Lib.trimS p.data.toList letters ≠ [] := fun e => by rw [(trim_empty _).1 e] at hall; cases hall
          have e2 := nonempty (s := mk (Lib.trimS p.data.toList letters)) (by rw [mk_list]; exact e1)
          generalize mk (Lib.trimS p.data.toList letters) = q at T e2
          clear h0 hall e1
          go_wp2_with fail
          refine (T.out _).mono ?_
          rintro r w3 ⟨rfl, hb⟩
          have HB3 := Lib.hid (HB2.out.trans (hb.mono HB2.out.size))
          clear hb hcell
          go_wp2_with fail
          go_ret
          exact ⟨by rw [HO.out]; rfl, HB3.out⟩
    · have HO : Hid (b = true) := by
        show _ = _
        rw [← HE.out, List.all_eq_true]
        intro p hp
        refine HK.out p ?_
        rw [List.take_of_length_le (by omega)]; exact hp
      go_wp2_with fail
      go_ret
      exact ⟨by rw [HO.out]; rfl, HB2.out⟩

theorem bcell {W w1 : World} (hb : Below W.heap.size W w1) : (∀ b o, b < W.heap.size → w1.cell? ⟨b, o, none⟩ = W.cell? ⟨b, o, none⟩) ∧ (∀ b o, b < W.heap.size → w1.frozen? ⟨b, o, none⟩ = W.frozen? ⟨b, o, none⟩) :=
  ⟨fun b o h => hb.cell (p := ⟨b, o, none⟩) h, fun b o h => hb.frozen (p := ⟨b, o, none⟩) h⟩


end Go.Proofs.YtlklmoohoobjjaaGreatDoor.Jn

namespace Go.Proofs.YtlklmoohoobjjaaGreatDoor.Jn
open Go.RowKit Go.Lib Go.Shelf Sg Jd

/-- What a cell holds, whatever it be. -/
def held (w : World) (p : Addr) : Value := (w.cell? p).getD undef
theorem held_of {w : World} {p : Addr} {v : Value} (h : w.cell? p = some v) : w.cell? p = some (held w p) := by unfold held; rw [h]; rfl
theorem keepB {w : World} {n d r : ByteArray} {W w1 : World} (hb : Below W.heap.size W w1)
    (h : W.cell? ⟨w.heap.size, 0, none⟩ = some (.string n) ∧ W.cell? ⟨w.heap.size, 1, none⟩ = some (.string d) ∧ W.cell? ⟨w.heap.size, 2, none⟩ = some (.string r) ∧ W.cell? ⟨w.heap.size + 1, 0, none⟩ = some (held W ⟨w.heap.size + 1, 0, none⟩) ∧ W.cell? ⟨w.heap.size + 1, 1, none⟩ = some (held W ⟨w.heap.size + 1, 1, none⟩) ∧ W.cell? ⟨w.heap.size + 1, 2, none⟩ = some (held W ⟨w.heap.size + 1, 2, none⟩) ∧ W.frozen? ⟨w.heap.size + 1, 0, none⟩ = false ∧ W.frozen? ⟨w.heap.size + 1, 1, none⟩ = false ∧ W.frozen? ⟨w.heap.size + 1, 2, none⟩ = false ∧ w.heap.size + 1 < W.heap.size ∧ Below w.heap.size w W) : w1.cell? ⟨w.heap.size, 0, none⟩ = some (.string n) ∧ w1.cell? ⟨w.heap.size, 1, none⟩ = some (.string d) ∧ w1.cell? ⟨w.heap.size, 2, none⟩ = some (.string r) ∧ w1.cell? ⟨w.heap.size + 1, 0, none⟩ = some (held w1 ⟨w.heap.size + 1, 0, none⟩) ∧ w1.cell? ⟨w.heap.size + 1, 1, none⟩ = some (held w1 ⟨w.heap.size + 1, 1, none⟩) ∧ w1.cell? ⟨w.heap.size + 1, 2, none⟩ = some (held w1 ⟨w.heap.size + 1, 2, none⟩) ∧ w1.frozen? ⟨w.heap.size + 1, 0, none⟩ = false ∧ w1.frozen? ⟨w.heap.size + 1, 1, none⟩ = false ∧ w1.frozen? ⟨w.heap.size + 1, 2, none⟩ = false ∧ w.heap.size + 1 < w1.heap.size ∧ Below w.heap.size w w1 := by
  obtain ⟨a0, a1, a2, b0, b1, b2, f0, f1, f2, hz, hB⟩ := h
  obtain ⟨hc, hf⟩ := bcell hb
  have hy : w.heap.size < W.heap.size := by omega
  exact ⟨(hc _ _ hy).trans a0, (hc _ _ hy).trans a1, (hc _ _ hy).trans a2, held_of ((hc _ _ hz).trans b0), held_of ((hc _ _ hz).trans b1), held_of ((hc _ _ hz).trans b2),
    (hf _ _ hz).trans f0, (hf _ _ hz).trans f1, (hf _ _ hz).trans f2, Nat.lt_of_lt_of_le hz hb.size, hB.trans (hb.mono hB.size)⟩
theorem set_other {W : World} {p q : Addr} {v : Value} (h : q ≠ p) : (W.setCell p v).cell? q = W.cell? q := World.cell?_setCell_other _ _ _ _ (by first | exact h | exact Ne.symm h)
theorem set_same {W : World} {p : Addr} {u v : Value} (h : W.cell? p = some u) : (W.setCell p v).cell? p = some v := World.cell?_setCell_same _ _ _ h
theorem ne_block {B C i j : Nat} (h : B ≠ C) : (⟨B, i, none⟩ : Addr) ≠ ⟨C, j, none⟩ := fun e => h (by injection e)
theorem ne_off {B i j : Nat} (h : i ≠ j) : (⟨B, i, none⟩ : Addr) ≠ ⟨B, j, none⟩ := fun e => h (by injection e)
theorem keepS {w : World} {n d r : ByteArray} {W : World} {x y z : Value}
    (h : W.cell? ⟨w.heap.size, 0, none⟩ = some (.string n) ∧ W.cell? ⟨w.heap.size, 1, none⟩ = some (.string d) ∧ W.cell? ⟨w.heap.size, 2, none⟩ = some (.string r) ∧ W.cell? ⟨w.heap.size + 1, 0, none⟩ = some (held W ⟨w.heap.size + 1, 0, none⟩) ∧ W.cell? ⟨w.heap.size + 1, 1, none⟩ = some (held W ⟨w.heap.size + 1, 1, none⟩) ∧ W.cell? ⟨w.heap.size + 1, 2, none⟩ = some (held W ⟨w.heap.size + 1, 2, none⟩) ∧ W.frozen? ⟨w.heap.size + 1, 0, none⟩ = false ∧ W.frozen? ⟨w.heap.size + 1, 1, none⟩ = false ∧ W.frozen? ⟨w.heap.size + 1, 2, none⟩ = false ∧ w.heap.size + 1 < W.heap.size ∧ Below w.heap.size w W) : (((W.setCell ⟨w.heap.size + 1, 0, none⟩ x).setCell ⟨w.heap.size + 1, 1, none⟩ y).setCell ⟨w.heap.size + 1, 2, none⟩ z).cell? ⟨w.heap.size, 0, none⟩ = some (.string n) ∧ (((W.setCell ⟨w.heap.size + 1, 0, none⟩ x).setCell ⟨w.heap.size + 1, 1, none⟩ y).setCell ⟨w.heap.size + 1, 2, none⟩ z).cell? ⟨w.heap.size, 1, none⟩ = some (.string d) ∧ (((W.setCell ⟨w.heap.size + 1, 0, none⟩ x).setCell ⟨w.heap.size + 1, 1, none⟩ y).setCell ⟨w.heap.size + 1, 2, none⟩ z).cell? ⟨w.heap.size, 2, none⟩ = some (.string r) ∧ (((W.setCell ⟨w.heap.size + 1, 0, none⟩ x).setCell ⟨w.heap.size + 1, 1, none⟩ y).setCell ⟨w.heap.size + 1, 2, none⟩ z).cell? ⟨w.heap.size + 1, 0, none⟩ = some (held (((W.setCell ⟨w.heap.size + 1, 0, none⟩ x).setCell ⟨w.heap.size + 1, 1, none⟩ y).setCell ⟨w.heap.size + 1, 2, none⟩ z) ⟨w.heap.size + 1, 0, none⟩) ∧ (((W.setCell ⟨w.heap.size + 1, 0, none⟩ x).setCell ⟨w.heap.size + 1, 1, none⟩ y).setCell ⟨w.heap.size + 1, 2, none⟩ z).cell? ⟨w.heap.size + 1, 1, none⟩ = some (held (((W.setCell ⟨w.heap.size + 1, 0, none⟩ x).setCell ⟨w.heap.size + 1, 1, none⟩ y).setCell ⟨w.heap.size + 1, 2, none⟩ z) ⟨w.heap.size + 1, 1, none⟩) ∧ (((W.setCell ⟨w.heap.size + 1, 0, none⟩ x).setCell ⟨w.heap.size + 1, 1, none⟩ y).setCell ⟨w.heap.size + 1, 2, none⟩ z).cell? ⟨w.heap.size + 1, 2, none⟩ = some (held (((W.setCell ⟨w.heap.size + 1, 0, none⟩ x).setCell ⟨w.heap.size + 1, 1, none⟩ y).setCell ⟨w.heap.size + 1, 2, none⟩ z) ⟨w.heap.size + 1, 2, none⟩) ∧ (((W.setCell ⟨w.heap.size + 1, 0, none⟩ x).setCell ⟨w.heap.size + 1, 1, none⟩ y).setCell ⟨w.heap.size + 1, 2, none⟩ z).frozen? ⟨w.heap.size + 1, 0, none⟩ = false ∧ (((W.setCell ⟨w.heap.size + 1, 0, none⟩ x).setCell ⟨w.heap.size + 1, 1, none⟩ y).setCell ⟨w.heap.size + 1, 2, none⟩ z).frozen? ⟨w.heap.size + 1, 1, none⟩ = false ∧ (((W.setCell ⟨w.heap.size + 1, 0, none⟩ x).setCell ⟨w.heap.size + 1, 1, none⟩ y).setCell ⟨w.heap.size + 1, 2, none⟩ z).frozen? ⟨w.heap.size + 1, 2, none⟩ = false ∧ w.heap.size + 1 < (((W.setCell ⟨w.heap.size + 1, 0, none⟩ x).setCell ⟨w.heap.size + 1, 1, none⟩ y).setCell ⟨w.heap.size + 1, 2, none⟩ z).heap.size ∧ Below w.heap.size w (((W.setCell ⟨w.heap.size + 1, 0, none⟩ x).setCell ⟨w.heap.size + 1, 1, none⟩ y).setCell ⟨w.heap.size + 1, 2, none⟩ z) := by
  obtain ⟨a0, a1, a2, b0, b1, b2, f0, f1, f2, hz, hB⟩ := h
  have hne : w.heap.size ≠ w.heap.size + 1 := by omega
  refine ⟨?_, ?_, ?_, ?_, ?_, ?_, ?_, ?_, ?_, ?_, ?_⟩
  · rw [set_other (ne_block hne), set_other (ne_block hne), set_other (ne_block hne), a0]
  · rw [set_other (ne_block hne), set_other (ne_block hne), set_other (ne_block hne), a1]
  · rw [set_other (ne_block hne), set_other (ne_block hne), set_other (ne_block hne), a2]
  · exact held_of (v := x) (by rw [set_other (ne_off (by decide)), set_other (ne_off (by decide)), set_same b0])
  · exact held_of (v := y) (by rw [set_other (ne_off (by decide)), set_same (u := held W ⟨w.heap.size + 1, 1, none⟩) (by rw [set_other (ne_off (by decide))]; exact b1)])
  · exact held_of (v := z) (by rw [set_same (u := held W ⟨w.heap.size + 1, 2, none⟩) (by rw [set_other (ne_off (by decide)), set_other (ne_off (by decide))]; exact b2)])
  · rw [World.frozen?_setCell, World.frozen?_setCell, World.frozen?_setCell, f0]
  · rw [World.frozen?_setCell, World.frozen?_setCell, World.frozen?_setCell, f1]
  · rw [World.frozen?_setCell, World.frozen?_setCell, World.frozen?_setCell, f2]
  · simpa [World.setCell] using hz
  · exact ((hB.setCell (by simp) _).setCell (by simp) _).setCell (by simp) _
theorem below_of {w : World} {n d r : ByteArray} {W : World} (h : W.cell? ⟨w.heap.size, 0, none⟩ = some (.string n) ∧ W.cell? ⟨w.heap.size, 1, none⟩ = some (.string d) ∧ W.cell? ⟨w.heap.size, 2, none⟩ = some (.string r) ∧ W.cell? ⟨w.heap.size + 1, 0, none⟩ = some (held W ⟨w.heap.size + 1, 0, none⟩) ∧ W.cell? ⟨w.heap.size + 1, 1, none⟩ = some (held W ⟨w.heap.size + 1, 1, none⟩) ∧ W.cell? ⟨w.heap.size + 1, 2, none⟩ = some (held W ⟨w.heap.size + 1, 2, none⟩) ∧ W.frozen? ⟨w.heap.size + 1, 0, none⟩ = false ∧ W.frozen? ⟨w.heap.size + 1, 1, none⟩ = false ∧ W.frozen? ⟨w.heap.size + 1, 2, none⟩ = false ∧ w.heap.size + 1 < W.heap.size ∧ Below w.heap.size w W) : Below w.heap.size w W := h.2.2.2.2.2.2.2.2.2.2
theorem cells_of {w : World} {n d r : ByteArray} {W : World} {x y z : Value} (h : W.cell? ⟨w.heap.size, 0, none⟩ = some (.string n) ∧ W.cell? ⟨w.heap.size, 1, none⟩ = some (.string d) ∧ W.cell? ⟨w.heap.size, 2, none⟩ = some (.string r) ∧ W.cell? ⟨w.heap.size + 1, 0, none⟩ = some (held W ⟨w.heap.size + 1, 0, none⟩) ∧ W.cell? ⟨w.heap.size + 1, 1, none⟩ = some (held W ⟨w.heap.size + 1, 1, none⟩) ∧ W.cell? ⟨w.heap.size + 1, 2, none⟩ = some (held W ⟨w.heap.size + 1, 2, none⟩) ∧ W.frozen? ⟨w.heap.size + 1, 0, none⟩ = false ∧ W.frozen? ⟨w.heap.size + 1, 1, none⟩ = false ∧ W.frozen? ⟨w.heap.size + 1, 2, none⟩ = false ∧ w.heap.size + 1 < W.heap.size ∧ Below w.heap.size w W) : (((W.setCell ⟨w.heap.size + 1, 0, none⟩ x).setCell ⟨w.heap.size + 1, 1, none⟩ y).setCell ⟨w.heap.size + 1, 2, none⟩ z).cell? ⟨w.heap.size + 1, 0, none⟩ = some x ∧ (((W.setCell ⟨w.heap.size + 1, 0, none⟩ x).setCell ⟨w.heap.size + 1, 1, none⟩ y).setCell ⟨w.heap.size + 1, 2, none⟩ z).cell? ⟨w.heap.size + 1, 1, none⟩ = some y ∧ (((W.setCell ⟨w.heap.size + 1, 0, none⟩ x).setCell ⟨w.heap.size + 1, 1, none⟩ y).setCell ⟨w.heap.size + 1, 2, none⟩ z).cell? ⟨w.heap.size + 1, 2, none⟩ = some z := by
  obtain ⟨a0, a1, a2, b0, b1, b2, f0, f1, f2, hz, hB⟩ := h
  refine ⟨?_, ?_, ?_⟩
  · rw [set_other (ne_off (by decide)), set_other (ne_off (by decide)), set_same b0]
  · rw [set_other (ne_off (by decide)), set_same (u := held W ⟨w.heap.size + 1, 1, none⟩) (by rw [set_other (ne_off (by decide))]; exact b1)]
  · rw [set_same (u := held W ⟨w.heap.size + 1, 2, none⟩) (by rw [set_other (ne_off (by decide)), set_other (ne_off (by decide))]; exact b2)]

set_option maxRecDepth 100000 in
set_option maxHeartbeats 4000000 in
theorem norm_any (n d r : ByteArray) (w : World) (h1 : n.size ≤ 1048576) (h2 : d.size ≤ 1048576) (h3 : r.size ≤ 1048576) :
    Calls Tryz.prog 72 #[.agg #[.string n, .string d, .string r]] w fun e w' => e = .returned (.agg #[.string (mk (foldL n.data.toList)), .string (mk (Lib.trimSuffix (foldL d.data.toList) [46])), .string r]) ∧ Below w.heap.size w w' := by
  have C1 : Hid (∀ W, Calls Tryz.prog 89 #[.string n] W fun e w' => e = .returned (.string (mk (foldL n.data.toList))) ∧ Below W.heap.size W w') := fun W => fold_any n W (by omega)
  have C2 : Hid (∀ W, Calls Tryz.prog 89 #[.string d] W fun e w' => e = .returned (.string (mk (foldL d.data.toList))) ∧ Below W.heap.size W w') := fun W => fold_any d W (by omega)
  have C3 := Lib.hid (fun W => suffix_any (mk (foldL d.data.toList)) W (by rw [mk_size, foldL_len, ← Lib.size_eq]; exact h2))
  have C4 := Lib.hid (fun W => clone_any r W (by omega))
  rw [mk_list] at C3
  generalize mk (foldL n.data.toList) = N at C1 ⊢
  generalize mk (Lib.trimSuffix (foldL d.data.toList) [46]) = D at C3 ⊢
  generalize mk (foldL d.data.toList) = D0 at C2 C3
  clear h1 h2 h3
  go_enter Tryz.func72, Tryz.ntmps72
  go_wp2_with fail
  have s0 : ((w.alloc (.cells #[.string n, .string d, .string r] 25)).alloc (.cells #[.string ⟨#[]⟩, .string ⟨#[]⟩, .string ⟨#[]⟩] 25)).cell? ⟨w.heap.size, 0, none⟩ = some (.string n) ∧ ((w.alloc (.cells #[.string n, .string d, .string r] 25)).alloc (.cells #[.string ⟨#[]⟩, .string ⟨#[]⟩, .string ⟨#[]⟩] 25)).cell? ⟨w.heap.size, 1, none⟩ = some (.string d) ∧ ((w.alloc (.cells #[.string n, .string d, .string r] 25)).alloc (.cells #[.string ⟨#[]⟩, .string ⟨#[]⟩, .string ⟨#[]⟩] 25)).cell? ⟨w.heap.size, 2, none⟩ = some (.string r) ∧ ((w.alloc (.cells #[.string n, .string d, .string r] 25)).alloc (.cells #[.string ⟨#[]⟩, .string ⟨#[]⟩, .string ⟨#[]⟩] 25)).cell? ⟨w.heap.size + 1, 0, none⟩ = some (held ((w.alloc (.cells #[.string n, .string d, .string r] 25)).alloc (.cells #[.string ⟨#[]⟩, .string ⟨#[]⟩, .string ⟨#[]⟩] 25)) ⟨w.heap.size + 1, 0, none⟩) ∧ ((w.alloc (.cells #[.string n, .string d, .string r] 25)).alloc (.cells #[.string ⟨#[]⟩, .string ⟨#[]⟩, .string ⟨#[]⟩] 25)).cell? ⟨w.heap.size + 1, 1, none⟩ = some (held ((w.alloc (.cells #[.string n, .string d, .string r] 25)).alloc (.cells #[.string ⟨#[]⟩, .string ⟨#[]⟩, .string ⟨#[]⟩] 25)) ⟨w.heap.size + 1, 1, none⟩) ∧ ((w.alloc (.cells #[.string n, .string d, .string r] 25)).alloc (.cells #[.string ⟨#[]⟩, .string ⟨#[]⟩, .string ⟨#[]⟩] 25)).cell? ⟨w.heap.size + 1, 2, none⟩ = some (held ((w.alloc (.cells #[.string n, .string d, .string r] 25)).alloc (.cells #[.string ⟨#[]⟩, .string ⟨#[]⟩, .string ⟨#[]⟩] 25)) ⟨w.heap.size + 1, 2, none⟩) ∧ ((w.alloc (.cells #[.string n, .string d, .string r] 25)).alloc (.cells #[.string ⟨#[]⟩, .string ⟨#[]⟩, .string ⟨#[]⟩] 25)).frozen? ⟨w.heap.size + 1, 0, none⟩ = false ∧ ((w.alloc (.cells #[.string n, .string d, .string r] 25)).alloc (.cells #[.string ⟨#[]⟩, .string ⟨#[]⟩, .string ⟨#[]⟩] 25)).frozen? ⟨w.heap.size + 1, 1, none⟩ = false ∧ ((w.alloc (.cells #[.string n, .string d, .string r] 25)).alloc (.cells #[.string ⟨#[]⟩, .string ⟨#[]⟩, .string ⟨#[]⟩] 25)).frozen? ⟨w.heap.size + 1, 2, none⟩ = false ∧ w.heap.size + 1 < ((w.alloc (.cells #[.string n, .string d, .string r] 25)).alloc (.cells #[.string ⟨#[]⟩, .string ⟨#[]⟩, .string ⟨#[]⟩] 25)).heap.size ∧ Below w.heap.size w ((w.alloc (.cells #[.string n, .string d, .string r] 25)).alloc (.cells #[.string ⟨#[]⟩, .string ⟨#[]⟩, .string ⟨#[]⟩] 25)) := ⟨by simp, by simp, by simp, held_of (v := .string ⟨#[]⟩) (by simp), held_of (v := .string ⟨#[]⟩) (by simp), held_of (v := .string ⟨#[]⟩) (by simp), by simp, by simp, by simp, by simp, ((Below.refl _ _).alloc (Nat.le_refl _) _).alloc (by simp) _⟩
  generalize ((w.alloc (.cells #[.string n, .string d, .string r] 25)).alloc (.cells #[.string ⟨#[]⟩, .string ⟨#[]⟩, .string ⟨#[]⟩] 25)) = w0 at s0 ⊢
  have s1 := keepB (Below.refl _ w0).drew s0
  go_region_held3 (fun w' => w'.cell? ⟨w.heap.size, 0, none⟩ = some (.string n) ∧ w'.cell? ⟨w.heap.size, 1, none⟩ = some (.string d) ∧ w'.cell? ⟨w.heap.size, 2, none⟩ = some (.string r) ∧ w'.cell? ⟨w.heap.size + 1, 0, none⟩ = some (held w' ⟨w.heap.size + 1, 0, none⟩) ∧ w'.cell? ⟨w.heap.size + 1, 1, none⟩ = some (held w' ⟨w.heap.size + 1, 1, none⟩) ∧ w'.cell? ⟨w.heap.size + 1, 2, none⟩ = some (held w' ⟨w.heap.size + 1, 2, none⟩) ∧ w'.frozen? ⟨w.heap.size + 1, 0, none⟩ = false ∧ w'.frozen? ⟨w.heap.size + 1, 1, none⟩ = false ∧ w'.frozen? ⟨w.heap.size + 1, 2, none⟩ = false ∧ w.heap.size + 1 < w'.heap.size ∧ Below w.heap.size w w')
    (first | exact s1 | exact keepB hb (by assumption) | exact keepS (by assumption))
    (first
      | ((go_at_call 89; (with_reducible refine (C1.out _).mono ?_); rintro e w1 ⟨rfl, hb⟩))
      | ((go_at_call 89; (with_reducible refine (C2.out _).mono ?_); rintro e w2 ⟨rfl, hb⟩))
      | ((go_at_call 90; (with_reducible refine (C3.out _).mono ?_); rintro e w3 ⟨rfl, hb⟩))
      | ((go_at_call 48; (with_reducible refine (C4.out _).mono ?_); rintro e w4 ⟨rfl, hb⟩; have k4 := Lib.hid (keepB (w := w) (n := n) (d := d) (r := r) hb (by assumption)))))
  go_wp2_with fail
  have k := cells_of (w := w) (n := n) (d := d) (r := r) (W := w4) (x := .string N) (y := .string D) (z := .string r) k4.out
  obtain ⟨k0, k1, k2⟩ := k
  exact bodyPost_ret (v := .agg #[.string N, .string D, .string r]) (by simp [results, Tryz.results72, go_sem, k0, k1, k2]) rfl ⟨rfl, below_of (w := w) (n := n) (d := d) (r := r) (by assumption)⟩


end Go.Proofs.YtlklmoohoobjjaaGreatDoor.Jn

namespace Go.Proofs.YtlklmoohoobjjaaGreatDoor.Jn
open Go.RowKit Go.Lib

/-- The worlds in which all that lay in w stands as it stood. -/
def Ext (w : World) : Type := { w' : World // Below w.heap.size w w' }
def Ext.to {w : World} (x : Ext w) : World := x.1
theorem Ext.below {w : World} (x : Ext w) : Below w.heap.size w x.to := x.2
instance extSome (w : World) : Nonempty (Ext w) := ⟨⟨w, Below.refl _ _⟩⟩
theorem ext_region {P : Program} {id : Nat} {Q : Exit → Act → World → Prop} {a : Act} {w : World} {l : List Oper} (hm : P.follows .mixedOrders = true) (hB : Region.lexB .any l.toArray = true)
    (h : wpQuiet P l.toArray (fun w' => ∃ x : Ext w, w' = x.to) (fun a' => ∀ w', (∃ x : Ext w, w' = x.to) → Q .normal a' w') l a) : (Code.region id l.toArray true).wp P Q a w :=
  wp_region_quiet (C := fun w' => ∃ x : Ext w, w' = x.to) hm hB ⟨⟨w.drew, (Below.refl _ _).drew⟩, rfl⟩ (by simpa using h)
theorem ext_call {P : Program} {f : FuncId} {args : Array Value} {w : World} (x : Ext w) {v : Value} (h : Calls P f args x.to fun e w' => e = .returned v ∧ Below x.to.heap.size x.to w') :
    Calls P f args x.to fun e w'' => e = .returned v ∧ ∃ y : Ext w, w'' = y.to :=
  h.mono fun _ w'' ⟨he, hb⟩ => ⟨he, ⟨w'', x.below.trans (hb.mono x.below.size)⟩, rfl⟩
theorem ext_same {P : Program} {f : FuncId} {args : Array Value} {w : World} (x : Ext w) {v : Value} (h : Calls P f args x.to fun e w' => e = .returned v ∧ x.to = w') :
    Calls P f args x.to fun e w'' => e = .returned v ∧ ∃ y : Ext w, w'' = y.to :=
  h.mono fun _ _ ⟨he, hb⟩ => ⟨he, x, hb.symm⟩
theorem ext_cell {w : World} (x : Ext w) {p : Addr} {v : Value} (h : w.cell? p = some v) : x.to.cell? p = some v := by
  have hlt := World.block_lt_of_cell? _ _ h
  rw [← h]
  exact x.below.cell hlt


end Go.Proofs.YtlklmoohoobjjaaGreatDoor.Jn

namespace Go.Proofs.YtlklmoohoobjjaaGreatDoor.Jn
open Go.RowKit Go.Lib Go.Shelf Sg Jd

def jd (n d r : ByteArray) : J := ⟨n.data.toList, d.data.toList, r.data.toList⟩
theorem pcs_small {s : ByteArray} (hs : s.size ≤ 1048576) : (∀ p ∈ pcs s, p.size ≤ 1048576) ∧ (pcs s).length ≤ 1048577 := by
  constructor
  · have : ∀ k (s : ByteArray), ∀ p ∈ Lib.splitB ⟨#[46]⟩ 0 k s, p.size ≤ s.size := by
      intro k
      induction k with
      | zero => intro s p hp; simp [Lib.splitB] at hp; subst hp; exact Nat.le_refl _
      | succ k ih =>
        intro s p hp
        rcases Lib.indexB_cases s ⟨#[46]⟩ with hix | ⟨i, hix, hroom⟩
        · rw [Lib.splitB_miss _ _ _ _ hix] at hp; simp at hp; subst hp; exact Nat.le_refl _
        · rw [Lib.splitB_hit _ _ _ _ i hix] at hp
          rcases List.mem_cons.1 hp with rfl | hp
          · rw [ByteArray.size_extract]; omega
          · have := ih _ p hp
            rw [ByteArray.size_extract] at this; omega
    intro p hp
    have := this _ s p hp
    omega
  · rw [pcs_len]
    have := Lib.countB_le ⟨#[46]⟩ (by decide) s.size s (Nat.le_refl _)
    omega
theorem toList_inj {a b : ByteArray} (h : a.toList = b.toList) : a = b := by
  rw [ByteArray.toList_eq, ByteArray.toList_eq] at h
  exact ByteArray.ext (Array.toList_inj.1 h)
def cd (b : Bool) : Int := if b then 0 else 30
theorem cd_f : cd false = 30 := rfl
theorem cd_t : cd true = 0 := rfl
/-- A part that may not be: the first test. -/
theorem not_ok {n d r : ByteArray} (h : ¬ (okp n.data.toList = true ∧ okp d.data.toList = true ∧ okp r.data.toList = true)) : ok (jd n d r) = false := by
  rw [Bool.eq_false_iff, ne_eq, ok_iff]
  rintro ⟨h1, h2, h3, _⟩
  exact h ⟨(okp_iff _).2 h1, (okp_iff _).2 h2, (okp_iff _).2 h3⟩

set_option maxRecDepth 100000 in
set_option maxHeartbeats 4000000 in
theorem check_parts (n d r : ByteArray) (w : World) (h1 : n.size ≤ 1048576) (h2 : d.size ≤ 1048576) (h3 : r.size ≤ 1048576) (a b c : Bool) (ha : okp n.data.toList = a) (hb : okp d.data.toList = b) (hc : okp r.data.toList = c) (hno : (a && b && c) = false) :
    Calls Tryz.prog 73 #[.agg #[.string n, .string d, .string r]] w fun e w' => e = .returned (.int .i64 30) ∧ Below w.heap.size w w' := by
  have P1 := Lib.hid (fun W => isPart_any n W h1)
  have P2 := Lib.hid (fun W => isPart_any d W h2)
  have P3 := Lib.hid (fun W => isPart_any r W h3)
  rw [ha] at P1; rw [hb] at P2; rw [hc] at P3
  clear ha hb hc h1 h2 h3
  cases a
  · clear hno
    go_enter Tryz.func73, Tryz.ntmps73
    go_wp2_with fail
    refine (P1.out _).mono ?_
    rintro e w1 ⟨rfl, hb1⟩
    have b1 : Hid (Below w.heap.size w w1) := ((Below.refl _ _).alloc (Nat.le_refl _) _).trans (hb1.mono (by simp))
    clear hb1
    go_wp2_with fail
    go_ret
    exact ⟨rfl, b1.out⟩
  cases b
  · clear hno
    go_enter Tryz.func73, Tryz.ntmps73
    go_wp2_with fail
    refine (P1.out _).mono ?_
    rintro e w1 ⟨rfl, hb1⟩
    have b1 : Hid (Below w.heap.size w w1) := ((Below.refl _ _).alloc (Nat.le_refl _) _).trans (hb1.mono (by simp))
    obtain ⟨hc1, _⟩ := bcell hb1
    clear hb1
    go_wp2_with fail
    refine (P2.out _).mono ?_
    rintro e w2 ⟨rfl, hb2⟩
    have b2 : Hid (Below w.heap.size w w2) := b1.out.trans (hb2.mono b1.out.size)
    clear hb2 hc1
    go_wp2_with fail
    go_ret
    exact ⟨rfl, b2.out⟩
  cases c
  · clear hno
    go_enter Tryz.func73, Tryz.ntmps73
    go_wp2_with fail
    refine (P1.out _).mono ?_
    rintro e w1 ⟨rfl, hb1⟩
    have b1 : Hid (Below w.heap.size w w1) := ((Below.refl _ _).alloc (Nat.le_refl _) _).trans (hb1.mono (by simp))
    obtain ⟨hc1, _⟩ := bcell hb1
    have hz1 : w.heap.size < w1.heap.size := by have := hb1.size; simp at this; omega
    clear hb1
    go_wp2_with fail
    refine (P2.out _).mono ?_
    rintro e w2 ⟨rfl, hb2⟩
    have b2 : Hid (Below w.heap.size w w2) := b1.out.trans (hb2.mono b1.out.size)
    obtain ⟨hc2, _⟩ := bcell hb2
    clear hb2
    go_wp2_with fail
    refine (P3.out _).mono ?_
    rintro e w3 ⟨rfl, hb3⟩
    have b3 : Hid (Below w.heap.size w w3) := b2.out.trans (hb3.mono b2.out.size)
    clear hb3 hc1 hc2
    go_wp2_with fail
    go_ret
    exact ⟨rfl, b3.out⟩
  · cases hno

set_option maxRecDepth 100000 in
set_option maxHeartbeats 4000000 in
theorem check_rest (n d r N D : ByteArray) (w : World) (v : Bool) (b1 b2 : Bool)
    (P1 : Hid (∀ W, Calls Tryz.prog 91 #[.string n] W fun e w' => e = .returned (.bool true) ∧ Below W.heap.size W w'))
    (P2 : Hid (∀ W, Calls Tryz.prog 91 #[.string d] W fun e w' => e = .returned (.bool true) ∧ Below W.heap.size W w'))
    (P3 : Hid (∀ W, Calls Tryz.prog 91 #[.string r] W fun e w' => e = .returned (.bool true) ∧ Below W.heap.size W w'))
    (NO : Hid (∀ W, Calls Tryz.prog 72 #[.agg #[.string n, .string d, .string r]] W fun e w' => e = .returned (.agg #[.string N, .string D, .string r]) ∧ Below W.heap.size W w'))
    (CA : Hid (∀ W, Calls Tryz.prog 92 #[.string n, .string ⟨#[32, 34, 38, 39, 47, 58, 60, 62, 64]⟩] W fun e w' => e = .returned (.bool b1) ∧ Below W.heap.size W w'))
    (DO : Hid (∀ W, Calls Tryz.prog 93 #[.string d] W fun e w' => e = .returned (.bool b2) ∧ Below W.heap.size W w'))
    (hv : ((decide (n = N) && decide (d = D)) && (!b1 && b2)) = v) :
    Calls Tryz.prog 73 #[.agg #[.string n, .string d, .string r]] w fun e w' => e = .returned (.int .i64 (cd v)) ∧ Below w.heap.size w w' := by
  have HV := Lib.hid hv
  clear hv
  go_enter Tryz.func73, Tryz.ntmps73
  go_wp2_with fail
  refine (P1.out _).mono ?_
  rintro e w1 ⟨rfl, hb1⟩
  have B1 : Hid (Below w.heap.size w w1) := ((Below.refl _ _).alloc (Nat.le_refl _) _).trans (hb1.mono (by simp))
  obtain ⟨hc1, _⟩ := bcell hb1
  have hz1 : w.heap.size < w1.heap.size := by have := hb1.size; simp at this; omega
  clear hb1
  go_wp2_with fail
  refine (P2.out _).mono ?_
  rintro e w2 ⟨rfl, hb2⟩
  have B2 : Hid (Below w.heap.size w w2) := B1.out.trans (hb2.mono B1.out.size)
  obtain ⟨hc2, _⟩ := bcell hb2
  have hz2 : w.heap.size < w2.heap.size := by have := hb2.size; omega
  clear hb2
  go_wp2_with fail
  refine (P3.out _).mono ?_
  rintro e w3 ⟨rfl, hb3⟩
  have B3 : Hid (Below w.heap.size w w3) := B2.out.trans (hb3.mono B2.out.size)
  have c0 : w3.cell? ⟨w.heap.size, 0, none⟩ = some (.string n) := by rw [(bcell hb3).1 _ _ hz2, hc2 _ _ hz1, hc1 _ _ (by simp)]; simp
  have c1 : w3.cell? ⟨w.heap.size, 1, none⟩ = some (.string d) := by rw [(bcell hb3).1 _ _ hz2, hc2 _ _ hz1, hc1 _ _ (by simp)]; simp
  have c2 : w3.cell? ⟨w.heap.size, 2, none⟩ = some (.string r) := by rw [(bcell hb3).1 _ _ hz2, hc2 _ _ hz1, hc1 _ _ (by simp)]; simp
  have x0 : ∀ x : Ext w3, x.to.cell? ⟨w.heap.size, 0, none⟩ = some (.string n) := fun x => ext_cell x c0
  have x1 : ∀ x : Ext w3, x.to.cell? ⟨w.heap.size, 1, none⟩ = some (.string d) := fun x => ext_cell x c1
  have x2 : ∀ x : Ext w3, x.to.cell? ⟨w.heap.size, 2, none⟩ = some (.string r) := fun x => ext_cell x c2
  have hs := extSome w3
  clear hb3 hc1 hc2 hz1 hz2 c0 c1 c2
  go_wp2_with fail
  by_cases hn : n.toList = N.toList
  · by_cases hd : d.toList = D.toList
    · have e1 : n = N := toList_inj hn
      have e2 : d = D := toList_inj hd
      subst e1 e2
      have HV2 : Hid ((!b1 && b2) = v) := by show _ = _; have := HV.out; simpa using this
      clear hn hd HV
      cases b1
      · have HV3 : Hid (b2 = v) := HV2.out
        clear HV2
        cases b2
        · refine ext_region (by kernel_rfl) (by kernel_rfl) ?_
          repeat (go_big_quiet_step ((first | (go_at_call 72; exact ext_call _ (NO.out _)) | (go_at_call 92; exact ext_call _ (CA.out _)) | (go_at_call 93; exact ext_call _ (DO.out _)))))
          refine wpQuiet_nil ?_
          rintro _ ⟨x, hx⟩
          subst hx
          go_wp2_with fail
          go_ret
          exact ⟨by rw [← HV3.out]; rfl, B3.out.trans (x.below.mono B3.out.size)⟩
        · refine ext_region (by kernel_rfl) (by kernel_rfl) ?_
          repeat (go_big_quiet_step ((first | (go_at_call 72; exact ext_call _ (NO.out _)) | (go_at_call 92; exact ext_call _ (CA.out _)) | (go_at_call 93; exact ext_call _ (DO.out _)))))
          refine wpQuiet_nil ?_
          rintro _ ⟨x, hx⟩
          subst hx
          go_wp2_with fail
          go_ret
          exact ⟨by rw [← HV3.out]; rfl, B3.out.trans (x.below.mono B3.out.size)⟩
      · have HV3 : Hid (false = v) := HV2.out
        clear HV2
        refine ext_region (by kernel_rfl) (by kernel_rfl) ?_
        repeat (go_big_quiet_step ((first | (go_at_call 72; exact ext_call _ (NO.out _)) | (go_at_call 92; exact ext_call _ (CA.out _)) | (go_at_call 93; exact ext_call _ (DO.out _)))))
        refine wpQuiet_nil ?_
        rintro _ ⟨x, hx⟩
        subst hx
        go_wp2_with fail
        go_ret
        exact ⟨by rw [← HV3.out]; rfl, B3.out.trans (x.below.mono B3.out.size)⟩
    · have HV3 : Hid (false = v) := by
        have e : decide (d = D) = false := decide_eq_false fun h => hd (by rw [h])
        show _ = _
        have := HV.out
        rw [e] at this
        simpa using this
      clear HV
      refine ext_region (by kernel_rfl) (by kernel_rfl) ?_
      repeat (go_big_quiet_step ((first | (go_at_call 72; exact ext_call _ (NO.out _)))))
      refine wpQuiet_nil ?_
      rintro _ ⟨x, hx⟩
      subst hx
      go_wp2_with fail
      go_ret
      exact ⟨by rw [← HV3.out]; rfl, B3.out.trans (x.below.mono B3.out.size)⟩
  · have HV3 : Hid (false = v) := by
      have e : decide (n = N) = false := decide_eq_false fun h => hn (by rw [h])
      show _ = _
      have := HV.out
      rw [e] at this
      simpa using this
    clear HV
    refine ext_region (by kernel_rfl) (by kernel_rfl) ?_
    repeat (go_big_quiet_step ((first | (go_at_call 72; exact ext_call _ (NO.out _)))))
    refine wpQuiet_nil ?_
    rintro _ ⟨x, hx⟩
    subst hx
    go_wp2_with fail
    go_ret
    exact ⟨by rw [← HV3.out]; rfl, B3.out.trans (x.below.mono B3.out.size)⟩


end Go.Proofs.YtlklmoohoobjjaaGreatDoor.Jn

namespace Go.Proofs.YtlklmoohoobjjaaGreatDoor.Jn
open Go.RowKit Go.Lib Go.Shelf Sg Jd

/-- Beside an error: no address. -/
def noJ : Value := .agg #[.string ⟨#[]⟩, .string ⟨#[]⟩, .string ⟨#[]⟩]
def pv (v : Bool) (N D r : ByteArray) : Value := if v then .tuple #[.agg #[.string N, .string D, .string r], .int .i64 0] else .tuple #[noJ, .int .i64 30]
set_option maxRecDepth 100000 in
set_option maxHeartbeats 4000000 in
theorem parse_bad (s rest res node dom : ByteArray) (w : World) (hasR hasN : Bool)
    (C1 : Hid (∀ W, Calls Tryz.prog 71 #[.string s, .string ⟨#[47]⟩] W fun e w' => e = .returned (.tuple #[.string rest, .string res, .bool hasR]) ∧ Below W.heap.size W w'))
    (C2 : Hid (∀ W, Calls Tryz.prog 71 #[.string rest, .string ⟨#[64]⟩] W fun e w' => e = .returned (.tuple #[.string node, .string dom, .bool hasN]) ∧ Below W.heap.size W w'))
    (hbad : (hasR = true ∧ res = ⟨#[]⟩) ∨ (hasN = true ∧ node = ⟨#[]⟩)) :
    Calls Tryz.prog 58 #[.string s] w fun e w' => e = .returned (.tuple #[noJ, .int .i64 30]) ∧ Below w.heap.size w w' := by
  by_cases h1 : hasR = true ∧ res = ⟨#[]⟩
  · obtain ⟨rfl, rfl⟩ := h1
    clear hbad
    cases hasN
    · go_enter Tryz.func58, Tryz.ntmps58
      go_wp2_with fail
      refine (C1.out _).mono ?_
      rintro e w1 ⟨rfl, hb1⟩
      have B1 : Hid (Below w.heap.size w w1) := ((Below.refl _ _).alloc (Nat.le_refl _) _).trans (hb1.mono (by simp))
      obtain ⟨hc1, hf1⟩ := bcell hb1
      have hz1 : w.heap.size < w1.heap.size := by have := hb1.size; simp at this; omega
      clear hb1
      go_wp2_with fail
      refine (C2.out _).mono ?_
      rintro e w2 ⟨rfl, hb2⟩
      have B2 : Hid (Below w.heap.size w w2) := B1.out.trans (hb2.mono B1.out.size)
      obtain ⟨hc2, hf2⟩ := bcell hb2
      have hz2 : w.heap.size < w2.heap.size := by have := hb2.size; omega
      have c0 : w2.cell? ⟨w.heap.size, 0, none⟩ = some (.string ⟨#[]⟩) := by rw [hc2 _ _ hz1, hc1 _ _ (by simp)]; simp
      have c1 : w2.cell? ⟨w.heap.size, 1, none⟩ = some (.string ⟨#[]⟩) := by rw [hc2 _ _ hz1, hc1 _ _ (by simp)]; simp
      have c2 : w2.cell? ⟨w.heap.size, 2, none⟩ = some (.string ⟨#[]⟩) := by rw [hc2 _ _ hz1, hc1 _ _ (by simp)]; simp
      have z0 : ∀ k, w2.frozen? ⟨w.heap.size, k, none⟩ = false := fun k => by rw [hf2 _ _ hz1, hf1 _ _ (by simp)]; simp
      clear hb2 hc1 hf1 hc2 hf2 hz1
      go_wp2_with fail
      refine bodyPost_ret (v := .tuple #[noJ, .int .i64 30]) (by simp [results, noJ, Tryz.results58, go_sem, c0, c1, c2]) rfl ⟨rfl, ?_⟩
      exact ((B2.out.setCell (Nat.le_refl _) _).setCell (Nat.le_refl _) _).setCell (Nat.le_refl _) _
    · go_enter Tryz.func58, Tryz.ntmps58
      go_wp2_with fail
      refine (C1.out _).mono ?_
      rintro e w1 ⟨rfl, hb1⟩
      have B1 : Hid (Below w.heap.size w w1) := ((Below.refl _ _).alloc (Nat.le_refl _) _).trans (hb1.mono (by simp))
      obtain ⟨hc1, hf1⟩ := bcell hb1
      have hz1 : w.heap.size < w1.heap.size := by have := hb1.size; simp at this; omega
      clear hb1
      go_wp2_with fail
      refine (C2.out _).mono ?_
      rintro e w2 ⟨rfl, hb2⟩
      have B2 : Hid (Below w.heap.size w w2) := B1.out.trans (hb2.mono B1.out.size)
      obtain ⟨hc2, hf2⟩ := bcell hb2
      have hz2 : w.heap.size < w2.heap.size := by have := hb2.size; omega
      have c0 : w2.cell? ⟨w.heap.size, 0, none⟩ = some (.string ⟨#[]⟩) := by rw [hc2 _ _ hz1, hc1 _ _ (by simp)]; simp
      have c1 : w2.cell? ⟨w.heap.size, 1, none⟩ = some (.string ⟨#[]⟩) := by rw [hc2 _ _ hz1, hc1 _ _ (by simp)]; simp
      have c2 : w2.cell? ⟨w.heap.size, 2, none⟩ = some (.string ⟨#[]⟩) := by rw [hc2 _ _ hz1, hc1 _ _ (by simp)]; simp
      have z0 : ∀ k, w2.frozen? ⟨w.heap.size, k, none⟩ = false := fun k => by rw [hf2 _ _ hz1, hf1 _ _ (by simp)]; simp
      clear hb2 hc1 hf1 hc2 hf2 hz1
      go_wp2_with fail
      refine bodyPost_ret (v := .tuple #[noJ, .int .i64 30]) (by simp [results, noJ, Tryz.results58, go_sem, c0, c1, c2]) rfl ⟨rfl, ?_⟩
      exact ((B2.out.setCell (Nat.le_refl _) _).setCell (Nat.le_refl _) _).setCell (Nat.le_refl _) _
  · obtain ⟨rfl, rfl⟩ : hasN = true ∧ node = ⟨#[]⟩ := hbad.resolve_left h1
    clear hbad
    cases hasR
    · clear h1
      go_enter Tryz.func58, Tryz.ntmps58
      go_wp2_with fail
      refine (C1.out _).mono ?_
      rintro e w1 ⟨rfl, hb1⟩
      have B1 : Hid (Below w.heap.size w w1) := ((Below.refl _ _).alloc (Nat.le_refl _) _).trans (hb1.mono (by simp))
      obtain ⟨hc1, hf1⟩ := bcell hb1
      have hz1 : w.heap.size < w1.heap.size := by have := hb1.size; simp at this; omega
      clear hb1
      go_wp2_with fail
      refine (C2.out _).mono ?_
      rintro e w2 ⟨rfl, hb2⟩
      have B2 : Hid (Below w.heap.size w w2) := B1.out.trans (hb2.mono B1.out.size)
      obtain ⟨hc2, hf2⟩ := bcell hb2
      have hz2 : w.heap.size < w2.heap.size := by have := hb2.size; omega
      have c0 : w2.cell? ⟨w.heap.size, 0, none⟩ = some (.string ⟨#[]⟩) := by rw [hc2 _ _ hz1, hc1 _ _ (by simp)]; simp
      have c1 : w2.cell? ⟨w.heap.size, 1, none⟩ = some (.string ⟨#[]⟩) := by rw [hc2 _ _ hz1, hc1 _ _ (by simp)]; simp
      have c2 : w2.cell? ⟨w.heap.size, 2, none⟩ = some (.string ⟨#[]⟩) := by rw [hc2 _ _ hz1, hc1 _ _ (by simp)]; simp
      have z0 : ∀ k, w2.frozen? ⟨w.heap.size, k, none⟩ = false := fun k => by rw [hf2 _ _ hz1, hf1 _ _ (by simp)]; simp
      clear hb2 hc1 hf1 hc2 hf2 hz1
      go_wp2_with fail
      refine bodyPost_ret (v := .tuple #[noJ, .int .i64 30]) (by simp [results, noJ, Tryz.results58, go_sem, c0, c1, c2]) rfl ⟨rfl, ?_⟩
      exact ((B2.out.setCell (Nat.le_refl _) _).setCell (Nat.le_refl _) _).setCell (Nat.le_refl _) _
    · have hne := nonempty (s := res) (fun e => h1 ⟨rfl, empty_list e⟩)
      clear h1
      go_enter Tryz.func58, Tryz.ntmps58
      go_wp2_with fail
      refine (C1.out _).mono ?_
      rintro e w1 ⟨rfl, hb1⟩
      have B1 : Hid (Below w.heap.size w w1) := ((Below.refl _ _).alloc (Nat.le_refl _) _).trans (hb1.mono (by simp))
      obtain ⟨hc1, hf1⟩ := bcell hb1
      have hz1 : w.heap.size < w1.heap.size := by have := hb1.size; simp at this; omega
      clear hb1
      go_wp2_with fail
      refine (C2.out _).mono ?_
      rintro e w2 ⟨rfl, hb2⟩
      have B2 : Hid (Below w.heap.size w w2) := B1.out.trans (hb2.mono B1.out.size)
      obtain ⟨hc2, hf2⟩ := bcell hb2
      have hz2 : w.heap.size < w2.heap.size := by have := hb2.size; omega
      have c0 : w2.cell? ⟨w.heap.size, 0, none⟩ = some (.string ⟨#[]⟩) := by rw [hc2 _ _ hz1, hc1 _ _ (by simp)]; simp
      have c1 : w2.cell? ⟨w.heap.size, 1, none⟩ = some (.string ⟨#[]⟩) := by rw [hc2 _ _ hz1, hc1 _ _ (by simp)]; simp
      have c2 : w2.cell? ⟨w.heap.size, 2, none⟩ = some (.string ⟨#[]⟩) := by rw [hc2 _ _ hz1, hc1 _ _ (by simp)]; simp
      have z0 : ∀ k, w2.frozen? ⟨w.heap.size, k, none⟩ = false := fun k => by rw [hf2 _ _ hz1, hf1 _ _ (by simp)]; simp
      clear hb2 hc1 hf1 hc2 hf2 hz1
      go_wp2_with fail
      refine bodyPost_ret (v := .tuple #[noJ, .int .i64 30]) (by simp [results, noJ, Tryz.results58, go_sem, c0, c1, c2]) rfl ⟨rfl, ?_⟩
      exact ((B2.out.setCell (Nat.le_refl _) _).setCell (Nat.le_refl _) _).setCell (Nat.le_refl _) _

set_option maxRecDepth 100000 in
set_option maxHeartbeats 4000000 in
theorem parse_go (s rest res node dom n d N D : ByteArray) (w : World) (hasR hasN v : Bool)
    (C1 : Hid (∀ W, Calls Tryz.prog 71 #[.string s, .string ⟨#[47]⟩] W fun e w' => e = .returned (.tuple #[.string rest, .string res, .bool hasR]) ∧ Below W.heap.size W w'))
    (C2 : Hid (∀ W, Calls Tryz.prog 71 #[.string rest, .string ⟨#[64]⟩] W fun e w' => e = .returned (.tuple #[.string node, .string dom, .bool hasN]) ∧ Below W.heap.size W w'))
    (NO : Hid (∀ W, Calls Tryz.prog 72 #[.agg #[.string n, .string d, .string res]] W fun e w' => e = .returned (.agg #[.string N, .string D, .string res]) ∧ Below W.heap.size W w'))
    (CK : Hid (∀ W, Calls Tryz.prog 73 #[.agg #[.string N, .string D, .string res]] W fun e w' => e = .returned (.int .i64 (cd v)) ∧ Below W.heap.size W w'))
    (hR : hasR = true → res ≠ ⟨#[]⟩) (hR2 : hasR = false → res = ⟨#[]⟩) (hN : hasN = true → node ≠ ⟨#[]⟩) (hn : n = if hasN = true then node else ⟨#[]⟩) (hd : d = if hasN = true then dom else rest) :
    Calls Tryz.prog 58 #[.string s] w fun e w' => e = .returned (pv v N D res) ∧ Below w.heap.size w w' := by
  cases hasR
  · obtain rfl : res = ⟨#[]⟩ := hR2 rfl
    clear hR hR2
    cases hasN
    · obtain rfl : n = ⟨#[]⟩ := hn
      obtain rfl : d = rest := hd
      clear hN
      go_enter Tryz.func58, Tryz.ntmps58
      go_wp2_with fail
      refine (C1.out _).mono ?_
      rintro e w1 ⟨rfl, hb1⟩
      have B1 : Hid (Below w.heap.size w w1) := ((Below.refl _ _).alloc (Nat.le_refl _) _).trans (hb1.mono (by simp))
      obtain ⟨hc1, hf1⟩ := bcell hb1
      have hz1 : w.heap.size < w1.heap.size := by have := hb1.size; simp at this; omega
      clear hb1
      go_wp2_with fail
      refine (C2.out _).mono ?_
      rintro e w2 ⟨rfl, hb2⟩
      have B2 : Hid (Below w.heap.size w w2) := B1.out.trans (hb2.mono B1.out.size)
      obtain ⟨hc2, hf2⟩ := bcell hb2
      have hz2 : w.heap.size < w2.heap.size := by have := hb2.size; omega
      have c0 : w2.cell? ⟨w.heap.size, 0, none⟩ = some (.string ⟨#[]⟩) := by rw [hc2 _ _ hz1, hc1 _ _ (by simp)]; simp
      have c1 : w2.cell? ⟨w.heap.size, 1, none⟩ = some (.string ⟨#[]⟩) := by rw [hc2 _ _ hz1, hc1 _ _ (by simp)]; simp
      have c2 : w2.cell? ⟨w.heap.size, 2, none⟩ = some (.string ⟨#[]⟩) := by rw [hc2 _ _ hz1, hc1 _ _ (by simp)]; simp
      have z0 : ∀ k, w2.frozen? ⟨w.heap.size, k, none⟩ = false := fun k => by rw [hf2 _ _ hz1, hf1 _ _ (by simp)]; simp
      clear hb2 hc1 hf1 hc2 hf2 hz1
      go_wp2_with fail
      refine (NO.out _).mono ?_
      rintro e w3 ⟨rfl, hb3⟩
      have B3 : Hid (Below w.heap.size w w3) := B2.out.trans (hb3.mono B2.out.size)
      obtain ⟨hc3, hf3⟩ := bcell hb3
      have hz3 : w.heap.size < w3.heap.size := by have := hb3.size; omega
      have d0 : w3.cell? ⟨w.heap.size, 0, none⟩ = some (.string ⟨#[]⟩) := by rw [hc3 _ _ hz2, c0]
      have d1 : w3.cell? ⟨w.heap.size, 1, none⟩ = some (.string ⟨#[]⟩) := by rw [hc3 _ _ hz2, c1]
      have d2 : w3.cell? ⟨w.heap.size, 2, none⟩ = some (.string ⟨#[]⟩) := by rw [hc3 _ _ hz2, c2]
      have y0 : ∀ k, w3.frozen? ⟨w.heap.size, k, none⟩ = false := fun k => by rw [hf3 _ _ hz2, z0]
      clear hb3 hc3 hf3 hz2 c0 c1 c2 z0
      go_wp2_with fail
      refine (CK.out _).mono ?_
      rintro e w4 ⟨rfl, hb4⟩
      have hz4 : w3.heap.size < w4.heap.size := by have := hb4.size; simp at this; omega
      have B4 : Hid (Below w.heap.size w w4) := (B3.out.alloc B3.out.size _).trans (hb4.mono (by have := B3.out.size; simp; omega))
      obtain ⟨hc4, hf4⟩ := bcell hb4
      have e0 : w4.cell? ⟨w.heap.size, 0, none⟩ = some (.string ⟨#[]⟩) := by rw [hc4 _ _ (by simp; omega), World.cell?_alloc_old _ _ _ (Nat.ne_of_lt hz3)]; exact d0
      have e1 : w4.cell? ⟨w.heap.size, 1, none⟩ = some (.string ⟨#[]⟩) := by rw [hc4 _ _ (by simp; omega), World.cell?_alloc_old _ _ _ (Nat.ne_of_lt hz3)]; exact d1
      have e2 : w4.cell? ⟨w.heap.size, 2, none⟩ = some (.string ⟨#[]⟩) := by rw [hc4 _ _ (by simp; omega), World.cell?_alloc_old _ _ _ (Nat.ne_of_lt hz3)]; exact d2
      have x0 : ∀ k, w4.frozen? ⟨w.heap.size, k, none⟩ = false := fun k => ((hf4 _ _ (by simp; omega)).trans (((Below.refl _ w3).alloc (Nat.le_refl _) _).frozen (p := ⟨w.heap.size, k, none⟩) hz3)).trans (y0 k)
      have n0 : w4.cell? ⟨w3.heap.size, 0, none⟩ = some (.string N) := by rw [hc4 _ _ (by simp)]; simp
      have n1 : w4.cell? ⟨w3.heap.size, 1, none⟩ = some (.string D) := by rw [hc4 _ _ (by simp)]; simp
      have n2 : w4.cell? ⟨w3.heap.size, 2, none⟩ = some (.string ⟨#[]⟩) := by rw [hc4 _ _ (by simp)]; simp
      clear hb4 hc4 hf4 hz3 d0 d1 d2 y0
      cases v
      · have hv : bne (cd false) 0 = true := rfl
        go_wp2_with fail
        refine bodyPost_ret (v := .tuple #[noJ, .int .i64 30]) (by simp [results, noJ, Tryz.results58, go_sem, e0, e1, e2]) rfl ⟨rfl, ?_⟩
        exact ((B4.out.setCell (Nat.le_refl _) _).setCell (Nat.le_refl _) _).setCell (Nat.le_refl _) _
      · have hv : bne (cd true) 0 = false := rfl
        go_wp2_with fail
        refine bodyPost_ret (v := .tuple #[.agg #[.string N, .string D, .string ⟨#[]⟩], .int .i64 0]) (by simp [results, Tryz.results58, go_sem, e0, e1, e2]) rfl ⟨rfl, ?_⟩
        exact ((B4.out.setCell (Nat.le_refl _) _).setCell (Nat.le_refl _) _).setCell (Nat.le_refl _) _
    · obtain rfl : n = node := hn
      obtain rfl : d = dom := hd
      have hne := nonempty (s := n) (fun e => hN rfl (empty_list e))
      clear hN
      go_enter Tryz.func58, Tryz.ntmps58
      go_wp2_with fail
      refine (C1.out _).mono ?_
      rintro e w1 ⟨rfl, hb1⟩
      have B1 : Hid (Below w.heap.size w w1) := ((Below.refl _ _).alloc (Nat.le_refl _) _).trans (hb1.mono (by simp))
      obtain ⟨hc1, hf1⟩ := bcell hb1
      have hz1 : w.heap.size < w1.heap.size := by have := hb1.size; simp at this; omega
      clear hb1
      go_wp2_with fail
      refine (C2.out _).mono ?_
      rintro e w2 ⟨rfl, hb2⟩
      have B2 : Hid (Below w.heap.size w w2) := B1.out.trans (hb2.mono B1.out.size)
      obtain ⟨hc2, hf2⟩ := bcell hb2
      have hz2 : w.heap.size < w2.heap.size := by have := hb2.size; omega
      have c0 : w2.cell? ⟨w.heap.size, 0, none⟩ = some (.string ⟨#[]⟩) := by rw [hc2 _ _ hz1, hc1 _ _ (by simp)]; simp
      have c1 : w2.cell? ⟨w.heap.size, 1, none⟩ = some (.string ⟨#[]⟩) := by rw [hc2 _ _ hz1, hc1 _ _ (by simp)]; simp
      have c2 : w2.cell? ⟨w.heap.size, 2, none⟩ = some (.string ⟨#[]⟩) := by rw [hc2 _ _ hz1, hc1 _ _ (by simp)]; simp
      have z0 : ∀ k, w2.frozen? ⟨w.heap.size, k, none⟩ = false := fun k => by rw [hf2 _ _ hz1, hf1 _ _ (by simp)]; simp
      clear hb2 hc1 hf1 hc2 hf2 hz1
      go_wp2_with fail
      refine (NO.out _).mono ?_
      rintro e w3 ⟨rfl, hb3⟩
      have B3 : Hid (Below w.heap.size w w3) := B2.out.trans (hb3.mono B2.out.size)
      obtain ⟨hc3, hf3⟩ := bcell hb3
      have hz3 : w.heap.size < w3.heap.size := by have := hb3.size; omega
      have d0 : w3.cell? ⟨w.heap.size, 0, none⟩ = some (.string ⟨#[]⟩) := by rw [hc3 _ _ hz2, c0]
      have d1 : w3.cell? ⟨w.heap.size, 1, none⟩ = some (.string ⟨#[]⟩) := by rw [hc3 _ _ hz2, c1]
      have d2 : w3.cell? ⟨w.heap.size, 2, none⟩ = some (.string ⟨#[]⟩) := by rw [hc3 _ _ hz2, c2]
      have y0 : ∀ k, w3.frozen? ⟨w.heap.size, k, none⟩ = false := fun k => by rw [hf3 _ _ hz2, z0]
      clear hb3 hc3 hf3 hz2 c0 c1 c2 z0
      go_wp2_with fail
      refine (CK.out _).mono ?_
      rintro e w4 ⟨rfl, hb4⟩
      have hz4 : w3.heap.size < w4.heap.size := by have := hb4.size; simp at this; omega
      have B4 : Hid (Below w.heap.size w w4) := (B3.out.alloc B3.out.size _).trans (hb4.mono (by have := B3.out.size; simp; omega))
      obtain ⟨hc4, hf4⟩ := bcell hb4
      have e0 : w4.cell? ⟨w.heap.size, 0, none⟩ = some (.string ⟨#[]⟩) := by rw [hc4 _ _ (by simp; omega), World.cell?_alloc_old _ _ _ (Nat.ne_of_lt hz3)]; exact d0
      have e1 : w4.cell? ⟨w.heap.size, 1, none⟩ = some (.string ⟨#[]⟩) := by rw [hc4 _ _ (by simp; omega), World.cell?_alloc_old _ _ _ (Nat.ne_of_lt hz3)]; exact d1
      have e2 : w4.cell? ⟨w.heap.size, 2, none⟩ = some (.string ⟨#[]⟩) := by rw [hc4 _ _ (by simp; omega), World.cell?_alloc_old _ _ _ (Nat.ne_of_lt hz3)]; exact d2
      have x0 : ∀ k, w4.frozen? ⟨w.heap.size, k, none⟩ = false := fun k => ((hf4 _ _ (by simp; omega)).trans (((Below.refl _ w3).alloc (Nat.le_refl _) _).frozen (p := ⟨w.heap.size, k, none⟩) hz3)).trans (y0 k)
      have n0 : w4.cell? ⟨w3.heap.size, 0, none⟩ = some (.string N) := by rw [hc4 _ _ (by simp)]; simp
      have n1 : w4.cell? ⟨w3.heap.size, 1, none⟩ = some (.string D) := by rw [hc4 _ _ (by simp)]; simp
      have n2 : w4.cell? ⟨w3.heap.size, 2, none⟩ = some (.string ⟨#[]⟩) := by rw [hc4 _ _ (by simp)]; simp
      clear hb4 hc4 hf4 hz3 d0 d1 d2 y0
      cases v
      · have hv : bne (cd false) 0 = true := rfl
        go_wp2_with fail
        refine bodyPost_ret (v := .tuple #[noJ, .int .i64 30]) (by simp [results, noJ, Tryz.results58, go_sem, e0, e1, e2]) rfl ⟨rfl, ?_⟩
        exact ((B4.out.setCell (Nat.le_refl _) _).setCell (Nat.le_refl _) _).setCell (Nat.le_refl _) _
      · have hv : bne (cd true) 0 = false := rfl
        go_wp2_with fail
        refine bodyPost_ret (v := .tuple #[.agg #[.string N, .string D, .string ⟨#[]⟩], .int .i64 0]) (by simp [results, Tryz.results58, go_sem, e0, e1, e2]) rfl ⟨rfl, ?_⟩
        exact ((B4.out.setCell (Nat.le_refl _) _).setCell (Nat.le_refl _) _).setCell (Nat.le_refl _) _
  · have hner := nonempty (s := res) (fun e => hR rfl (empty_list e))
    clear hR hR2
    cases hasN
    · obtain rfl : n = ⟨#[]⟩ := hn
      obtain rfl : d = rest := hd
      clear hN
      go_enter Tryz.func58, Tryz.ntmps58
      go_wp2_with fail
      refine (C1.out _).mono ?_
      rintro e w1 ⟨rfl, hb1⟩
      have B1 : Hid (Below w.heap.size w w1) := ((Below.refl _ _).alloc (Nat.le_refl _) _).trans (hb1.mono (by simp))
      obtain ⟨hc1, hf1⟩ := bcell hb1
      have hz1 : w.heap.size < w1.heap.size := by have := hb1.size; simp at this; omega
      clear hb1
      go_wp2_with fail
      refine (C2.out _).mono ?_
      rintro e w2 ⟨rfl, hb2⟩
      have B2 : Hid (Below w.heap.size w w2) := B1.out.trans (hb2.mono B1.out.size)
      obtain ⟨hc2, hf2⟩ := bcell hb2
      have hz2 : w.heap.size < w2.heap.size := by have := hb2.size; omega
      have c0 : w2.cell? ⟨w.heap.size, 0, none⟩ = some (.string ⟨#[]⟩) := by rw [hc2 _ _ hz1, hc1 _ _ (by simp)]; simp
      have c1 : w2.cell? ⟨w.heap.size, 1, none⟩ = some (.string ⟨#[]⟩) := by rw [hc2 _ _ hz1, hc1 _ _ (by simp)]; simp
      have c2 : w2.cell? ⟨w.heap.size, 2, none⟩ = some (.string ⟨#[]⟩) := by rw [hc2 _ _ hz1, hc1 _ _ (by simp)]; simp
      have z0 : ∀ k, w2.frozen? ⟨w.heap.size, k, none⟩ = false := fun k => by rw [hf2 _ _ hz1, hf1 _ _ (by simp)]; simp
      clear hb2 hc1 hf1 hc2 hf2 hz1
      go_wp2_with fail
      refine (NO.out _).mono ?_
      rintro e w3 ⟨rfl, hb3⟩
      have B3 : Hid (Below w.heap.size w w3) := B2.out.trans (hb3.mono B2.out.size)
      obtain ⟨hc3, hf3⟩ := bcell hb3
      have hz3 : w.heap.size < w3.heap.size := by have := hb3.size; omega
      have d0 : w3.cell? ⟨w.heap.size, 0, none⟩ = some (.string ⟨#[]⟩) := by rw [hc3 _ _ hz2, c0]
      have d1 : w3.cell? ⟨w.heap.size, 1, none⟩ = some (.string ⟨#[]⟩) := by rw [hc3 _ _ hz2, c1]
      have d2 : w3.cell? ⟨w.heap.size, 2, none⟩ = some (.string ⟨#[]⟩) := by rw [hc3 _ _ hz2, c2]
      have y0 : ∀ k, w3.frozen? ⟨w.heap.size, k, none⟩ = false := fun k => by rw [hf3 _ _ hz2, z0]
      clear hb3 hc3 hf3 hz2 c0 c1 c2 z0
      go_wp2_with fail
      refine (CK.out _).mono ?_
      rintro e w4 ⟨rfl, hb4⟩
      have hz4 : w3.heap.size < w4.heap.size := by have := hb4.size; simp at this; omega
      have B4 : Hid (Below w.heap.size w w4) := (B3.out.alloc B3.out.size _).trans (hb4.mono (by have := B3.out.size; simp; omega))
      obtain ⟨hc4, hf4⟩ := bcell hb4
      have e0 : w4.cell? ⟨w.heap.size, 0, none⟩ = some (.string ⟨#[]⟩) := by rw [hc4 _ _ (by simp; omega), World.cell?_alloc_old _ _ _ (Nat.ne_of_lt hz3)]; exact d0
      have e1 : w4.cell? ⟨w.heap.size, 1, none⟩ = some (.string ⟨#[]⟩) := by rw [hc4 _ _ (by simp; omega), World.cell?_alloc_old _ _ _ (Nat.ne_of_lt hz3)]; exact d1
      have e2 : w4.cell? ⟨w.heap.size, 2, none⟩ = some (.string ⟨#[]⟩) := by rw [hc4 _ _ (by simp; omega), World.cell?_alloc_old _ _ _ (Nat.ne_of_lt hz3)]; exact d2
      have x0 : ∀ k, w4.frozen? ⟨w.heap.size, k, none⟩ = false := fun k => ((hf4 _ _ (by simp; omega)).trans (((Below.refl _ w3).alloc (Nat.le_refl _) _).frozen (p := ⟨w.heap.size, k, none⟩) hz3)).trans (y0 k)
      have n0 : w4.cell? ⟨w3.heap.size, 0, none⟩ = some (.string N) := by rw [hc4 _ _ (by simp)]; simp
      have n1 : w4.cell? ⟨w3.heap.size, 1, none⟩ = some (.string D) := by rw [hc4 _ _ (by simp)]; simp
      have n2 : w4.cell? ⟨w3.heap.size, 2, none⟩ = some (.string res) := by rw [hc4 _ _ (by simp)]; simp
      clear hb4 hc4 hf4 hz3 d0 d1 d2 y0
      cases v
      · have hv : bne (cd false) 0 = true := rfl
        go_wp2_with fail
        refine bodyPost_ret (v := .tuple #[noJ, .int .i64 30]) (by simp [results, noJ, Tryz.results58, go_sem, e0, e1, e2]) rfl ⟨rfl, ?_⟩
        exact ((B4.out.setCell (Nat.le_refl _) _).setCell (Nat.le_refl _) _).setCell (Nat.le_refl _) _
      · have hv : bne (cd true) 0 = false := rfl
        go_wp2_with fail
        refine bodyPost_ret (v := .tuple #[.agg #[.string N, .string D, .string res], .int .i64 0]) (by simp [results, Tryz.results58, go_sem, e0, e1, e2]) rfl ⟨rfl, ?_⟩
        exact ((B4.out.setCell (Nat.le_refl _) _).setCell (Nat.le_refl _) _).setCell (Nat.le_refl _) _
    · obtain rfl : n = node := hn
      obtain rfl : d = dom := hd
      have hne := nonempty (s := n) (fun e => hN rfl (empty_list e))
      clear hN
      go_enter Tryz.func58, Tryz.ntmps58
      go_wp2_with fail
      refine (C1.out _).mono ?_
      rintro e w1 ⟨rfl, hb1⟩
      have B1 : Hid (Below w.heap.size w w1) := ((Below.refl _ _).alloc (Nat.le_refl _) _).trans (hb1.mono (by simp))
      obtain ⟨hc1, hf1⟩ := bcell hb1
      have hz1 : w.heap.size < w1.heap.size := by have := hb1.size; simp at this; omega
      clear hb1
      go_wp2_with fail
      refine (C2.out _).mono ?_
      rintro e w2 ⟨rfl, hb2⟩
      have B2 : Hid (Below w.heap.size w w2) := B1.out.trans (hb2.mono B1.out.size)
      obtain ⟨hc2, hf2⟩ := bcell hb2
      have hz2 : w.heap.size < w2.heap.size := by have := hb2.size; omega
      have c0 : w2.cell? ⟨w.heap.size, 0, none⟩ = some (.string ⟨#[]⟩) := by rw [hc2 _ _ hz1, hc1 _ _ (by simp)]; simp
      have c1 : w2.cell? ⟨w.heap.size, 1, none⟩ = some (.string ⟨#[]⟩) := by rw [hc2 _ _ hz1, hc1 _ _ (by simp)]; simp
      have c2 : w2.cell? ⟨w.heap.size, 2, none⟩ = some (.string ⟨#[]⟩) := by rw [hc2 _ _ hz1, hc1 _ _ (by simp)]; simp
      have z0 : ∀ k, w2.frozen? ⟨w.heap.size, k, none⟩ = false := fun k => by rw [hf2 _ _ hz1, hf1 _ _ (by simp)]; simp
      clear hb2 hc1 hf1 hc2 hf2 hz1
      go_wp2_with fail
      refine (NO.out _).mono ?_
      rintro e w3 ⟨rfl, hb3⟩
      have B3 : Hid (Below w.heap.size w w3) := B2.out.trans (hb3.mono B2.out.size)
      obtain ⟨hc3, hf3⟩ := bcell hb3
      have hz3 : w.heap.size < w3.heap.size := by have := hb3.size; omega
      have d0 : w3.cell? ⟨w.heap.size, 0, none⟩ = some (.string ⟨#[]⟩) := by rw [hc3 _ _ hz2, c0]
      have d1 : w3.cell? ⟨w.heap.size, 1, none⟩ = some (.string ⟨#[]⟩) := by rw [hc3 _ _ hz2, c1]
      have d2 : w3.cell? ⟨w.heap.size, 2, none⟩ = some (.string ⟨#[]⟩) := by rw [hc3 _ _ hz2, c2]
      have y0 : ∀ k, w3.frozen? ⟨w.heap.size, k, none⟩ = false := fun k => by rw [hf3 _ _ hz2, z0]
      clear hb3 hc3 hf3 hz2 c0 c1 c2 z0
      go_wp2_with fail
      refine (CK.out _).mono ?_
      rintro e w4 ⟨rfl, hb4⟩
      have hz4 : w3.heap.size < w4.heap.size := by have := hb4.size; simp at this; omega
      have B4 : Hid (Below w.heap.size w w4) := (B3.out.alloc B3.out.size _).trans (hb4.mono (by have := B3.out.size; simp; omega))
      obtain ⟨hc4, hf4⟩ := bcell hb4
      have e0 : w4.cell? ⟨w.heap.size, 0, none⟩ = some (.string ⟨#[]⟩) := by rw [hc4 _ _ (by simp; omega), World.cell?_alloc_old _ _ _ (Nat.ne_of_lt hz3)]; exact d0
      have e1 : w4.cell? ⟨w.heap.size, 1, none⟩ = some (.string ⟨#[]⟩) := by rw [hc4 _ _ (by simp; omega), World.cell?_alloc_old _ _ _ (Nat.ne_of_lt hz3)]; exact d1
      have e2 : w4.cell? ⟨w.heap.size, 2, none⟩ = some (.string ⟨#[]⟩) := by rw [hc4 _ _ (by simp; omega), World.cell?_alloc_old _ _ _ (Nat.ne_of_lt hz3)]; exact d2
      have x0 : ∀ k, w4.frozen? ⟨w.heap.size, k, none⟩ = false := fun k => ((hf4 _ _ (by simp; omega)).trans (((Below.refl _ w3).alloc (Nat.le_refl _) _).frozen (p := ⟨w.heap.size, k, none⟩) hz3)).trans (y0 k)
      have n0 : w4.cell? ⟨w3.heap.size, 0, none⟩ = some (.string N) := by rw [hc4 _ _ (by simp)]; simp
      have n1 : w4.cell? ⟨w3.heap.size, 1, none⟩ = some (.string D) := by rw [hc4 _ _ (by simp)]; simp
      have n2 : w4.cell? ⟨w3.heap.size, 2, none⟩ = some (.string res) := by rw [hc4 _ _ (by simp)]; simp
      clear hb4 hc4 hf4 hz3 d0 d1 d2 y0
      cases v
      · have hv : bne (cd false) 0 = true := rfl
        go_wp2_with fail
        refine bodyPost_ret (v := .tuple #[noJ, .int .i64 30]) (by simp [results, noJ, Tryz.results58, go_sem, e0, e1, e2]) rfl ⟨rfl, ?_⟩
        exact ((B4.out.setCell (Nat.le_refl _) _).setCell (Nat.le_refl _) _).setCell (Nat.le_refl _) _
      · have hv : bne (cd true) 0 = false := rfl
        go_wp2_with fail
        refine bodyPost_ret (v := .tuple #[.agg #[.string N, .string D, .string res], .int .i64 0]) (by simp [results, Tryz.results58, go_sem, e0, e1, e2]) rfl ⟨rfl, ?_⟩
        exact ((B4.out.setCell (Nat.le_refl _) _).setCell (Nat.le_refl _) _).setCell (Nat.le_refl _) _


end Go.Proofs.YtlklmoohoobjjaaGreatDoor.Jn

namespace Go.Proofs.YtlklmoohoobjjaaGreatDoor.Jn
open Go.RowKit Go.Lib Go.Shelf Sg Jd

theorem low_up {b : UInt8} (h : low b = b) : up b = false := by
  have h1 := congrArg UInt8.toNat h
  rw [low_nat] at h1
  unfold lowN at h1
  unfold up
  rw [Bool.eq_false_iff]
  intro e
  simp at e
  rw [if_pos e] at h1
  omega
theorem fold_up : ∀ {l : List UInt8}, foldL l = l → l.any up = false
  | [], _ => rfl
  | b :: l, h => by
    rw [fold_cons] at h
    injection h with h1 h2
    rw [List.any_cons, low_up h1, fold_up h2]; rfl
/-- The three tests of Check, behind the parts. -/
theorem ok_rest {n d r : ByteArray} (h1 : okp n.data.toList = true) (h2 : okp d.data.toList = true) (h3 : okp r.data.toList = true) :
    ((decide (n = mk (foldL n.data.toList)) && decide (d = mk (Lib.trimSuffix (foldL d.data.toList) [46]))) && (!n.data.toList.any barN && dm true d.data.toList)) = ok (jd n d r) := by
  rw [Bool.eq_iff_iff, ok_iff]
  simp only [Bool.and_eq_true, decide_eq_true_eq, Bool.not_eq_true']
  constructor
  · rintro ⟨⟨a, b⟩, c, e⟩
    have a' : foldL n.data.toList = n.data.toList := by rw [← mk_of n] at a; rw [mk_list] at a; exact (mk_inj.1 a).symm
    exact ⟨(okp_iff _).1 h1, (okp_iff _).1 h2, (okp_iff _).1 h3, fold_up a', c, e⟩
  · intro h
    have hn := norm_ok h
    obtain ⟨_, _, _, h4, h5, h6⟩ := h
    have e1 : foldL n.data.toList = n.data.toList := congrArg J.n hn
    have e2 : Lib.trimSuffix (foldL d.data.toList) [46] = d.data.toList := congrArg J.d hn
    rw [e1, e2, mk_of, mk_of]
    exact ⟨⟨rfl, rfl⟩, h5, h6⟩
theorem barN_text (n : ByteArray) (W : World) (hs : n.size ≤ 1048576) {cs : List Nat} (ht : IsT n.data.toList cs) :
    Calls Tryz.prog 92 #[.string n, .string ⟨#[32, 34, 38, 39, 47, 58, 60, 62, 64]⟩] W fun e w' => e = .returned (.bool (n.data.toList.any barN)) ∧ Below W.heap.size W w' :=
  contains_text n ⟨#[32, 34, 38, 39, 47, 58, 60, 62, 64]⟩ W hs (by decide) (by decide) (by decide) ht
theorem check_any (n d r : ByteArray) (w : World) (h1 : n.size ≤ 1048576) (h2 : d.size ≤ 1048576) (h3 : r.size ≤ 1048576) :
    Calls Tryz.prog 73 #[.agg #[.string n, .string d, .string r]] w fun e w' => e = .returned (.int .i64 (cd (ok (jd n d r)))) ∧ Below w.heap.size w w' := by
  by_cases hp : okp n.data.toList = true ∧ okp d.data.toList = true ∧ okp r.data.toList = true
  · obtain ⟨p1, p2, p3⟩ := hp
    obtain ⟨_, ⟨cs, ht⟩, _⟩ := (okp_iff _).1 p1
    obtain ⟨q1, q2⟩ := pcs_small h2
    refine check_rest n d r (mk (foldL n.data.toList)) (mk (Lib.trimSuffix (foldL d.data.toList) [46])) w _ (n.data.toList.any barN) (dm true d.data.toList) ?_ ?_ ?_ ?_ ?_ ?_ (ok_rest p1 p2 p3)
    · exact fun W => by have := isPart_any n W h1; rwa [p1] at this
    · exact fun W => by have := isPart_any d W h2; rwa [p2] at this
    · exact fun W => by have := isPart_any r W h3; rwa [p3] at this
    · exact fun W => norm_any n d r W h1 h2 h3
    · exact fun W => barN_text n W h1 ht
    · exact fun W => isDomain_any d W h2 q1 q2
  · rw [not_ok hp]
    refine check_parts n d r w h1 h2 h3 _ _ _ rfl rfl rfl ?_
    rw [Bool.eq_false_iff]
    intro e
    simp only [Bool.and_eq_true] at e
    exact hp ⟨e.1.1, e.1.2, e.2⟩

/-! ### Parse -/
def bj (j : J) : Value := .agg #[.string (mk j.n), .string (mk j.d), .string (mk j.r)]
def pj : Option J → Value
  | none => .tuple #[noJ, .int .i64 30]
  | some j => .tuple #[bj j, .int .i64 0]
theorem norm_mk (j : J) : norm j = ⟨foldL j.n, Lib.trimSuffix (foldL j.d) [46], j.r⟩ := rfl
theorem pv_fin (n d r : List UInt8) : pv (ok (jd (mk (foldL n)) (mk (Lib.trimSuffix (foldL d) [46])) (mk r))) (mk (foldL n)) (mk (Lib.trimSuffix (foldL d) [46])) (mk r) = pj (fin ⟨n, d, r⟩) := by
  have e : jd (mk (foldL n)) (mk (Lib.trimSuffix (foldL d) [46])) (mk r) = norm ⟨n, d, r⟩ := by unfold jd norm; simp only [mk_list]
  unfold fin pv
  rw [e]
  cases ok (norm ⟨n, d, r⟩) <;> rfl
theorem trimF_size (l : List UInt8) : (mk (Lib.trimSuffix (foldL l) [46])).size ≤ l.length := by
  rw [mk_size]
  have := trim_le (foldL l)
  rw [foldL_len] at this
  exact this
theorem nc (n d r : ByteArray) (h1 : n.size ≤ 1048576) (h2 : d.size ≤ 1048576) (h3 : r.size ≤ 1048576) :
    Hid (∀ W, Calls Tryz.prog 72 #[.agg #[.string n, .string d, .string r]] W fun e w' => e = .returned (.agg #[.string (mk (foldL n.data.toList)), .string (mk (Lib.trimSuffix (foldL d.data.toList) [46])), .string r]) ∧ Below W.heap.size W w') ∧
    Hid (∀ W, Calls Tryz.prog 73 #[.agg #[.string (mk (foldL n.data.toList)), .string (mk (Lib.trimSuffix (foldL d.data.toList) [46])), .string r]] W fun e w' => e = .returned (.int .i64 (cd (ok (jd (mk (foldL n.data.toList)) (mk (Lib.trimSuffix (foldL d.data.toList) [46])) r)))) ∧ Below W.heap.size W w') := by
  refine ⟨fun W => norm_any n d r W h1 h2 h3, fun W => check_any _ _ _ W ?_ ?_ h3⟩
  · rw [mk_size, foldL_len, ← Lib.size_eq]; exact h1
  · have := trimF_size d.data.toList
    rw [← Lib.size_eq] at this; omega
/-- The second half: what is ahead of the resource. -/
theorem parse_two (s rest res : ByteArray) (w : World) (hasR : Bool) (hs2 : rest.size ≤ 1048576) (hs3 : res.size ≤ 1048576)
    (C1 : Hid (∀ W, Calls Tryz.prog 71 #[.string s, .string ⟨#[47]⟩] W fun e w' => e = .returned (.tuple #[.string rest, .string res, .bool hasR]) ∧ Below W.heap.size W w'))
    (hR : hasR = true → res ≠ ⟨#[]⟩) (hR2 : hasR = false → res = ⟨#[]⟩) :
    Calls Tryz.prog 58 #[.string s] w fun e w' => e = .returned (pj (ps2 rest.data.toList res.data.toList)) ∧ Below w.heap.size w w' := by
  unfold ps2
  rcases hc : cut1 64 rest.data.toList with _ | ⟨x, y⟩
  · simp only
    have C2 := Lib.hid (fun W => cut_no rest 64 W hs2 hc)
    obtain ⟨NO, CK⟩ := nc ⟨#[]⟩ rest res (by decide) hs2 hs3
    have := parse_go s rest res rest (mk []) ⟨#[]⟩ rest _ _ w hasR false _ C1 C2 NO CK hR hR2 (fun h => by cases h) rfl rfl
    have e := pv_fin [] rest.data.toList res.data.toList
    rw [mk_of] at e
    rw [← e]
    exact this
  · simp only
    obtain ⟨hl, _⟩ := cut1_some hc
    have hlen := congrArg List.length hl
    rw [List.length_append, List.length_cons, ← Lib.size_eq] at hlen
    have C2 := Lib.hid (fun W => cut_yes rest 64 W hs2 hc)
    by_cases hx : x = []
    · subst hx
      rw [if_pos rfl]
      exact parse_bad s rest res (mk []) (mk y) w hasR true C1 C2 (.inr ⟨rfl, rfl⟩)
    · rw [if_neg hx]
      obtain ⟨NO, CK⟩ := nc (mk x) (mk y) res (by rw [mk_size]; omega) (by rw [mk_size]; omega) hs3
      have := parse_go s rest res (mk x) (mk y) (mk x) (mk y) _ _ w hasR true _ C1 C2 NO CK hR hR2 (fun _ h => hx (by have := mk_inj.1 (h.trans (rfl : (⟨#[]⟩ : ByteArray) = mk [])); exact this)) rfl rfl
      have e := pv_fin x y res.data.toList
      rw [mk_of] at e
      rw [← e]
      simp only [mk_list] at this
      exact this
theorem parse_any (s : ByteArray) (w : World) (hs : s.size ≤ 1048576) :
    Calls Tryz.prog 58 #[.string s] w fun e w' => e = .returned (pj (ps s.data.toList)) ∧ Below w.heap.size w w' := by
  unfold ps
  rcases hc : cut1 47 s.data.toList with _ | ⟨x, y⟩
  · simp only
    have C1 := Lib.hid (fun W => cut_no s 47 W hs hc)
    have := parse_two s s (mk []) w false hs (by decide) C1 (fun h => by cases h) (fun _ => rfl)
    rw [mk_list] at this
    exact this
  · simp only
    obtain ⟨hl, _⟩ := cut1_some hc
    have hlen := congrArg List.length hl
    rw [List.length_append, List.length_cons, ← Lib.size_eq] at hlen
    have C1 := Lib.hid (fun W => cut_yes s 47 W hs hc)
    by_cases hy : y = []
    · subst hy
      rw [if_pos rfl]
      rcases hc2 : cut1 64 (mk x).data.toList with _ | ⟨a, b⟩
      · have C2 := Lib.hid (fun W => cut_no (mk x) 64 W (by rw [mk_size]; omega) hc2)
        exact parse_bad s (mk x) (mk []) (mk x) (mk []) w true false C1 C2 (.inl ⟨rfl, rfl⟩)
      · have C2 := Lib.hid (fun W => cut_yes (mk x) 64 W (by rw [mk_size]; omega) hc2)
        exact parse_bad s (mk x) (mk []) (mk a) (mk b) w true true C1 C2 (.inl ⟨rfl, rfl⟩)
    · rw [if_neg hy]
      have := parse_two s (mk x) (mk y) w true (by rw [mk_size]; omega) (by rw [mk_size]; omega) C1 (fun _ h => hy (mk_inj.1 (h.trans (rfl : (⟨#[]⟩ : ByteArray) = mk [])))) (fun h => by cases h)
      simp only [mk_list] at this
      exact this


end Go.Proofs.YtlklmoohoobjjaaGreatDoor.Jn

namespace Go.Proofs.YtlklmoohoobjjaaGreatDoor.Jn
open Go.RowKit Go.Lib Go.Shelf Sg Jd

theorem u47 : By.u 47 = 47 := rfl
theorem u64 : By.u 64 = 64 := rfl
/-- An address's text. -/
def putB (n d r : ByteArray) : ByteArray := mk (Jd.put ⟨n.data.toList, d.data.toList, r.data.toList⟩)
theorem putB_eq {n d r : ByteArray} {l : List UInt8} (h : Jd.put ⟨n.data.toList, d.data.toList, r.data.toList⟩ = l) : (⟨l.toArray⟩ : ByteArray) = putB n d r := by rw [← h]; rfl
set_option maxRecDepth 100000 in
set_option maxHeartbeats 4000000 in
theorem put_ee (d : ByteArray) (w : World) (h2 : d.size ≤ 1048576)  :
    Calls Tryz.prog 35 #[.agg #[.string ⟨#[]⟩, .string d, .string ⟨#[]⟩]] w fun e w' => e = .returned (.string ⟨(d.data.toList).toArray⟩) ∧ Below w.heap.size w w' := by
  have hd : d.data.toList.length ≤ 1048576 := by rw [← Lib.size_eq]; exact h2
  have NB := Lib.hid (bd_new (w.alloc (.cells #[.string ⟨#[]⟩, .string d, .string ⟨#[]⟩] 25)))
  have hs0 : (w.alloc (.cells #[.string ⟨#[]⟩, .string d, .string ⟨#[]⟩] 25)).heap.size = w.heap.size + 1 := by simp
  rw [hs0] at NB
  have c0 : ((w.alloc (.cells #[.string ⟨#[]⟩, .string d, .string ⟨#[]⟩] 25)).alloc (.cells #[.pointer none, .slice none 0 0] 84)).cell? ⟨w.heap.size, 0, none⟩ = some (.string ⟨#[]⟩) := by simp
  have c1 : ((w.alloc (.cells #[.string ⟨#[]⟩, .string d, .string ⟨#[]⟩] 25)).alloc (.cells #[.pointer none, .slice none 0 0] 84)).cell? ⟨w.heap.size, 1, none⟩ = some (.string d) := by simp
  have c2 : ((w.alloc (.cells #[.string ⟨#[]⟩, .string d, .string ⟨#[]⟩] 25)).alloc (.cells #[.pointer none, .slice none 0 0] 84)).cell? ⟨w.heap.size, 2, none⟩ = some (.string ⟨#[]⟩) := by simp
  have B0 : Hid (Below w.heap.size w ((w.alloc (.cells #[.string ⟨#[]⟩, .string d, .string ⟨#[]⟩] 25)).alloc (.cells #[.pointer none, .slice none 0 0] 84))) := ((Below.refl _ _).alloc (Nat.le_refl _) _).alloc (by simp) _
  have hz0 : w.heap.size + 1 ≤ ((w.alloc (.cells #[.string ⟨#[]⟩, .string d, .string ⟨#[]⟩] 25)).alloc (.cells #[.pointer none, .slice none 0 0] 84)).heap.size := by simp
  clear hs0
  go_enter Tryz.func35, Tryz.ntmps35
  go_wp2_with fail
  refine (bd_str d _ NB.out (by simp; omega) hz0).mono ?_
  rintro e w1 ⟨rfl, nb1, hb1⟩
  have NB1 := Lib.hid nb1
  have hz1 : w.heap.size + 1 ≤ w1.heap.size := Nat.le_trans hz0 hb1.size
  have B1 : Hid (Below w.heap.size w w1) := B0.out.trans (hb1.mono (Nat.le_succ _))
  have d0 : w1.cell? ⟨w.heap.size, 0, none⟩ = some (.string ⟨#[]⟩) := (hb1.cell (p := ⟨w.heap.size, 0, none⟩) (Nat.lt_succ_self _)).trans c0
  have d1 : w1.cell? ⟨w.heap.size, 1, none⟩ = some (.string d) := (hb1.cell (p := ⟨w.heap.size, 1, none⟩) (Nat.lt_succ_self _)).trans c1
  have d2 : w1.cell? ⟨w.heap.size, 2, none⟩ = some (.string ⟨#[]⟩) := (hb1.cell (p := ⟨w.heap.size, 2, none⟩) (Nat.lt_succ_self _)).trans c2
  clear nb1 hb1 c0 c1 c2
  have c0 := d0
  have c1 := d1
  have c2 := d2
  clear d0 d1 d2
  go_wp2_with fail
  refine (bd_string _ NB1.out hz1).mono ?_
  rintro e w9 ⟨rfl, hb9⟩
  have B9 : Hid (Below w.heap.size w w9) := B1.out.trans (hb9.mono (Nat.le_succ _))
  clear hb9 c0 c1 c2
  go_wp2_with fail
  go_ret
  exact ⟨rfl, B9.out⟩
set_option maxRecDepth 100000 in
set_option maxHeartbeats 4000000 in
theorem put_en (d r : ByteArray) (w : World) (h2 : d.size ≤ 1048576) (h3 : r.size ≤ 1048576) (hr : r.toList.isEmpty = false) :
    Calls Tryz.prog 35 #[.agg #[.string ⟨#[]⟩, .string d, .string r]] w fun e w' => e = .returned (.string ⟨(d.data.toList ++ By.u 47 :: r.data.toList).toArray⟩) ∧ Below w.heap.size w w' := by
  have hd : d.data.toList.length ≤ 1048576 := by rw [← Lib.size_eq]; exact h2
  have NB := Lib.hid (bd_new (w.alloc (.cells #[.string ⟨#[]⟩, .string d, .string r] 25)))
  have hs0 : (w.alloc (.cells #[.string ⟨#[]⟩, .string d, .string r] 25)).heap.size = w.heap.size + 1 := by simp
  rw [hs0] at NB
  have c0 : ((w.alloc (.cells #[.string ⟨#[]⟩, .string d, .string r] 25)).alloc (.cells #[.pointer none, .slice none 0 0] 84)).cell? ⟨w.heap.size, 0, none⟩ = some (.string ⟨#[]⟩) := by simp
  have c1 : ((w.alloc (.cells #[.string ⟨#[]⟩, .string d, .string r] 25)).alloc (.cells #[.pointer none, .slice none 0 0] 84)).cell? ⟨w.heap.size, 1, none⟩ = some (.string d) := by simp
  have c2 : ((w.alloc (.cells #[.string ⟨#[]⟩, .string d, .string r] 25)).alloc (.cells #[.pointer none, .slice none 0 0] 84)).cell? ⟨w.heap.size, 2, none⟩ = some (.string r) := by simp
  have B0 : Hid (Below w.heap.size w ((w.alloc (.cells #[.string ⟨#[]⟩, .string d, .string r] 25)).alloc (.cells #[.pointer none, .slice none 0 0] 84))) := ((Below.refl _ _).alloc (Nat.le_refl _) _).alloc (by simp) _
  have hz0 : w.heap.size + 1 ≤ ((w.alloc (.cells #[.string ⟨#[]⟩, .string d, .string r] 25)).alloc (.cells #[.pointer none, .slice none 0 0] 84)).heap.size := by simp
  clear hs0
  go_enter Tryz.func35, Tryz.ntmps35
  go_wp2_with fail
  refine (bd_str d _ NB.out (by simp; omega) hz0).mono ?_
  rintro e w1 ⟨rfl, nb1, hb1⟩
  have NB1 := Lib.hid nb1
  have hz1 : w.heap.size + 1 ≤ w1.heap.size := Nat.le_trans hz0 hb1.size
  have B1 : Hid (Below w.heap.size w w1) := B0.out.trans (hb1.mono (Nat.le_succ _))
  have d0 : w1.cell? ⟨w.heap.size, 0, none⟩ = some (.string ⟨#[]⟩) := (hb1.cell (p := ⟨w.heap.size, 0, none⟩) (Nat.lt_succ_self _)).trans c0
  have d1 : w1.cell? ⟨w.heap.size, 1, none⟩ = some (.string d) := (hb1.cell (p := ⟨w.heap.size, 1, none⟩) (Nat.lt_succ_self _)).trans c1
  have d2 : w1.cell? ⟨w.heap.size, 2, none⟩ = some (.string r) := (hb1.cell (p := ⟨w.heap.size, 2, none⟩) (Nat.lt_succ_self _)).trans c2
  clear nb1 hb1 c0 c1 c2
  have c0 := d0
  have c1 := d1
  have c2 := d2
  clear d0 d1 d2
  go_wp2_with fail
  refine (bd_write 47 _ (by decide) NB1.out (by simp; omega) hz1).mono ?_
  rintro e w2 ⟨rfl, nb2, hb2⟩
  have NB2 := Lib.hid nb2
  have hz2 : w.heap.size + 1 ≤ w2.heap.size := Nat.le_trans hz1 hb2.size
  have B2 : Hid (Below w.heap.size w w2) := B1.out.trans (hb2.mono (Nat.le_succ _))
  have d0 : w2.cell? ⟨w.heap.size, 0, none⟩ = some (.string ⟨#[]⟩) := (hb2.cell (p := ⟨w.heap.size, 0, none⟩) (Nat.lt_succ_self _)).trans c0
  have d1 : w2.cell? ⟨w.heap.size, 1, none⟩ = some (.string d) := (hb2.cell (p := ⟨w.heap.size, 1, none⟩) (Nat.lt_succ_self _)).trans c1
  have d2 : w2.cell? ⟨w.heap.size, 2, none⟩ = some (.string r) := (hb2.cell (p := ⟨w.heap.size, 2, none⟩) (Nat.lt_succ_self _)).trans c2
  clear nb2 hb2 c0 c1 c2
  have c0 := d0
  have c1 := d1
  have c2 := d2
  clear d0 d1 d2
  go_wp2_with fail
  refine (bd_str r _ NB2.out (by simp; omega) hz2).mono ?_
  rintro e w3 ⟨rfl, nb3, hb3⟩
  have NB3 := Lib.hid nb3
  have hz3 : w.heap.size + 1 ≤ w3.heap.size := Nat.le_trans hz2 hb3.size
  have B3 : Hid (Below w.heap.size w w3) := B2.out.trans (hb3.mono (Nat.le_succ _))
  have d0 : w3.cell? ⟨w.heap.size, 0, none⟩ = some (.string ⟨#[]⟩) := (hb3.cell (p := ⟨w.heap.size, 0, none⟩) (Nat.lt_succ_self _)).trans c0
  have d1 : w3.cell? ⟨w.heap.size, 1, none⟩ = some (.string d) := (hb3.cell (p := ⟨w.heap.size, 1, none⟩) (Nat.lt_succ_self _)).trans c1
  have d2 : w3.cell? ⟨w.heap.size, 2, none⟩ = some (.string r) := (hb3.cell (p := ⟨w.heap.size, 2, none⟩) (Nat.lt_succ_self _)).trans c2
  clear nb3 hb3 c0 c1 c2
  have c0 := d0
  have c1 := d1
  have c2 := d2
  clear d0 d1 d2
  go_wp2_with fail
  refine (bd_string _ NB3.out hz3).mono ?_
  rintro e w9 ⟨rfl, hb9⟩
  have B9 : Hid (Below w.heap.size w w9) := B3.out.trans (hb9.mono (Nat.le_succ _))
  clear hb9 c0 c1 c2
  go_wp2_with fail
  go_ret
  exact ⟨rfl, B9.out⟩
set_option maxRecDepth 100000 in
set_option maxHeartbeats 4000000 in
theorem put_ne (n d : ByteArray) (w : World) (h1 : n.size ≤ 1048576) (hn : n.toList.isEmpty = false) (h2 : d.size ≤ 1048576)  :
    Calls Tryz.prog 35 #[.agg #[.string n, .string d, .string ⟨#[]⟩]] w fun e w' => e = .returned (.string ⟨(n.data.toList ++ By.u 64 :: (d.data.toList)).toArray⟩) ∧ Below w.heap.size w w' := by
  have hd : d.data.toList.length ≤ 1048576 := by rw [← Lib.size_eq]; exact h2
  have hnl : n.data.toList.length ≤ 1048576 := by rw [← Lib.size_eq]; exact h1
  have NB := Lib.hid (bd_new (w.alloc (.cells #[.string n, .string d, .string ⟨#[]⟩] 25)))
  have hs0 : (w.alloc (.cells #[.string n, .string d, .string ⟨#[]⟩] 25)).heap.size = w.heap.size + 1 := by simp
  rw [hs0] at NB
  have c0 : ((w.alloc (.cells #[.string n, .string d, .string ⟨#[]⟩] 25)).alloc (.cells #[.pointer none, .slice none 0 0] 84)).cell? ⟨w.heap.size, 0, none⟩ = some (.string n) := by simp
  have c1 : ((w.alloc (.cells #[.string n, .string d, .string ⟨#[]⟩] 25)).alloc (.cells #[.pointer none, .slice none 0 0] 84)).cell? ⟨w.heap.size, 1, none⟩ = some (.string d) := by simp
  have c2 : ((w.alloc (.cells #[.string n, .string d, .string ⟨#[]⟩] 25)).alloc (.cells #[.pointer none, .slice none 0 0] 84)).cell? ⟨w.heap.size, 2, none⟩ = some (.string ⟨#[]⟩) := by simp
  have B0 : Hid (Below w.heap.size w ((w.alloc (.cells #[.string n, .string d, .string ⟨#[]⟩] 25)).alloc (.cells #[.pointer none, .slice none 0 0] 84))) := ((Below.refl _ _).alloc (Nat.le_refl _) _).alloc (by simp) _
  have hz0 : w.heap.size + 1 ≤ ((w.alloc (.cells #[.string n, .string d, .string ⟨#[]⟩] 25)).alloc (.cells #[.pointer none, .slice none 0 0] 84)).heap.size := by simp
  clear hs0
  go_enter Tryz.func35, Tryz.ntmps35
  go_wp2_with fail
  refine (bd_str n _ NB.out (by simp; omega) hz0).mono ?_
  rintro e w1 ⟨rfl, nb1, hb1⟩
  have NB1 := Lib.hid nb1
  have hz1 : w.heap.size + 1 ≤ w1.heap.size := Nat.le_trans hz0 hb1.size
  have B1 : Hid (Below w.heap.size w w1) := B0.out.trans (hb1.mono (Nat.le_succ _))
  have d0 : w1.cell? ⟨w.heap.size, 0, none⟩ = some (.string n) := (hb1.cell (p := ⟨w.heap.size, 0, none⟩) (Nat.lt_succ_self _)).trans c0
  have d1 : w1.cell? ⟨w.heap.size, 1, none⟩ = some (.string d) := (hb1.cell (p := ⟨w.heap.size, 1, none⟩) (Nat.lt_succ_self _)).trans c1
  have d2 : w1.cell? ⟨w.heap.size, 2, none⟩ = some (.string ⟨#[]⟩) := (hb1.cell (p := ⟨w.heap.size, 2, none⟩) (Nat.lt_succ_self _)).trans c2
  clear nb1 hb1 c0 c1 c2
  have c0 := d0
  have c1 := d1
  have c2 := d2
  clear d0 d1 d2
  go_wp2_with fail
  refine (bd_write 64 _ (by decide) NB1.out (by simp; omega) hz1).mono ?_
  rintro e w2 ⟨rfl, nb2, hb2⟩
  have NB2 := Lib.hid nb2
  have hz2 : w.heap.size + 1 ≤ w2.heap.size := Nat.le_trans hz1 hb2.size
  have B2 : Hid (Below w.heap.size w w2) := B1.out.trans (hb2.mono (Nat.le_succ _))
  have d0 : w2.cell? ⟨w.heap.size, 0, none⟩ = some (.string n) := (hb2.cell (p := ⟨w.heap.size, 0, none⟩) (Nat.lt_succ_self _)).trans c0
  have d1 : w2.cell? ⟨w.heap.size, 1, none⟩ = some (.string d) := (hb2.cell (p := ⟨w.heap.size, 1, none⟩) (Nat.lt_succ_self _)).trans c1
  have d2 : w2.cell? ⟨w.heap.size, 2, none⟩ = some (.string ⟨#[]⟩) := (hb2.cell (p := ⟨w.heap.size, 2, none⟩) (Nat.lt_succ_self _)).trans c2
  clear nb2 hb2 c0 c1 c2
  have c0 := d0
  have c1 := d1
  have c2 := d2
  clear d0 d1 d2
  go_wp2_with fail
  refine (bd_str d _ NB2.out (by simp; omega) hz2).mono ?_
  rintro e w3 ⟨rfl, nb3, hb3⟩
  have NB3 := Lib.hid nb3
  have hz3 : w.heap.size + 1 ≤ w3.heap.size := Nat.le_trans hz2 hb3.size
  have B3 : Hid (Below w.heap.size w w3) := B2.out.trans (hb3.mono (Nat.le_succ _))
  have d0 : w3.cell? ⟨w.heap.size, 0, none⟩ = some (.string n) := (hb3.cell (p := ⟨w.heap.size, 0, none⟩) (Nat.lt_succ_self _)).trans c0
  have d1 : w3.cell? ⟨w.heap.size, 1, none⟩ = some (.string d) := (hb3.cell (p := ⟨w.heap.size, 1, none⟩) (Nat.lt_succ_self _)).trans c1
  have d2 : w3.cell? ⟨w.heap.size, 2, none⟩ = some (.string ⟨#[]⟩) := (hb3.cell (p := ⟨w.heap.size, 2, none⟩) (Nat.lt_succ_self _)).trans c2
  clear nb3 hb3 c0 c1 c2
  have c0 := d0
  have c1 := d1
  have c2 := d2
  clear d0 d1 d2
  go_wp2_with fail
  refine (bd_string _ NB3.out hz3).mono ?_
  rintro e w9 ⟨rfl, hb9⟩
  have B9 : Hid (Below w.heap.size w w9) := B3.out.trans (hb9.mono (Nat.le_succ _))
  clear hb9 c0 c1 c2
  go_wp2_with fail
  go_ret
  exact ⟨rfl, B9.out⟩
set_option maxRecDepth 100000 in
set_option maxHeartbeats 4000000 in
theorem put_nn (n d r : ByteArray) (w : World) (h1 : n.size ≤ 1048576) (hn : n.toList.isEmpty = false) (h2 : d.size ≤ 1048576) (h3 : r.size ≤ 1048576) (hr : r.toList.isEmpty = false) :
    Calls Tryz.prog 35 #[.agg #[.string n, .string d, .string r]] w fun e w' => e = .returned (.string ⟨(n.data.toList ++ By.u 64 :: (d.data.toList ++ By.u 47 :: r.data.toList)).toArray⟩) ∧ Below w.heap.size w w' := by
  have hd : d.data.toList.length ≤ 1048576 := by rw [← Lib.size_eq]; exact h2
  have hnl : n.data.toList.length ≤ 1048576 := by rw [← Lib.size_eq]; exact h1
  have NB := Lib.hid (bd_new (w.alloc (.cells #[.string n, .string d, .string r] 25)))
  have hs0 : (w.alloc (.cells #[.string n, .string d, .string r] 25)).heap.size = w.heap.size + 1 := by simp
  rw [hs0] at NB
  have c0 : ((w.alloc (.cells #[.string n, .string d, .string r] 25)).alloc (.cells #[.pointer none, .slice none 0 0] 84)).cell? ⟨w.heap.size, 0, none⟩ = some (.string n) := by simp
  have c1 : ((w.alloc (.cells #[.string n, .string d, .string r] 25)).alloc (.cells #[.pointer none, .slice none 0 0] 84)).cell? ⟨w.heap.size, 1, none⟩ = some (.string d) := by simp
  have c2 : ((w.alloc (.cells #[.string n, .string d, .string r] 25)).alloc (.cells #[.pointer none, .slice none 0 0] 84)).cell? ⟨w.heap.size, 2, none⟩ = some (.string r) := by simp
  have B0 : Hid (Below w.heap.size w ((w.alloc (.cells #[.string n, .string d, .string r] 25)).alloc (.cells #[.pointer none, .slice none 0 0] 84))) := ((Below.refl _ _).alloc (Nat.le_refl _) _).alloc (by simp) _
  have hz0 : w.heap.size + 1 ≤ ((w.alloc (.cells #[.string n, .string d, .string r] 25)).alloc (.cells #[.pointer none, .slice none 0 0] 84)).heap.size := by simp
  clear hs0
  go_enter Tryz.func35, Tryz.ntmps35
  go_wp2_with fail
  refine (bd_str n _ NB.out (by simp; omega) hz0).mono ?_
  rintro e w1 ⟨rfl, nb1, hb1⟩
  have NB1 := Lib.hid nb1
  have hz1 : w.heap.size + 1 ≤ w1.heap.size := Nat.le_trans hz0 hb1.size
  have B1 : Hid (Below w.heap.size w w1) := B0.out.trans (hb1.mono (Nat.le_succ _))
  have d0 : w1.cell? ⟨w.heap.size, 0, none⟩ = some (.string n) := (hb1.cell (p := ⟨w.heap.size, 0, none⟩) (Nat.lt_succ_self _)).trans c0
  have d1 : w1.cell? ⟨w.heap.size, 1, none⟩ = some (.string d) := (hb1.cell (p := ⟨w.heap.size, 1, none⟩) (Nat.lt_succ_self _)).trans c1
  have d2 : w1.cell? ⟨w.heap.size, 2, none⟩ = some (.string r) := (hb1.cell (p := ⟨w.heap.size, 2, none⟩) (Nat.lt_succ_self _)).trans c2
  clear nb1 hb1 c0 c1 c2
  have c0 := d0
  have c1 := d1
  have c2 := d2
  clear d0 d1 d2
  go_wp2_with fail
  refine (bd_write 64 _ (by decide) NB1.out (by simp; omega) hz1).mono ?_
  rintro e w2 ⟨rfl, nb2, hb2⟩
  have NB2 := Lib.hid nb2
  have hz2 : w.heap.size + 1 ≤ w2.heap.size := Nat.le_trans hz1 hb2.size
  have B2 : Hid (Below w.heap.size w w2) := B1.out.trans (hb2.mono (Nat.le_succ _))
  have d0 : w2.cell? ⟨w.heap.size, 0, none⟩ = some (.string n) := (hb2.cell (p := ⟨w.heap.size, 0, none⟩) (Nat.lt_succ_self _)).trans c0
  have d1 : w2.cell? ⟨w.heap.size, 1, none⟩ = some (.string d) := (hb2.cell (p := ⟨w.heap.size, 1, none⟩) (Nat.lt_succ_self _)).trans c1
  have d2 : w2.cell? ⟨w.heap.size, 2, none⟩ = some (.string r) := (hb2.cell (p := ⟨w.heap.size, 2, none⟩) (Nat.lt_succ_self _)).trans c2
  clear nb2 hb2 c0 c1 c2
  have c0 := d0
  have c1 := d1
  have c2 := d2
  clear d0 d1 d2
  go_wp2_with fail
  refine (bd_str d _ NB2.out (by simp; omega) hz2).mono ?_
  rintro e w3 ⟨rfl, nb3, hb3⟩
  have NB3 := Lib.hid nb3
  have hz3 : w.heap.size + 1 ≤ w3.heap.size := Nat.le_trans hz2 hb3.size
  have B3 : Hid (Below w.heap.size w w3) := B2.out.trans (hb3.mono (Nat.le_succ _))
  have d0 : w3.cell? ⟨w.heap.size, 0, none⟩ = some (.string n) := (hb3.cell (p := ⟨w.heap.size, 0, none⟩) (Nat.lt_succ_self _)).trans c0
  have d1 : w3.cell? ⟨w.heap.size, 1, none⟩ = some (.string d) := (hb3.cell (p := ⟨w.heap.size, 1, none⟩) (Nat.lt_succ_self _)).trans c1
  have d2 : w3.cell? ⟨w.heap.size, 2, none⟩ = some (.string r) := (hb3.cell (p := ⟨w.heap.size, 2, none⟩) (Nat.lt_succ_self _)).trans c2
  clear nb3 hb3 c0 c1 c2
  have c0 := d0
  have c1 := d1
  have c2 := d2
  clear d0 d1 d2
  go_wp2_with fail
  refine (bd_write 47 _ (by decide) NB3.out (by simp; omega) hz3).mono ?_
  rintro e w4 ⟨rfl, nb4, hb4⟩
  have NB4 := Lib.hid nb4
  have hz4 : w.heap.size + 1 ≤ w4.heap.size := Nat.le_trans hz3 hb4.size
  have B4 : Hid (Below w.heap.size w w4) := B3.out.trans (hb4.mono (Nat.le_succ _))
  have d0 : w4.cell? ⟨w.heap.size, 0, none⟩ = some (.string n) := (hb4.cell (p := ⟨w.heap.size, 0, none⟩) (Nat.lt_succ_self _)).trans c0
  have d1 : w4.cell? ⟨w.heap.size, 1, none⟩ = some (.string d) := (hb4.cell (p := ⟨w.heap.size, 1, none⟩) (Nat.lt_succ_self _)).trans c1
  have d2 : w4.cell? ⟨w.heap.size, 2, none⟩ = some (.string r) := (hb4.cell (p := ⟨w.heap.size, 2, none⟩) (Nat.lt_succ_self _)).trans c2
  clear nb4 hb4 c0 c1 c2
  have c0 := d0
  have c1 := d1
  have c2 := d2
  clear d0 d1 d2
  go_wp2_with fail
  refine (bd_str r _ NB4.out (by simp; omega) hz4).mono ?_
  rintro e w5 ⟨rfl, nb5, hb5⟩
  have NB5 := Lib.hid nb5
  have hz5 : w.heap.size + 1 ≤ w5.heap.size := Nat.le_trans hz4 hb5.size
  have B5 : Hid (Below w.heap.size w w5) := B4.out.trans (hb5.mono (Nat.le_succ _))
  have d0 : w5.cell? ⟨w.heap.size, 0, none⟩ = some (.string n) := (hb5.cell (p := ⟨w.heap.size, 0, none⟩) (Nat.lt_succ_self _)).trans c0
  have d1 : w5.cell? ⟨w.heap.size, 1, none⟩ = some (.string d) := (hb5.cell (p := ⟨w.heap.size, 1, none⟩) (Nat.lt_succ_self _)).trans c1
  have d2 : w5.cell? ⟨w.heap.size, 2, none⟩ = some (.string r) := (hb5.cell (p := ⟨w.heap.size, 2, none⟩) (Nat.lt_succ_self _)).trans c2
  clear nb5 hb5 c0 c1 c2
  have c0 := d0
  have c1 := d1
  have c2 := d2
  clear d0 d1 d2
  go_wp2_with fail
  refine (bd_string _ NB5.out hz5).mono ?_
  rintro e w9 ⟨rfl, hb9⟩
  have B9 : Hid (Below w.heap.size w w9) := B5.out.trans (hb9.mono (Nat.le_succ _))
  clear hb9 c0 c1 c2
  go_wp2_with fail
  go_ret
  exact ⟨rfl, B9.out⟩
theorem put_any (n d r : ByteArray) (w : World) (h1 : n.size ≤ 1048576) (h2 : d.size ≤ 1048576) (h3 : r.size ≤ 1048576) :
    Calls Tryz.prog 35 #[.agg #[.string n, .string d, .string r]] w fun e w' => e = .returned (.string (putB n d r)) ∧ Below w.heap.size w w' := by
  by_cases hn : n.data.toList = []
  · obtain rfl := empty_list hn
    by_cases hr : r.data.toList = []
    · obtain rfl := empty_list hr
      have e1 := putB_eq (n := ⟨#[]⟩) (d := d) (r := ⟨#[]⟩) (l := d.data.toList) (by simp [Jd.put])
      exact (put_ee d w h2).mono fun e w' ⟨he, hb⟩ => ⟨by rw [he, e1], hb⟩
    · have e1 := putB_eq (n := ⟨#[]⟩) (d := d) (r := r) (l := d.data.toList ++ By.u 47 :: r.data.toList) (by simp [Jd.put, hr, u47])
      exact (put_en d r w h2 h3 (nonempty hr)).mono fun e w' ⟨he, hb⟩ => ⟨by rw [he, e1], hb⟩
  · by_cases hr : r.data.toList = []
    · obtain rfl := empty_list hr
      have e1 := putB_eq (n := n) (d := d) (r := ⟨#[]⟩) (l := n.data.toList ++ By.u 64 :: (d.data.toList)) (by simp [Jd.put, hn, u64])
      exact (put_ne n d w h1 (nonempty hn) h2).mono fun e w' ⟨he, hb⟩ => ⟨by rw [he, e1], hb⟩
    · have e1 := putB_eq (n := n) (d := d) (r := r) (l := n.data.toList ++ By.u 64 :: (d.data.toList ++ By.u 47 :: r.data.toList)) (by simp [Jd.put, hn, hr, u47, u64])
      exact (put_nn n d r w h1 (nonempty hn) h2 h3 (nonempty hr)).mono fun e w' ⟨he, hb⟩ => ⟨by rw [he, e1], hb⟩


end Go.Proofs.YtlklmoohoobjjaaGreatDoor.Jn
