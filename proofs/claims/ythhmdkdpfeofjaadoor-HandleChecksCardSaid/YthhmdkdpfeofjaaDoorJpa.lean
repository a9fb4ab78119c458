/- Contracts of package jid, first part: isPart, isDomain. Condition: each text has at most 1048576 bytes. -/
import Derived.Test.YthhmdkdpfeofjaaDoorJlb
namespace Go.Proofs.YthhmdkdpfeofjaaDoor
open Go.RowKit Go.Lib Go.Shelf Sg Jd

theorem empty_list {s : ByteArray} (h : s.data.toList = []) : s = ⟨#[]⟩ := by rw [mk_eq h]; rfl
theorem nonempty {s : ByteArray} (h : s.data.toList ≠ []) : s.toList.isEmpty = false := by
  rw [ByteArray.toList_eq]
  cases e : s.data.toList with
  | nil => exact absurd e h
  | cons _ _ => rfl
set_option maxHeartbeats 1000000 in
theorem isPart_any (s : ByteArray) (w : World) (hs : s.size ≤ 1048576) :
    Calls Tryd.prog 38 #[.string s] w fun e w' => e = .returned (.bool (okp s.data.toList)) ∧ Below w.heap.size w w' := by
  have HW : Hid (Below w.heap.size w w) := Below.refl _ _
  have hsz : s.data.toList.length = s.size := by simp
  by_cases hl : s.size ≤ 1023
  · have f : decide ((s.size : Int) ≤ 1023) = true := by simp; omega
    by_cases ht : ∃ cs, IsT s.data.toList cs
    · obtain ⟨cs, ht⟩ := ht
      have K := Lib.hid (fun W => check_yes s W hs ht)
      have hany : s.data.toList.any bar4 = cs.any low31 := by rw [ht.2, cat_bar ht.1]
      have C : Hid (∀ W, Calls Tryd.prog 40 #[.string s, .string ⟨#[9, 10, 13, 127]⟩] W fun e w' => e = .returned (.bool (s.data.toList.any bar4)) ∧ Below W.heap.size W w') :=
        fun W => contains_text s ⟨#[9, 10, 13, 127]⟩ W hs (by decide) (by decide) (by decide) ht
      have HE : Hid (okp s.data.toList = !s.data.toList.any bar4) := by
        show _ = _
        rw [okp_text ht, hany, hsz]; simp [hl]
      generalize s.data.toList.any bar4 = b at C HE
      clear ht hany hsz hl hs
      cases b with
      | true =>
        go_enter Tryd.func38, Tryd.ntmps38
        go_wp2_with fail
        refine (K.out _).mono ?_
        rintro r w1 ⟨rfl, hb⟩
        have HB1 := Lib.hid hb
        clear hb
        go_wp2_with fail
        refine (C.out _).mono ?_
        rintro r w2 ⟨rfl, hb⟩
        have HB2 := Lib.hid (HB1.out.trans (hb.mono HB1.out.size))
        clear hb
        go_wp2_with fail
        go_ret
        exact ⟨by rw [HE.out]; rfl, HB2.out⟩
      | false =>
        go_enter Tryd.func38, Tryd.ntmps38
        go_wp2_with fail
        refine (K.out _).mono ?_
        rintro r w1 ⟨rfl, hb⟩
        have HB1 := Lib.hid hb
        clear hb
        go_wp2_with fail
        refine (C.out _).mono ?_
        rintro r w2 ⟨rfl, hb⟩
        have HB2 := Lib.hid (HB1.out.trans (hb.mono HB1.out.size))
        clear hb
        go_wp2_with fail
        go_ret
        exact ⟨by rw [HE.out]; rfl, HB2.out⟩
    · have hno : ∀ cs, ¬ IsT s.data.toList cs := fun cs h => ht ⟨cs, h⟩
      have K := Lib.hid (fun W => check_no s W hs hno)
      have HE := Lib.hid (okp_none hno)
      clear ht hno hsz hl hs
      go_enter Tryd.func38, Tryd.ntmps38
      go_wp2_with fail
      refine (K.out _).mono ?_
      rintro r w1 ⟨rfl, hb⟩
      have HB1 := Lib.hid hb
      clear hb
      go_wp2_with fail
      go_ret
      exact ⟨by rw [HE.out]; rfl, HB1.out⟩
  · have f : decide ((s.size : Int) ≤ 1023) = false := by simp; omega
    have HE : Hid (okp s.data.toList = false) := by
      show _ = _
      rw [Bool.eq_false_iff, ne_eq, okp_iff]
      rintro ⟨h, _⟩
      omega
    clear hsz hl hs
    go_enter Tryd.func38, Tryd.ntmps38
    go_wp2_with fail
    go_ret
    exact ⟨by rw [HE.out]; rfl, HW.out⟩

/-- Block B holds these strings, from cell 0 on. -/
def RowS (B : Nat) (P : List ByteArray) (w : World) : Prop := B < w.heap.size ∧ ∀ j p, P[j]? = some p → w.cell? ⟨B, j, none⟩ = some (.string p)
theorem RowS.below {B : Nat} {P : List ByteArray} {w w' : World} (h : RowS B P w) (hb : Below w.heap.size w w') : RowS B P w' :=
  ⟨Nat.lt_of_lt_of_le h.1 hb.size, fun j p hj => (hb.cell (p := ⟨B, j, none⟩) h.1).trans (h.2 j p hj)⟩
theorem RowS.new (w : World) (P : List ByteArray) (t : TypeId) : RowS w.heap.size P (w.alloc (.cells (P.map Value.string).toArray t)) :=
  ⟨by simp, fun j p hj => by rw [World.cell?_alloc_mark]; simp [hj]⟩
set_option maxHeartbeats 2000000 in
theorem isDomain_any (s : ByteArray) (w : World) (hs : s.size ≤ 1048576) (hp : ∀ p ∈ pcs s, p.size ≤ 1048576) (hn : (pcs s).length ≤ 1048577) :
    Calls Tryd.prog 41 #[.string s] w fun e w' => e = .returned (.bool (dm true s.data.toList)) ∧ Below w.heap.size w w' := by
  have SP := Lib.hid (fun W => split_any s W hs)
  have HE : Hid (((pcs s).all fun p => okPiece p.data.toList) = dm true s.data.toList) := pieces s
  generalize dm true s.data.toList = b at HE ⊢
  generalize pcs s = P at SP HE hp hn
  have HP := Lib.hid hp
  clear hp hs
  go_enter Tryd.func41, Tryd.ntmps41
  go_wp2_with fail
  refine (SP.out _).mono ?_
  rintro r w1 ⟨rfl, hw⟩
  have HR : Hid (RowS w.heap.size P w1) := by subst hw; exact RowS.new w P _
  have HB : Hid (Below w.heap.size w w1) := by subst hw; exact (Below.refl _ _).alloc (Nat.le_refl _) _
  clear hw
  go_wp2_with fail
  go_loopw [8] (fun i wr => ∃ k : Nat, i = .int .i64 k ∧ k ≤ P.length ∧ Hid (∀ p ∈ P.take k, okPiece p.data.toList = true) ∧ Hid (RowS w.heap.size P wr) ∧ Hid (Below w.heap.size w wr)) (fun i _ => P.length - (RowKit.intOf i).toNat)
  case atStart => exact ⟨0, rfl, by omega, (fun p hp => by simp at hp), HR.out, HB.out⟩
  case round =>
    obtain ⟨k, rfl, hk, HK, HR2, HB2⟩ := hrel
    by_cases hlt : k < P.length
    · have hget : P[k]? = some (P[k]'hlt) := List.getElem?_eq_getElem hlt
      have hmem : P[k]'hlt ∈ P := List.getElem_mem hlt
      have hszp := HP.out _ hmem
      have hcell := HR2.out.2 k _ hget
      have HT : Hid (∀ q, q ∈ P.take (k + 1) → q ∈ P.take k ∨ q = P[k]'hlt) := by
        intro q hq
        rw [List.take_succ_eq_append_getElem hlt, List.mem_append, List.mem_singleton] at hq
        exact hq
      have HF : Hid (okPiece (P[k]'hlt).data.toList = false → b = false) := by
        intro h
        rw [← HE.out, List.all_eq_false]
        exact ⟨_, hmem, by rw [h]; exact Bool.false_ne_true⟩
      generalize P[k]'hlt = p at hcell hszp HT HF
      clear hget hmem
      by_cases h0 : p.data.toList = []
      · obtain rfl : p = ⟨#[]⟩ := empty_list h0
        have HF2 := Lib.hid (HF.out (by rfl))
        clear h0
        go_wp2_with fail
        go_ret
        exact ⟨by rw [HF2.out]; rfl, HB2.out⟩
      · have hne := nonempty h0
        have T := Lib.hid (fun W => trimL_any p W hszp)
        cases hall : p.data.toList.all ld with
        | true =>
          have HO : Hid (okPiece p.data.toList = true) := by
            show _ = _
            unfold okPiece
            rw [hall, Bool.and_true, Bool.not_eq_true']
            cases e : p.data.toList with
            | nil => exact absurd e h0
            | cons _ _ => rfl
          have e1 : mk (Lib.trimS p.data.toList letters) = ⟨#[]⟩ := by rw [(trim_empty _).2 hall]; rfl
          rw [e1] at T
          clear h0 hall e1
          go_wp2_with fail
          refine (T.out _).mono ?_
          rintro r w3 ⟨rfl, hb⟩
          have HR3 := Lib.hid (HR2.out.below hb)
          have HB3 := Lib.hid (HB2.out.trans (hb.mono HB2.out.size))
          clear hb hcell
          go_wp2_with fail
          refine ⟨⟨k + 1, by go_num, by omega, fun q hq => ?_, HR3.out, HB3.out⟩, by simp [RowKit.intOf]; omega⟩
          rcases HT.out q hq with h | rfl
          · exact HK.out q h
          · exact HO.out
        | false =>
          have HO : Hid (b = false) := HF.out (by unfold okPiece; rw [hall, Bool.and_false])
          have e1 : Lib.trimS p.data.toList letters ≠ [] := fun e => by rw [(trim_empty _).1 e] at hall; cases hall
          have e2 := nonempty (s := mk (Lib.trimS p.data.toList letters)) (by rw [mk_list]; exact e1)
          generalize mk (Lib.trimS p.data.toList letters) = q at T e2
          clear h0 hall e1
          go_wp2_with fail
          refine (T.out _).mono ?_
          rintro r w3 ⟨rfl, hb⟩
          have HB3 := Lib.hid (HB2.out.trans (hb.mono HB2.out.size))
          clear hb hcell
          go_wp2_with fail
          go_ret
          exact ⟨by rw [HO.out]; rfl, HB3.out⟩
    · have HO : Hid (b = true) := by
        show _ = _
        rw [← HE.out, List.all_eq_true]
        intro p hp
        refine HK.out p ?_
        rw [List.take_of_length_le (by omega)]; exact hp
      go_wp2_with fail
      go_ret
      exact ⟨by rw [HO.out]; rfl, HB2.out⟩

theorem bcell {W w1 : World} (hb : Below W.heap.size W w1) : (∀ b o, b < W.heap.size → w1.cell? ⟨b, o, none⟩ = W.cell? ⟨b, o, none⟩) ∧ (∀ b o, b < W.heap.size → w1.frozen? ⟨b, o, none⟩ = W.frozen? ⟨b, o, none⟩) :=
  ⟨fun b o h => hb.cell (p := ⟨b, o, none⟩) h, fun b o h => hb.frozen (p := ⟨b, o, none⟩) h⟩

end Go.Proofs.YthhmdkdpfeofjaaDoor
