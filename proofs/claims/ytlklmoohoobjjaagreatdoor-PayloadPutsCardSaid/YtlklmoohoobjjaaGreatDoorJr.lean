/- The document's own answers for addresses: Is, Put. Conditions: those of each theorem's head. -/
import Derived.Test.YtlklmoohoobjjaaGreatDoorAk
import Derived.Test.YtlklmoohoobjjaaGreatDoorRa
import Derived.Deep.AppendLies

namespace Go.Proofs.YtlklmoohoobjjaaGreatDoor.Jn
open Go.RowKit Go.Lib Go.Shelf Sg Jd

theorem nb_at {l : List UInt8} {k : Nat} (h : k < l.length) : l[k] = u (nb l k) := by
  unfold nb
  rw [List.getD_eq_getElem?_getD, List.getElem?_eq_getElem h]
  exact (u_of rfl).symm
theorem contains_no {l : List UInt8} {x : Nat} (hx : x < 256) (h : ∀ j, j < l.length → nb l j ≠ x) : l.contains (u x) = false := by
  rw [Bool.eq_false_iff]
  intro e
  have hm : u x ∈ l := by simpa using e
  obtain ⟨i, hi, he⟩ := List.getElem_of_mem hm
  refine h i hi ?_
  rw [nb_at hi] at he
  have := congrArg UInt8.toNat he
  rwa [u_nat (nb_lt l i), u_nat hx] at this
theorem contains_yes {l : List UInt8} {x k : Nat} (hk : k < l.length) (h : nb l k = x) : l.contains (u x) = true := by
  rw [← h, ← nb_at hk]; simp
theorem index_at {l : List UInt8} {x k : Nat} (hx : x < 256) (hk : k < l.length) (h : nb l k = x) (hno : ∀ j, j < k → nb l j ≠ x) : Lib.indexByte l (u x) = k := by
  have e : l = l.take k ++ u x :: l.drop (k + 1) := by
    conv => lhs; rw [← List.take_append_drop k l, List.drop_eq_getElem_cons hk, nb_at hk, h]
  have hn : u x ∉ l.take k := by
    have h0 := contains_no (l := l.take k) hx (fun j hj => by
      have hj2 : j < k := by rw [List.length_take] at hj; omega
      have := hno j hj2
      unfold nb at this ⊢
      rw [List.getD_eq_getElem?_getD, List.getElem?_take, if_pos hj2, ← List.getD_eq_getElem?_getD]
      exact this)
    intro hm
    have : (l.take k).contains (u x) = true := by simpa using hm
    rw [h0] at this
    cases this
  rw [indexByte_cut, e, cut1_at _ hn]
  simp
  omega
theorem index_no {l : List UInt8} {x : Nat} (hx : x < 256) (h : ∀ j, j < l.length → nb l j ≠ x) : Lib.indexByte l (u x) = -1 := by
  have h0 := contains_no hx h
  rw [indexByte_cut, cut1_out]
  intro e
  have : l.contains (u x) = true := by simpa using e
  rw [h0] at this
  cases this

set_option maxHeartbeats 1000000 in
theorem rIn_any (x : Nat) (s : ByteArray) (w : World) (hx : x < 256) (hs : s.size ≤ 1048576) :
    Calls Tryz.prog 45 #[.int .u8 x, .string s] w fun e w' => e = .returned (.bool (s.data.toList.contains (u x))) ∧ w = w' := by
  have HL : Hid (s.data.toList.length = s.size) := (Lib.size_eq s).symm
  go_enter Tryz.func45, Tryz.ntmps45
  go_wp2_with fail
  go_loopw [5] (fun i wr => ∃ k : Nat, i = .int .i64 k ∧ w = wr ∧ k ≤ s.size ∧ Hid (∀ j, j < k → nb s.data.toList j ≠ x)) (fun i _ => s.size - (RowKit.intOf i).toNat)
  case atStart => exact ⟨0, rfl, rfl, by omega, (fun j hj => by omega)⟩
  case round =>
    obtain ⟨k, rfl, rfl, hk, HA⟩ := hrel
    by_cases hlt : k < s.size
    · have hb := byte_nb s k hlt
      have hy := nb_lt s.data.toList k
      by_cases e : nb s.data.toList k = x
      · have HF := Lib.hid (contains_yes (l := s.data.toList) (by rw [HL.out]; exact hlt) e)
        rw [e] at hb
        clear e
        go_wp2_with fail
        go_ret
        exact ⟨by rw [HF.out]; rfl, rfl⟩
      · have HA2 : Hid (∀ j, j < k + 1 → nb s.data.toList j ≠ x) := fun j hj => by
          by_cases e2 : j = k
          · subst e2; exact e
          · exact HA.out j (by omega)
        generalize nb s.data.toList k = y at hb hy e
        have f : (y == x) = false := by rw [beq_eq_false_iff_ne]; exact e
        have f2 : ((y : Int) == (x : Int)) = false := by rw [beq_eq_false_iff_ne]; omega
        clear e
        go_wp2_with fail
        exact ⟨⟨k + 1, by go_num, trivial, by omega, HA2.out⟩, by simp [RowKit.intOf]; omega⟩
    · have HF : Hid (s.data.toList.contains (u x) = false) := contains_no hx (fun j hj => HA.out j (by rw [HL.out] at hj; omega))
      go_wp2_with fail
      go_ret
      exact ⟨by rw [HF.out]; rfl, rfl⟩
theorem rSigns_yes (s : ByteArray) (w : World) (hs : s.size ≤ 1048576) {cs : List Nat} (h : IsT s.data.toList cs) :
    Calls Tryz.prog 57 #[.string s] w fun e w' => (∃ v, e = .returned (.tuple #[v, .bool true]) ∧ w'.ownsRow w.heap.size 3 1 v cs.length (sgnVals cs)) ∧ Below w.heap.size w w' :=
  (rSigns_any s w hs).mono fun e w' hp => by
    rcases hp with ⟨⟨ds, v, hd, he, ho⟩ | ⟨hn, _⟩, hb⟩
    · rw [h.unique hd]; exact ⟨⟨v, he, ho⟩, hb⟩
    · exact absurd h (hn cs)
theorem rSigns_no (s : ByteArray) (w : World) (hs : s.size ≤ 1048576) (h : ∀ cs, ¬ IsT s.data.toList cs) :
    Calls Tryz.prog 57 #[.string s] w fun e w' => e = .returned (.tuple #[.slice none 0 0, .bool false]) ∧ Below w.heap.size w w' :=
  (rSigns_any s w hs).mono fun e w' hp => by
    rcases hp with ⟨⟨ds, v, hd, _, _⟩ | ⟨_, he⟩, hb⟩
    · exact absurd hd (h ds)
    · exact ⟨he, hb⟩
theorem sign_cell {w : World} {base g cap : Nat} {cs : List Nat} (h : w.ownsRow base 3 1 (.slice (some ⟨g, 0, none⟩) cs.length cap) cs.length (sgnVals cs)) {k : Nat} (hk : k < cs.length) :
    w.cell? ⟨g, k, none⟩ = some (.int .i64 (cs[k]'hk : Nat)) := by
  have h1 := h.cells (g := g) rfl k (.int .i64 (cs[k]'hk : Nat)) (by simp [sgnVals, hk])
  have h0 : (⟨g, 0, none⟩ : Addr).add k = ⟨g, k, none⟩ := by unfold Addr.add; split <;> simp_all
  rwa [h0] at h1
theorem sign_le {cs : List Nat} {l : List UInt8} (h : IsT l cs) : cs.length ≤ l.length := by rw [h.2]; exact cat_len cs
set_option maxRecDepth 100000 in
set_option maxHeartbeats 2000000 in
theorem rText_any (s : ByteArray) (w : World) (hs : s.size ≤ 1048576) :
    Calls Tryz.prog 44 #[.string s] w fun e w' => e = .returned (.bool (okp s.data.toList)) ∧ Below w.heap.size w w' := by
  by_cases ht : ∃ cs, IsT s.data.toList cs
  · obtain ⟨cs, ht⟩ := ht
    have SG := Lib.hid (fun W => rSigns_yes s W hs ht)
    have HO : Hid (okp s.data.toList = (decide (s.size ≤ 1023) && !cs.any low31)) := by
      show _ = _
      rw [okp_text ht, ← Lib.size_eq]
    have hn := sign_le ht
    rw [← Lib.size_eq] at hn
    generalize okp s.data.toList = ov at HO ⊢
    clear ht
    by_cases hl : s.size ≤ 1023
    · have f : decide ((1023 : Int) < s.size) = false := by simp; omega
      have HO2 : Hid (ov = !cs.any low31) := by show _ = _; have := HO.out; simpa [hl] using this
      clear HO
      go_enter Tryz.func44, Tryz.ntmps44
      go_wp2_with fail
      refine (SG.out _).mono ?_
      rintro r w1 ⟨⟨v, rfl, ho⟩, hb1⟩
      have HB := Lib.hid hb1
      clear hb1
      by_cases hc : cs = []
      · subst hc
        obtain ⟨a, c, rfl⟩ : ∃ a c, v = .slice a 0 c := by
          rcases ho.2 with ⟨rfl, _⟩ | ⟨g, cap, cur, rfl, _⟩
          · exact ⟨none, 0, rfl⟩
          · exact ⟨_, cap, rfl⟩
        clear ho
        have HO3 : Hid (ov = true) := HO2.out
        clear HO2 SG hn
        go_wp2_with fail
        go_loopw [5] (fun i wr => i = .int .i64 0 ∧ w1 = wr) (fun _ _ => 0)
        case atStart => exact ⟨rfl, rfl⟩
        case round =>
          obtain ⟨rfl, rfl⟩ := hrel
          go_wp2_with fail
          go_ret
          exact ⟨by rw [HO3.out]; rfl, HB.out⟩
      · have hpos : 0 < cs.length := List.length_pos_iff.2 hc
        obtain ⟨g, cap, rfl, _, hg⟩ := ho.form hpos
        have HR := Lib.hid ho
        clear ho hc
        go_wp2_with fail
        go_loopw [5] (fun i wr => ∃ k : Nat, i = .int .i64 k ∧ w1 = wr ∧ k ≤ cs.length ∧ Hid (∀ c ∈ cs.take k, low31 c = false)) (fun i _ => cs.length - (RowKit.intOf i).toNat)
        case atStart => exact ⟨0, rfl, rfl, by omega, (fun c hc => by simp at hc)⟩
        case round =>
          obtain ⟨k, rfl, rfl, hk, HK⟩ := hrel
          by_cases hlt : k < cs.length
          · have hcell := sign_cell HR.out hlt
            have HT : Hid (∀ q, q ∈ cs.take (k + 1) → q ∈ cs.take k ∨ q = cs[k]'hlt) := by
              intro q hq
              rw [List.take_succ_eq_append_getElem hlt, List.mem_append, List.mem_singleton] at hq
              exact hq
            have HF : Hid (low31 (cs[k]'hlt) = true → ov = false) := by
              intro h
              rw [HO2.out, Bool.not_eq_false', List.any_eq_true]
              exact ⟨_, List.getElem_mem hlt, h⟩
            generalize cs[k]'hlt = c at hcell HT HF
            by_cases h32 : c < 32
            · have HX : Hid (ov = false) := HF.out (by unfold low31; simp [h32])
              have f1 : decide ((c : Int) < 32) = true := by simp; omega
              clear h32
              go_wp2_with fail
              go_ret
              exact ⟨by rw [HX.out]; rfl, HB.out⟩
            · have f1 : decide ((c : Int) < 32) = false := by simp; omega
              by_cases h127 : c = 127
              · have HX : Hid (ov = false) := HF.out (by unfold low31; simp [h127])
                have f2 : ((c : Int) == 127) = true := by rw [beq_iff_eq]; omega
                clear h32 h127
                go_wp2_with fail
                go_ret
                exact ⟨by rw [HX.out]; rfl, HB.out⟩
              · have f2 : ((c : Int) == 127) = false := by rw [beq_eq_false_iff_ne]; omega
                have HX : Hid (low31 c = false) := by show _ = _; unfold low31; simp [h32, h127]
                clear h32 h127
                go_wp2_with fail
                refine ⟨⟨k + 1, by go_num, trivial, by omega, fun q hq => ?_⟩, by simp [RowKit.intOf]; omega⟩
                rcases HT.out q hq with h | rfl
                · exact HK.out q h
                · exact HX.out
          · have HX : Hid (ov = true) := by
              show _ = _
              rw [HO2.out, Bool.not_eq_true', List.any_eq_false]
              intro c hc
              have := HK.out c (by rw [List.take_of_length_le (by omega)]; exact hc)
              rw [this]; exact Bool.false_ne_true
            go_wp2_with fail
            go_ret
            exact ⟨by rw [HX.out]; rfl, HB.out⟩
    · have f : decide ((1023 : Int) < s.size) = true := by simp; omega
      have HO2 : Hid (ov = false) := by show _ = _; have := HO.out; simpa [hl] using this
      clear HO
      go_enter Tryz.func44, Tryz.ntmps44
      go_wp2_with fail
      refine (SG.out _).mono ?_
      rintro r w1 ⟨⟨v, rfl, ho⟩, hb1⟩
      have HB := Lib.hid hb1
      clear hb1 ho
      go_wp2_with fail
      go_ret
      exact ⟨by rw [HO2.out]; rfl, HB.out⟩
  · have hno : ∀ cs, ¬ IsT s.data.toList cs := fun cs h => ht ⟨cs, h⟩
    have SG := Lib.hid (fun W => rSigns_no s W hs hno)
    have HO := Lib.hid (okp_none hno)
    clear ht hno
    go_enter Tryz.func44, Tryz.ntmps44
    go_wp2_with fail
    refine (SG.out _).mono ?_
    rintro r w1 ⟨rfl, hb1⟩
    have HB := Lib.hid hb1
    clear hb1
    go_wp2_with fail
    go_ret
    exact ⟨by rw [HO.out]; rfl, HB.out⟩

end Go.Proofs.YtlklmoohoobjjaaGreatDoor.Jn

namespace Go.Proofs.YtlklmoohoobjjaaGreatDoor.Jn
open Go.RowKit Go.Lib Go.Shelf Sg Jd

theorem ok_bool (n d r : ByteArray) : ok (jd n d r) = (okp n.data.toList && okp d.data.toList && okp r.data.toList && (n.data.toList.all fun b => !barN b && !up b) && dm true d.data.toList) := by
  have e : (n.data.toList.all fun b => !barN b && !up b) = true ↔ (n.data.toList.any up = false ∧ n.data.toList.any barN = false) := by
    rw [List.all_eq_true, List.any_eq_false, List.any_eq_false]
    constructor
    · intro h
      refine ⟨fun b hb => ?_, fun b hb => ?_⟩
      · have := h b hb; simp only [Bool.and_eq_true, Bool.not_eq_true'] at this; rw [this.2]; exact Bool.false_ne_true
      · have := h b hb; simp only [Bool.and_eq_true, Bool.not_eq_true'] at this; rw [this.1]; exact Bool.false_ne_true
    · rintro ⟨h1, h2⟩ b hb
      have a := h1 b hb
      have c := h2 b hb
      simp only [Bool.not_eq_true] at a c
      rw [a, c]; rfl
  rw [Bool.eq_iff_iff, ok_iff]
  simp only [Bool.and_eq_true, okp_iff, e]
  constructor
  · rintro ⟨h1, h2, h3, h4, h5, h6⟩; exact ⟨⟨⟨⟨h1, h2⟩, h3⟩, h4, h5⟩, h6⟩
  · rintro ⟨⟨⟨⟨h1, h2⟩, h3⟩, h4, h5⟩, h6⟩; exact ⟨h1, h2, h3, h4, h5, h6⟩
theorem in_barN (x : Nat) (W : World) (hx : x < 256) :
    Calls Tryz.prog 45 #[.int .u8 x, .string ⟨#[32, 34, 38, 39, 47, 58, 60, 62, 64]⟩] W fun e w' => e = .returned (.bool (barN (u x))) ∧ W = w' := rIn_any x ⟨#[32, 34, 38, 39, 47, 58, 60, 62, 64]⟩ W hx (by decide)
theorem up_u {x : Nat} (hx : x < 256) : up (u x) = (decide (65 ≤ x) && decide (x ≤ 90)) := by unfold up; rw [u_nat hx]
/-- Where a domain's reading stands: what is read so far is well, and whether a point may come. -/
def DomAt (l : List UInt8) (k : Nat) : Prop := ∃ p, dm true l = dm p (l.drop k) ∧ (k = 0 → p = true) ∧ (0 < k → p = (nb l (k - 1) == 46)) ∧ (0 < k → k = l.length → p = false)
theorem DomAt.start (l : List UInt8) : DomAt l 0 := ⟨true, rfl, fun _ => rfl, fun h => absurd h (Nat.lt_irrefl _), fun h => absurd h (Nat.lt_irrefl _)⟩
theorem dom_drop {l : List UInt8} {k : Nat} (h : k < l.length) : l.drop k = u (nb l k) :: l.drop (k + 1) := by rw [List.drop_eq_getElem_cons h, nb_at h]
theorem DomAt.letter {l : List UInt8} {k x : Nat} (h : DomAt l k) (hk : k < l.length) (hx : nb l k = x) (h46 : x ≠ 46) (hl : ld (u x) = true) : DomAt l (k + 1) := by
  obtain ⟨p, h1, _, _, _⟩ := h
  have h256 := nb_lt l k
  have hne : u x ≠ 46 := fun e => h46 (by have := congrArg UInt8.toNat e; rw [u_nat (by omega)] at this; exact this)
  rw [dom_drop hk, hx, dm, if_neg hne, hl, Bool.true_and] at h1
  refine ⟨false, h1, fun h => by omega, fun _ => ?_, fun _ _ => rfl⟩
  rw [Nat.add_sub_cancel, hx]
  symm
  rw [beq_eq_false_iff_ne]; exact h46
theorem DomAt.other {l : List UInt8} {k x : Nat} (h : DomAt l k) (hk : k < l.length) (hx : nb l k = x) (h46 : x ≠ 46) (hl : ld (u x) = false) : dm true l = false := by
  obtain ⟨p, h1, _, _, _⟩ := h
  have h256 := nb_lt l k
  have hne : u x ≠ 46 := fun e => h46 (by have := congrArg UInt8.toNat e; rw [u_nat (by omega)] at this; exact this)
  rw [dom_drop hk, hx, dm, if_neg hne, hl, Bool.false_and] at h1
  exact h1
theorem DomAt.pointFirst {l : List UInt8} {k : Nat} (h : DomAt l k) (hk : k < l.length) (hx : nb l k = 46) (h0 : k = 0) : dm true l = false := by
  obtain ⟨p, h1, h2, _, _⟩ := h
  rw [dom_drop hk, hx, dm, if_pos (by decide), h2 h0] at h1
  exact h1
theorem DomAt.pointLast {l : List UInt8} {k : Nat} (h : DomAt l k) (hk : k + 1 = l.length) (hx : nb l k = 46) : dm true l = false := by
  obtain ⟨p, h1, _, _, _⟩ := h
  rw [dom_drop (by omega), hx, dm, if_pos (by decide), List.drop_of_length_le (by omega)] at h1
  rw [h1]; simp [dm]
theorem DomAt.pointTwice {l : List UInt8} {k m : Nat} (h : DomAt l k) (hk : k < l.length) (hx : nb l k = 46) (hm : k = m + 1) (h46 : nb l m = 46) : dm true l = false := by
  obtain ⟨p, h1, _, h3, _⟩ := h
  have hp := h3 (by omega)
  rw [show k - 1 = m by omega, h46] at hp
  rw [dom_drop hk, hx, dm, if_pos (by decide), hp] at h1
  exact h1
theorem DomAt.point {l : List UInt8} {k m : Nat} (h : DomAt l k) (hk : k + 1 < l.length) (hx : nb l k = 46) (hm : k = m + 1) (h46 : nb l m ≠ 46) : DomAt l (k + 1) := by
  obtain ⟨p, h1, _, h3, _⟩ := h
  have hp := h3 (by omega)
  rw [show k - 1 = m by omega, beq_eq_false_iff_ne.2 h46] at hp
  rw [dom_drop (by omega), hx, dm, if_pos (by decide), hp, Bool.not_false, Bool.true_and] at h1
  refine ⟨true, h1, fun h => by omega, fun _ => ?_, fun _ h => by omega⟩
  rw [Nat.add_sub_cancel, hx]; rfl
theorem DomAt.done {l : List UInt8} {k : Nat} (h : DomAt l k) (hk : k = l.length) (h0 : 0 < l.length) : dm true l = true := by
  obtain ⟨p, h1, _, _, h4⟩ := h
  rw [List.drop_of_length_le (by omega), h4 (by omega) hk] at h1
  rw [h1]; rfl
theorem ld_u {x : Nat} (hx : x < 256) : ld (u x) = ((decide (97 ≤ x) && decide (x ≤ 122)) || (decide (48 ≤ x) && decide (x ≤ 57)) || decide (x = 45)) := ld_all ⟨x, hx⟩

set_option maxRecDepth 100000 in
set_option maxHeartbeats 8000000 in
theorem rIs_no (n d r : ByteArray) (w : World) (h1 : n.size ≤ 1048576) (h2 : d.size ≤ 1048576) (h3 : r.size ≤ 1048576) (hno : (okp n.data.toList && okp d.data.toList && okp r.data.toList && !d.data.toList.isEmpty) = false) :
    Calls Tryz.prog 25 #[.agg #[.string n, .string d, .string r]] w fun e w' => e = .returned (.bool false) ∧ Below w.heap.size w w' := by
  have T1 := Lib.hid (fun W => rText_any n W h1)
  have T2 := Lib.hid (fun W => rText_any d W h2)
  have T3 := Lib.hid (fun W => rText_any r W h3)
  generalize okp n.data.toList = a at T1 hno
  generalize okp d.data.toList = b at T2 hno
  generalize okp r.data.toList = c at T3 hno
  clear h1 h2 h3
  cases a
  · clear hno
    go_enter Tryz.func25, Tryz.ntmps25
    go_wp2_with fail
    refine (T1.out _).mono ?_
    rintro e w1 ⟨rfl, hb1⟩
    have B1 : Hid (Below w.heap.size w w1) := ((Below.refl _ _).alloc (Nat.le_refl _) _).trans (hb1.mono (by simp))
    clear hb1
    go_wp2_with fail
    go_ret
    exact ⟨rfl, B1.out⟩
  cases b
  · clear hno
    go_enter Tryz.func25, Tryz.ntmps25
    go_wp2_with fail
    refine (T1.out _).mono ?_
    rintro e w1 ⟨rfl, hb1⟩
    have B1 : Hid (Below w.heap.size w w1) := ((Below.refl _ _).alloc (Nat.le_refl _) _).trans (hb1.mono (by simp))
    obtain ⟨hc1, _⟩ := bcell hb1
    have hz1 : w.heap.size < w1.heap.size := by have := hb1.size; simp at this; omega
    clear hb1
    go_wp2_with fail
    refine (T2.out _).mono ?_
    rintro e w2 ⟨rfl, hb2⟩
    have B2 : Hid (Below w.heap.size w w2) := B1.out.trans (hb2.mono B1.out.size)
    clear hb2 hc1
    go_wp2_with fail
    go_ret
    exact ⟨rfl, B2.out⟩
  cases c
  · clear hno
    go_enter Tryz.func25, Tryz.ntmps25
    go_wp2_with fail
    refine (T1.out _).mono ?_
    rintro e w1 ⟨rfl, hb1⟩
    have B1 : Hid (Below w.heap.size w w1) := ((Below.refl _ _).alloc (Nat.le_refl _) _).trans (hb1.mono (by simp))
    obtain ⟨hc1, _⟩ := bcell hb1
    have hz1 : w.heap.size < w1.heap.size := by have := hb1.size; simp at this; omega
    clear hb1
    go_wp2_with fail
    refine (T2.out _).mono ?_
    rintro e w2 ⟨rfl, hb2⟩
    have B2 : Hid (Below w.heap.size w w2) := B1.out.trans (hb2.mono B1.out.size)
    obtain ⟨hc2, _⟩ := bcell hb2
    have hz2 : w.heap.size < w2.heap.size := by have := hb2.size; omega
    clear hb2
    go_wp2_with fail
    refine (T3.out _).mono ?_
    rintro e w3 ⟨rfl, hb3⟩
    have B3 : Hid (Below w.heap.size w w3) := B2.out.trans (hb3.mono B2.out.size)
    have c0 : w3.cell? ⟨w.heap.size, 0, none⟩ = some (.string n) := by rw [(bcell hb3).1 _ _ hz2, hc2 _ _ hz1, hc1 _ _ (by simp)]; simp
    have c1 : w3.cell? ⟨w.heap.size, 1, none⟩ = some (.string d) := by rw [(bcell hb3).1 _ _ hz2, hc2 _ _ hz1, hc1 _ _ (by simp)]; simp
    clear hb3 hc1 hc2 hz1 hz2
    go_wp2_with fail
    go_ret
    exact ⟨rfl, B3.out⟩
  · have hd : d.data.toList = [] := by simpa using hno
    obtain rfl := empty_list hd
    clear hno hd
    go_enter Tryz.func25, Tryz.ntmps25
    go_wp2_with fail
    refine (T1.out _).mono ?_
    rintro e w1 ⟨rfl, hb1⟩
    have B1 : Hid (Below w.heap.size w w1) := ((Below.refl _ _).alloc (Nat.le_refl _) _).trans (hb1.mono (by simp))
    obtain ⟨hc1, _⟩ := bcell hb1
    have hz1 : w.heap.size < w1.heap.size := by have := hb1.size; simp at this; omega
    clear hb1
    go_wp2_with fail
    refine (T2.out _).mono ?_
    rintro e w2 ⟨rfl, hb2⟩
    have B2 : Hid (Below w.heap.size w w2) := B1.out.trans (hb2.mono B1.out.size)
    obtain ⟨hc2, _⟩ := bcell hb2
    have hz2 : w.heap.size < w2.heap.size := by have := hb2.size; omega
    clear hb2
    go_wp2_with fail
    refine (T3.out _).mono ?_
    rintro e w3 ⟨rfl, hb3⟩
    have B3 : Hid (Below w.heap.size w w3) := B2.out.trans (hb3.mono B2.out.size)
    have c0 : w3.cell? ⟨w.heap.size, 0, none⟩ = some (.string n) := by rw [(bcell hb3).1 _ _ hz2, hc2 _ _ hz1, hc1 _ _ (by simp)]; simp
    have c1 : w3.cell? ⟨w.heap.size, 1, none⟩ = some (.string ⟨#[]⟩) := by rw [(bcell hb3).1 _ _ hz2, hc2 _ _ hz1, hc1 _ _ (by simp)]; simp
    clear hb3 hc1 hc2 hz1 hz2
    go_wp2_with fail
    go_ret
    exact ⟨rfl, B3.out⟩

set_option maxRecDepth 100000 in
set_option maxHeartbeats 8000000 in
theorem rIs_go (n d r : ByteArray) (w : World) (v : Bool) (h1 : n.size ≤ 1048576) (h2 : d.size ≤ 1048576) (hne : d.toList.isEmpty = false)
    (T1 : Hid (∀ W, Calls Tryz.prog 44 #[.string n] W fun e w' => e = .returned (.bool true) ∧ Below W.heap.size W w'))
    (T2 : Hid (∀ W, Calls Tryz.prog 44 #[.string d] W fun e w' => e = .returned (.bool true) ∧ Below W.heap.size W w'))
    (T3 : Hid (∀ W, Calls Tryz.prog 44 #[.string r] W fun e w' => e = .returned (.bool true) ∧ Below W.heap.size W w'))
    (hv : ((n.data.toList.all fun b => !barN b && !up b) && dm true d.data.toList) = v) :
    Calls Tryz.prog 25 #[.agg #[.string n, .string d, .string r]] w fun e w' => e = .returned (.bool v) ∧ Below w.heap.size w w' := by
  have HV := Lib.hid hv
  have HLn : Hid (n.data.toList.length = n.size) := (Lib.size_eq n).symm
  have HLd : Hid (d.data.toList.length = d.size) := (Lib.size_eq d).symm
  have HP : Hid (0 < d.size) := by
    show 0 < d.size
    rw [ByteArray.toList_eq] at hne
    rw [Lib.size_eq]
    cases e : d.data.toList with
    | nil => rw [e] at hne; cases hne
    | cons _ _ => simp
  clear hv
  go_enter Tryz.func25, Tryz.ntmps25
  go_wp2_with fail
  refine (T1.out _).mono ?_
  rintro e w1 ⟨rfl, hb1⟩
  have B1 : Hid (Below w.heap.size w w1) := ((Below.refl _ _).alloc (Nat.le_refl _) _).trans (hb1.mono (by simp))
  obtain ⟨hc1, _⟩ := bcell hb1
  have hz1 : w.heap.size < w1.heap.size := by have := hb1.size; simp at this; omega
  clear hb1
  go_wp2_with fail
  refine (T2.out _).mono ?_
  rintro e w2 ⟨rfl, hb2⟩
  have B2 : Hid (Below w.heap.size w w2) := B1.out.trans (hb2.mono B1.out.size)
  obtain ⟨hc2, _⟩ := bcell hb2
  have hz2 : w.heap.size < w2.heap.size := by have := hb2.size; omega
  clear hb2
  go_wp2_with fail
  refine (T3.out _).mono ?_
  rintro e w3 ⟨rfl, hb3⟩
  have B3 : Hid (Below w.heap.size w w3) := B2.out.trans (hb3.mono B2.out.size)
  have c0 : w3.cell? ⟨w.heap.size, 0, none⟩ = some (.string n) := by rw [(bcell hb3).1 _ _ hz2, hc2 _ _ hz1, hc1 _ _ (by simp)]; simp
  have c1 : w3.cell? ⟨w.heap.size, 1, none⟩ = some (.string d) := by rw [(bcell hb3).1 _ _ hz2, hc2 _ _ hz1, hc1 _ _ (by simp)]; simp
  clear hb3 hc1 hc2 hz1 hz2
  go_wp2_with fail
  have f1 := c1
  clear hne
  go_loopw [3] (fun i wr => ∃ k : Nat, i = .int .i64 k ∧ w3 = wr ∧ k ≤ n.size ∧ Hid (∀ j, j < k → (!barN (u (nb n.data.toList j)) && !up (u (nb n.data.toList j))) = true)) (fun i _ => n.size - (RowKit.intOf i).toNat)
  case atStart => exact ⟨0, rfl, rfl, by omega, (fun j hj => by omega)⟩
  case round =>
    obtain ⟨k, rfl, rfl, hk, HA⟩ := hrel
    by_cases hlt : k < n.size
    · have hb := byte_nb n k hlt
      have hx := nb_lt n.data.toList k
      have HBad : Hid ((!barN (u (nb n.data.toList k)) && !up (u (nb n.data.toList k))) = false → v = false) := by
        intro h
        rw [← HV.out]
        have : (n.data.toList.all fun b => !barN b && !up b) = false := by
          rw [List.all_eq_false]
          have hkl : k < n.data.toList.length := by rw [HLn.out]; exact hlt
          exact ⟨_, List.getElem_mem hkl, by rw [nb_at hkl, h]; exact Bool.false_ne_true⟩
        rw [this, Bool.false_and]
      have HNext : Hid ((!barN (u (nb n.data.toList k)) && !up (u (nb n.data.toList k))) = true → ∀ j, j < k + 1 → (!barN (u (nb n.data.toList j)) && !up (u (nb n.data.toList j))) = true) := by
        intro h j hj
        by_cases e : j = k
        · subst e; exact h
        · exact HA.out j (by omega)
      generalize nb n.data.toList k = x at hb hx HBad HNext
      have IN := Lib.hid (fun W => in_barN x W hx)
      have hup := up_u hx
      cases hbar : barN (u x) with
      | true =>
        have HX := Lib.hid (HBad.out (by rw [hbar]; rfl))
        rw [hbar] at IN
        clear hbar hup
        go_wp2_with fail
        refine (IN.out _).mono ?_
        rintro e w9 ⟨rfl, rfl⟩
        go_wp2_with fail
        go_ret
        exact ⟨by rw [HX.out]; rfl, B3.out⟩
      | false =>
        rw [hbar] at IN HNext HBad
        by_cases h65 : 65 ≤ x
        · by_cases h90 : x ≤ 90
          · have HX := Lib.hid (HBad.out (by rw [hup]; simp [h65, h90]))
            have g1 : decide ((65 : Int) ≤ x) = true := by simp; omega
            have g2 : decide ((x : Int) ≤ 90) = true := by simp; omega
            clear hbar hup h65 h90
            go_wp2_with fail
            refine (IN.out _).mono ?_
            rintro e w9 ⟨rfl, rfl⟩
            go_wp2_with fail
            go_ret
            exact ⟨by rw [HX.out]; rfl, B3.out⟩
          · have HX := Lib.hid (HNext.out (by rw [hup]; simp [h90]))
            have g1 : decide ((65 : Int) ≤ x) = true := by simp; omega
            have g2 : decide ((x : Int) ≤ 90) = false := by simp; omega
            clear hbar hup h65 h90
            go_wp2_with fail
            refine (IN.out _).mono ?_
            rintro e w9 ⟨rfl, hw9⟩
            subst hw9
            go_wp2_with fail
            exact ⟨⟨k + 1, by go_num, trivial, by omega, HX.out⟩, by simp [RowKit.intOf]; omega⟩
        · have HX := Lib.hid (HNext.out (by rw [hup]; simp [h65]))
          have g1 : decide ((65 : Int) ≤ x) = false := by simp; omega
          clear hbar hup h65
          go_wp2_with fail
          refine (IN.out _).mono ?_
          rintro e w9 ⟨rfl, hw9⟩
          subst hw9
          go_wp2_with fail
          exact ⟨⟨k + 1, by go_num, trivial, by omega, HX.out⟩, by simp [RowKit.intOf]; omega⟩
    · have HV2 : Hid (dm true d.data.toList = v) := by
        have hall : (n.data.toList.all fun b => !barN b && !up b) = true := by
          rw [List.all_eq_true]
          intro b hb
          obtain ⟨i, hi, rfl⟩ := List.getElem_of_mem hb
          have := HA.out i (by rw [HLn.out] at hi; omega)
          rw [nb_at hi]; exact this
        have := HV.out
        rw [hall, Bool.true_and] at this
        exact this
      clear HA
      go_wp2_with fail
      go_loopw [5, 6] (fun i c wr => ∃ k : Nat, i = .int .i64 k ∧ w3 = wr ∧ k ≤ d.size ∧ Hid (DomAt d.data.toList k)) (fun i _ _ => d.size - (RowKit.intOf i).toNat)
      case atStart => exact ⟨0, rfl, rfl, by omega, DomAt.start _⟩
      case round =>
        obtain ⟨k, rfl, rfl, hk, HD⟩ := hrel
        by_cases hlt : k < d.size
        · have hb := byte_nb d k hlt
          have hx := nb_lt d.data.toList k
          have HLt : Hid (k < d.data.toList.length) := by show _ < _; rw [HLd.out]; exact hlt
          by_cases h46 : nb d.data.toList k = 46
          · rw [h46] at hb
            obtain ⟨e, he⟩ : ∃ e, d.size = e + 1 := ⟨d.size - 1, by omega⟩
            have HE := Lib.hid he
            have q0 : (d.size : Int) - 1 = (e : Int) := by omega
            clear he
            by_cases hk0 : k = 0
            · have HX : Hid (v = false) := by show _ = _; rw [← HV2.out]; exact HD.out.pointFirst HLt.out h46 hk0
              have q1 : ((k : Int) == 0) = true := by rw [beq_iff_eq]; omega
              clear hk0 h46 hx
              go_wp2_with fail
              go_ret
              exact ⟨by rw [HX.out]; rfl, B3.out⟩
            · have q1 : ((k : Int) == 0) = false := by rw [beq_eq_false_iff_ne]; omega
              by_cases hke : k = e
              · have HX : Hid (v = false) := by show _ = _; rw [← HV2.out]; exact HD.out.pointLast (by rw [HLd.out, HE.out, hke]) h46
                have q2 : ((k : Int) == (e : Int)) = true := by rw [beq_iff_eq]; omega
                have q3 : (k == e) = true := by rw [beq_iff_eq]; exact hke
                clear hk0 hke h46 hx
                go_wp2_with fail
                go_ret
                exact ⟨by rw [HX.out]; rfl, B3.out⟩
              · have q2 : ((k : Int) == (e : Int)) = false := by rw [beq_eq_false_iff_ne]; omega
                have q3 : (k == e) = false := by rw [beq_eq_false_iff_ne]; exact hke
                obtain ⟨m, hm⟩ : ∃ m, k = m + 1 := ⟨k - 1, by omega⟩
                have HM := Lib.hid hm
                have hms : m < d.size := by omega
                have q4 : (k : Int) - 1 = (m : Int) := by omega
                have hbm := byte_nb d m hms
                have hy := nb_lt d.data.toList m
                by_cases h46m : nb d.data.toList m = 46
                · have HX : Hid (v = false) := by show _ = _; rw [← HV2.out]; exact HD.out.pointTwice HLt.out h46 HM.out h46m
                  rw [h46m] at hbm
                  clear hk0 hke h46 hx hm hy h46m
                  go_wp2_with fail
                  go_ret
                  exact ⟨by rw [HX.out]; rfl, B3.out⟩
                · have HX : Hid (DomAt d.data.toList (k + 1)) := HD.out.point (by rw [HLd.out]; have := HE.out; omega) h46 HM.out h46m
                  generalize nb d.data.toList m = y at hbm hy h46m
                  have q5 : ((y : Int) == 46) = false := by rw [beq_eq_false_iff_ne]; omega
                  clear hk0 hke h46 hx hm hy h46m
                  go_wp2_with fail
                  exact ⟨⟨k + 1, by go_num, trivial, by omega, HX.out⟩, by simp [RowKit.intOf]; omega⟩
          · have HL : Hid (ld (u (nb d.data.toList k)) = true → DomAt d.data.toList (k + 1)) := fun h => HD.out.letter HLt.out rfl h46 h
            have HO : Hid (ld (u (nb d.data.toList k)) = false → v = false) := fun h => by rw [← HV2.out]; exact HD.out.other HLt.out rfl h46 h
            generalize nb d.data.toList k = x at hb hx h46 HL HO
            have hld := ld_u hx
            have q46 : ((x : Int) == 46) = false := by rw [beq_eq_false_iff_ne]; omega
            clear HLt HD
            have hr : (x ≤ 44) ∨ (x = 45) ∨ (x = 47) ∨ (48 ≤ x ∧ x ≤ 57) ∨ (58 ≤ x ∧ x ≤ 96) ∨ (97 ≤ x ∧ x ≤ 122) ∨ (123 ≤ x) := by omega
            rcases hr with hr | hr | hr | hr | hr | hr | hr
            · have p1 : decide ((97 : Int) ≤ x) = false := by simp; omega
              have p2 : decide ((x : Int) ≤ 122) = true := by simp; omega
              have p3 : decide ((48 : Int) ≤ x) = false := by simp; omega
              have p4 : decide ((x : Int) ≤ 57) = true := by simp; omega
              have p5 : ((x : Int) == 45) = false := by rw [beq_eq_false_iff_ne]; omega
              have HX := Lib.hid (HO.out (by rw [hld]; simp; omega))
              clear hld hr h46 hx
              go_wp2_with fail
              go_ret
              exact ⟨by rw [HX.out]; rfl, B3.out⟩
            · have p1 : decide ((97 : Int) ≤ x) = false := by simp; omega
              have p2 : decide ((x : Int) ≤ 122) = true := by simp; omega
              have p3 : decide ((48 : Int) ≤ x) = false := by simp; omega
              have p4 : decide ((x : Int) ≤ 57) = true := by simp; omega
              have p5 : ((x : Int) == 45) = true := by rw [beq_iff_eq]; omega
              have HX := Lib.hid (HL.out (by rw [hld]; simp; omega))
              clear hld hr h46 hx
              go_wp2_with fail
              exact ⟨⟨k + 1, by go_num, trivial, by omega, HX.out⟩, by simp [RowKit.intOf]; omega⟩
            · have p1 : decide ((97 : Int) ≤ x) = false := by simp; omega
              have p2 : decide ((x : Int) ≤ 122) = true := by simp; omega
              have p3 : decide ((48 : Int) ≤ x) = false := by simp; omega
              have p4 : decide ((x : Int) ≤ 57) = true := by simp; omega
              have p5 : ((x : Int) == 45) = false := by rw [beq_eq_false_iff_ne]; omega
              have HX := Lib.hid (HO.out (by rw [hld]; simp; omega))
              clear hld hr h46 hx
              go_wp2_with fail
              go_ret
              exact ⟨by rw [HX.out]; rfl, B3.out⟩
            · have p1 : decide ((97 : Int) ≤ x) = false := by simp; omega
              have p2 : decide ((x : Int) ≤ 122) = true := by simp; omega
              have p3 : decide ((48 : Int) ≤ x) = true := by simp; omega
              have p4 : decide ((x : Int) ≤ 57) = true := by simp; omega
              have p5 : ((x : Int) == 45) = false := by rw [beq_eq_false_iff_ne]; omega
              have HX := Lib.hid (HL.out (by rw [hld]; simp; omega))
              clear hld hr h46 hx
              go_wp2_with fail
              exact ⟨⟨k + 1, by go_num, trivial, by omega, HX.out⟩, by simp [RowKit.intOf]; omega⟩
            · have p1 : decide ((97 : Int) ≤ x) = false := by simp; omega
              have p2 : decide ((x : Int) ≤ 122) = true := by simp; omega
              have p3 : decide ((48 : Int) ≤ x) = true := by simp; omega
              have p4 : decide ((x : Int) ≤ 57) = false := by simp; omega
              have p5 : ((x : Int) == 45) = false := by rw [beq_eq_false_iff_ne]; omega
              have HX := Lib.hid (HO.out (by rw [hld]; simp; omega))
              clear hld hr h46 hx
              go_wp2_with fail
              go_ret
              exact ⟨by rw [HX.out]; rfl, B3.out⟩
            · have p1 : decide ((97 : Int) ≤ x) = true := by simp; omega
              have p2 : decide ((x : Int) ≤ 122) = true := by simp; omega
              have p3 : decide ((48 : Int) ≤ x) = true := by simp; omega
              have p4 : decide ((x : Int) ≤ 57) = false := by simp; omega
              have p5 : ((x : Int) == 45) = false := by rw [beq_eq_false_iff_ne]; omega
              have HX := Lib.hid (HL.out (by rw [hld]; simp; omega))
              clear hld hr h46 hx
              go_wp2_with fail
              exact ⟨⟨k + 1, by go_num, trivial, by omega, HX.out⟩, by simp [RowKit.intOf]; omega⟩
            · have p1 : decide ((97 : Int) ≤ x) = true := by simp; omega
              have p2 : decide ((x : Int) ≤ 122) = false := by simp; omega
              have p3 : decide ((48 : Int) ≤ x) = true := by simp; omega
              have p4 : decide ((x : Int) ≤ 57) = false := by simp; omega
              have p5 : ((x : Int) == 45) = false := by rw [beq_eq_false_iff_ne]; omega
              have HX := Lib.hid (HO.out (by rw [hld]; simp; omega))
              clear hld hr h46 hx
              go_wp2_with fail
              go_ret
              exact ⟨by rw [HX.out]; rfl, B3.out⟩
        · have HX : Hid (v = true) := by show _ = _; rw [← HV2.out]; exact HD.out.done (by rw [HLd.out]; omega) (by rw [HLd.out]; exact HP.out)
          go_wp2_with fail
          go_ret
          exact ⟨by rw [HX.out]; rfl, B3.out⟩
theorem rIs_any3 (n d r : ByteArray) (w : World) (h1 : n.size ≤ 1048576) (h2 : d.size ≤ 1048576) (h3 : r.size ≤ 1048576) :
    Calls Tryz.prog 25 #[.agg #[.string n, .string d, .string r]] w fun e w' => e = .returned (.bool (ok (jd n d r))) ∧ Below w.heap.size w w' := by
  rw [ok_bool]
  by_cases hp : (okp n.data.toList && okp d.data.toList && okp r.data.toList && !d.data.toList.isEmpty) = true
  · simp only [Bool.and_eq_true, Bool.not_eq_true'] at hp
    obtain ⟨⟨⟨p1, p2⟩, p3⟩, p4⟩ := hp
    rw [p1, p2, p3]
    refine rIs_go n d r w _ h1 h2 (by rw [ByteArray.toList_eq]; exact p4) ?_ ?_ ?_ (by simp)
    · exact fun W => by have := rText_any n W h1; rwa [p1] at this
    · exact fun W => by have := rText_any d W h2; rwa [p2] at this
    · exact fun W => by have := rText_any r W h3; rwa [p3] at this
  · have hp2 := Bool.eq_false_iff.2 hp
    have e : (okp n.data.toList && okp d.data.toList && okp r.data.toList && (n.data.toList.all fun b => !barN b && !up b) && dm true d.data.toList) = false := by
      rw [Bool.eq_false_iff]
      intro h
      simp only [Bool.and_eq_true] at h
      obtain ⟨⟨⟨⟨a, b⟩, c⟩, _⟩, g⟩ := h
      apply hp
      rw [a, b, c]
      cases hd : d.data.toList with
      | nil => rw [hd] at g; simp [dm] at g
      | cons _ _ => rfl
    rw [e]
    exact rIs_no n d r w h1 h2 h3 hp2

end Go.Proofs.YtlklmoohoobjjaaGreatDoor.Jn
