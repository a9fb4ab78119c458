/- The document's own answers for layer 3, first part: in, first, text. Condition: a text has at most 1048576 bytes. -/
import Derived.Test.YthhmdkdpfeofjaaGreatDoorRsg
import Derived.Test.YthhmdkdpfeofjaaGreatDoorJlb
import Derived.Deep.AppendLies
namespace Go.Proofs.YthhmdkdpfeofjaaGreatDoor
open Go.RowKit Go.Lib Go.Shelf Sg Jd

theorem nb_at {l : List UInt8} {k : Nat} (h : k < l.length) : l[k] = u (nb l k) := by
  unfold nb
  rw [List.getD_eq_getElem?_getD, List.getElem?_eq_getElem h]
  exact (u_of rfl).symm
theorem contains_no {l : List UInt8} {x : Nat} (hx : x < 256) (h : ∀ j, j < l.length → nb l j ≠ x) : l.contains (u x) = false := by
  rw [Bool.eq_false_iff]
  intro e
  have hm : u x ∈ l := by simpa using e
  obtain ⟨i, hi, he⟩ := List.getElem_of_mem hm
  refine h i hi ?_
  rw [nb_at hi] at he
  have := congrArg UInt8.toNat he
  rwa [u_nat (nb_lt l i), u_nat hx] at this
theorem contains_yes {l : List UInt8} {x k : Nat} (hk : k < l.length) (h : nb l k = x) : l.contains (u x) = true := by
  rw [← h, ← nb_at hk]; simp
theorem index_at {l : List UInt8} {x k : Nat} (hx : x < 256) (hk : k < l.length) (h : nb l k = x) (hno : ∀ j, j < k → nb l j ≠ x) : Lib.indexByte l (u x) = k := by
  have e : l = l.take k ++ u x :: l.drop (k + 1) := by
    conv => lhs; rw [← List.take_append_drop k l, List.drop_eq_getElem_cons hk, nb_at hk, h]
  have hn : u x ∉ l.take k := by
    have h0 := contains_no (l := l.take k) hx (fun j hj => by
      have hj2 : j < k := by rw [List.length_take] at hj; omega
      have := hno j hj2
      unfold nb at this ⊢
      rw [List.getD_eq_getElem?_getD, List.getElem?_take, if_pos hj2, ← List.getD_eq_getElem?_getD]
      exact this)
    intro hm
    have : (l.take k).contains (u x) = true := by simpa using hm
    rw [h0] at this
    cases this
  rw [indexByte_cut, e, cut1_at _ hn]
  simp
  omega
theorem index_no {l : List UInt8} {x : Nat} (hx : x < 256) (h : ∀ j, j < l.length → nb l j ≠ x) : Lib.indexByte l (u x) = -1 := by
  have h0 := contains_no hx h
  rw [indexByte_cut, cut1_out]
  intro e
  have : l.contains (u x) = true := by simpa using e
  rw [h0] at this
  cases this

set_option maxHeartbeats 1000000 in
theorem rIn_any (x : Nat) (s : ByteArray) (w : World) (hx : x < 256) (hs : s.size ≤ 1048576) :
    Calls Tryz.prog 44 #[.int .u8 x, .string s] w fun e w' => e = .returned (.bool (s.data.toList.contains (u x))) ∧ w = w' := by
  have HL : Hid (s.data.toList.length = s.size) := (Lib.size_eq s).symm
  go_enter Tryz.func44, Tryz.ntmps44
  go_wp2_with fail
  go_loopw [5] (fun i wr => ∃ k : Nat, i = .int .i64 k ∧ w = wr ∧ k ≤ s.size ∧ Hid (∀ j, j < k → nb s.data.toList j ≠ x)) (fun i _ => s.size - (RowKit.intOf i).toNat)
  case atStart => exact ⟨0, rfl, rfl, by omega, (fun j hj => by omega)⟩
  case round =>
    obtain ⟨k, rfl, rfl, hk, HA⟩ := hrel
    by_cases hlt : k < s.size
    · have hb := byte_nb s k hlt
      have hy := nb_lt s.data.toList k
      by_cases e : nb s.data.toList k = x
      · have HF := Lib.hid (contains_yes (l := s.data.toList) (by rw [HL.out]; exact hlt) e)
        rw [e] at hb
        clear e
        go_wp2_with fail
        go_ret
        exact ⟨by rw [HF.out]; rfl, rfl⟩
      · have HA2 : Hid (∀ j, j < k + 1 → nb s.data.toList j ≠ x) := fun j hj => by
          by_cases e2 : j = k
          · subst e2; exact e
          · exact HA.out j (by omega)
        generalize nb s.data.toList k = y at hb hy e
        have f : (y == x) = false := by rw [beq_eq_false_iff_ne]; exact e
        have f2 : ((y : Int) == (x : Int)) = false := by rw [beq_eq_false_iff_ne]; omega
        clear e
        go_wp2_with fail
        exact ⟨⟨k + 1, by go_num, trivial, by omega, HA2.out⟩, by simp [RowKit.intOf]; omega⟩
    · have HF : Hid (s.data.toList.contains (u x) = false) := contains_no hx (fun j hj => HA.out j (by rw [HL.out] at hj; omega))
      go_wp2_with fail
      go_ret
      exact ⟨by rw [HF.out]; rfl, rfl⟩
theorem rSigns_yes (s : ByteArray) (w : World) (hs : s.size ≤ 1048576) {cs : List Nat} (h : IsT s.data.toList cs) :
    Calls Tryz.prog 58 #[.string s] w fun e w' => (∃ v, e = .returned (.tuple #[v, .bool true]) ∧ w'.ownsRow w.heap.size 3 1 v cs.length (sgnVals cs)) ∧ Below w.heap.size w w' :=
  (rSigns_any s w hs).mono fun e w' hp => by
    rcases hp with ⟨⟨ds, v, hd, he, ho⟩ | ⟨hn, _⟩, hb⟩
    · rw [h.unique hd]; exact ⟨⟨v, he, ho⟩, hb⟩
    · exact absurd h (hn cs)
theorem rSigns_no (s : ByteArray) (w : World) (hs : s.size ≤ 1048576) (h : ∀ cs, ¬ IsT s.data.toList cs) :
    Calls Tryz.prog 58 #[.string s] w fun e w' => e = .returned (.tuple #[.slice none 0 0, .bool false]) ∧ Below w.heap.size w w' :=
  (rSigns_any s w hs).mono fun e w' hp => by
    rcases hp with ⟨⟨ds, v, hd, _, _⟩ | ⟨_, he⟩, hb⟩
    · exact absurd hd (h ds)
    · exact ⟨he, hb⟩
theorem sign_cell {w : World} {base g cap : Nat} {cs : List Nat} (h : w.ownsRow base 3 1 (.slice (some ⟨g, 0, none⟩) cs.length cap) cs.length (sgnVals cs)) {k : Nat} (hk : k < cs.length) :
    w.cell? ⟨g, k, none⟩ = some (.int .i64 (cs[k]'hk : Nat)) := by
  have h1 := h.cells (g := g) rfl k (.int .i64 (cs[k]'hk : Nat)) (by simp [sgnVals, hk])
  have h0 : (⟨g, 0, none⟩ : Addr).add k = ⟨g, k, none⟩ := by unfold Addr.add; split <;> simp_all
  rwa [h0] at h1
theorem sign_le {cs : List Nat} {l : List UInt8} (h : IsT l cs) : cs.length ≤ l.length := by rw [h.2]; exact cat_len cs
set_option maxRecDepth 100000 in
set_option maxHeartbeats 2000000 in
theorem rText_any (s : ByteArray) (w : World) (hs : s.size ≤ 1048576) :
    Calls Tryz.prog 43 #[.string s] w fun e w' => e = .returned (.bool (okp s.data.toList)) ∧ Below w.heap.size w w' := by
  by_cases ht : ∃ cs, IsT s.data.toList cs
  · obtain ⟨cs, ht⟩ := ht
    have SG := Lib.hid (fun W => rSigns_yes s W hs ht)
    have HO : Hid (okp s.data.toList = (decide (s.size ≤ 1023) && !cs.any low31)) := by
      show _ = _
      rw [okp_text ht, ← Lib.size_eq]
    have hn := sign_le ht
    rw [← Lib.size_eq] at hn
    generalize okp s.data.toList = ov at HO ⊢
    clear ht
    by_cases hl : s.size ≤ 1023
    · have f : decide ((1023 : Int) < s.size) = false := by simp; omega
      have HO2 : Hid (ov = !cs.any low31) := by show _ = _; have := HO.out; simpa [hl] using this
      clear HO
      go_enter Tryz.func43, Tryz.ntmps43
      go_wp2_with fail
      refine (SG.out _).mono ?_
      rintro r w1 ⟨⟨v, rfl, ho⟩, hb1⟩
      have HB := Lib.hid hb1
      clear hb1
      by_cases hc : cs = []
      · subst hc
        obtain ⟨a, c, rfl⟩ : ∃ a c, v = .slice a 0 c := by
          rcases ho.2 with ⟨rfl, _⟩ | ⟨g, cap, cur, rfl, _⟩
          · exact ⟨none, 0, rfl⟩
          · exact ⟨_, cap, rfl⟩
        clear ho
        have HO3 : Hid (ov = true) := HO2.out
        clear HO2 SG hn
        go_wp2_with fail
        go_loopw [5] (fun i wr => i = .int .i64 0 ∧ w1 = wr) (fun _ _ => 0)
        case atStart => exact ⟨rfl, rfl⟩
        case round =>
          obtain ⟨rfl, rfl⟩ := hrel
          go_wp2_with fail
          go_ret
          exact ⟨by rw [HO3.out]; rfl, HB.out⟩
      · have hpos : 0 < cs.length := List.length_pos_iff.2 hc
        obtain ⟨g, cap, rfl, _, hg⟩ := ho.form hpos
        have HR := Lib.hid ho
        clear ho hc
        go_wp2_with fail
        go_loopw [5] (fun i wr => ∃ k : Nat, i = .int .i64 k ∧ w1 = wr ∧ k ≤ cs.length ∧ Hid (∀ c ∈ cs.take k, low31 c = false)) (fun i _ => cs.length - (RowKit.intOf i).toNat)
        case atStart => exact ⟨0, rfl, rfl, by omega, (fun c hc => by simp at hc)⟩
        case round =>
          obtain ⟨k, rfl, rfl, hk, HK⟩ := hrel
          by_cases hlt : k < cs.length
          · have hcell := sign_cell HR.out hlt
            have HT : Hid (∀ q, q ∈ cs.take (k + 1) → q ∈ cs.take k ∨ q = cs[k]'hlt) := by
              intro q hq
              rw [List.take_succ_eq_append_getElem hlt, List.mem_append, List.mem_singleton] at hq
              exact hq
            have HF : Hid (low31 (cs[k]'hlt) = true → ov = false) := by
              intro h
              rw [HO2.out, Bool.not_eq_false', List.any_eq_true]
              exact ⟨_, List.getElem_mem hlt, h⟩
            generalize cs[k]'hlt = c at hcell HT HF
            by_cases h32 : c < 32
            · have HX : Hid (ov = false) := HF.out (by unfold low31; simp [h32])
              have f1 : decide ((c : Int) < 32) = true := by simp; omega
              clear h32
              go_wp2_with fail
              go_ret
              exact ⟨by rw [HX.out]; rfl, HB.out⟩
            · have f1 : decide ((c : Int) < 32) = false := by simp; omega
              by_cases h127 : c = 127
              · have HX : Hid (ov = false) := HF.out (by unfold low31; simp [h127])
                have f2 : ((c : Int) == 127) = true := by rw [beq_iff_eq]; omega
                clear h32 h127
                go_wp2_with fail
                go_ret
                exact ⟨by rw [HX.out]; rfl, HB.out⟩
              · have f2 : ((c : Int) == 127) = false := by rw [beq_eq_false_iff_ne]; omega
                have HX : Hid (low31 c = false) := by show _ = _; unfold low31; simp [h32, h127]
                clear h32 h127
                go_wp2_with fail
                refine ⟨⟨k + 1, by go_num, trivial, by omega, fun q hq => ?_⟩, by simp [RowKit.intOf]; omega⟩
                rcases HT.out q hq with h | rfl
                · exact HK.out q h
                · exact HX.out
          · have HX : Hid (ov = true) := by
              show _ = _
              rw [HO2.out, Bool.not_eq_true', List.any_eq_false]
              intro c hc
              have := HK.out c (by rw [List.take_of_length_le (by omega)]; exact hc)
              rw [this]; exact Bool.false_ne_true
            go_wp2_with fail
            go_ret
            exact ⟨by rw [HX.out]; rfl, HB.out⟩
    · have f : decide ((1023 : Int) < s.size) = true := by simp; omega
      have HO2 : Hid (ov = false) := by show _ = _; have := HO.out; simpa [hl] using this
      clear HO
      go_enter Tryz.func43, Tryz.ntmps43
      go_wp2_with fail
      refine (SG.out _).mono ?_
      rintro r w1 ⟨⟨v, rfl, ho⟩, hb1⟩
      have HB := Lib.hid hb1
      clear hb1 ho
      go_wp2_with fail
      go_ret
      exact ⟨by rw [HO2.out]; rfl, HB.out⟩
  · have hno : ∀ cs, ¬ IsT s.data.toList cs := fun cs h => ht ⟨cs, h⟩
    have SG := Lib.hid (fun W => rSigns_no s W hs hno)
    have HO := Lib.hid (okp_none hno)
    clear ht hno
    go_enter Tryz.func43, Tryz.ntmps43
    go_wp2_with fail
    refine (SG.out _).mono ?_
    rintro r w1 ⟨rfl, hb1⟩
    have HB := Lib.hid hb1
    clear hb1
    go_wp2_with fail
    go_ret
    exact ⟨by rw [HO.out]; rfl, HB.out⟩

end Go.Proofs.YthhmdkdpfeofjaaGreatDoor
