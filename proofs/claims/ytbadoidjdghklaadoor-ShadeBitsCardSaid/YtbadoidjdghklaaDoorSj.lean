/- Contracts of the document's tag and FromHtml. Condition: the text has at most 1048576 bytes. -/
import Derived.Test.YtbadoidjdghklaaDoorSf
import Derived.Test.YtbadoidjdghklaaDoorFold
import Derived.Deep.RegionLaw
namespace Go.Proofs.YtbadoidjdghklaaDoor
open Go.RowKit Go.Lib Go.Shelf Sg Sh

/-- How many bytes an element at the front has. -/
def tg (l : List UInt8) : Nat := match (if l.head? = some 60 then cutAt 62 l else none) with
  | some (x, _) => x.length + 1
  | none => 0
theorem cutAt_first {c : UInt8} : ∀ {l : List UInt8} (i : Nat) (hi : i < l.length), l[i] = c → (∀ j (hj : j < i), l[j]'(by omega) ≠ c) → cutAt c l = some (l.take i, l.drop (i + 1))
  | [], i, hi, _, _ => absurd hi (Nat.not_lt_zero _)
  | b :: r, 0, _, h, _ => by
    rw [cutAt, if_pos (by simpa using h)]; rfl
  | b :: r, i + 1, hi, h, hn => by
    have ih := cutAt_first (l := r) i (by simpa using hi) (by simpa using h) (fun j hj => by simpa using hn (j + 1) (by omega))
    rw [cutAt, if_neg (by simpa using hn 0 (by omega)), ih]; rfl
theorem nb_at {l : List UInt8} {i : Nat} (h : i < l.length) : nb l i = (l[i]).toNat := by
  unfold nb
  rw [List.getD_eq_getElem?_getD, List.getElem?_eq_getElem h]; rfl
theorem tg_zero {l : List UInt8} (h : ¬ l.head? = some 60) : tg l = 0 := by unfold tg; rw [if_neg h]
theorem tg_hit {l : List UInt8} {i : Nat} (h0 : l.head? = some 60) (hi : i < l.length) (hc : nb l i = 62) (hn : ∀ j, j < i → nb l j ≠ 62) : tg l = i + 1 := by
  have := cutAt_first (c := 62) i hi (by rw [nb_at hi] at hc; exact UInt8.toNat_inj.1 (by show _ = 62; exact hc)) (fun j hj e => hn j hj (by rw [nb_at (by omega), e]; rfl))
  unfold tg
  rw [if_pos h0, this]
  show (l.take i).length + 1 = i + 1
  rw [List.length_take]; omega
theorem tg_none {l : List UInt8} (hn : ∀ j, j < l.length → nb l j ≠ 62) : tg l = 0 := by
  unfold tg
  split
  · rename_i x y hx
    split at hx
    · obtain ⟨h1, _⟩ := cutAt_some hx
      have h2 : x.length < l.length := by rw [h1]; simp
      refine absurd ?_ (hn x.length h2)
      rw [h1, nb_append_right _ _ _ (Nat.le_refl _), Nat.sub_self]; rfl
    · cases hx
  · rfl
set_option maxHeartbeats 2000000 in
theorem rtag_any (s : ByteArray) (w : World) (hs : s.size ≤ 1048576) :
    Calls Tryd.prog 34 #[.string s] w fun e w' => e = .returned (.int .i64 (tg s.data.toList)) ∧ Below w.heap.size w w' := by
  have HL := Lib.hid (By.len_size s)
  have HB0 := Lib.hid (Below.refl w.heap.size w)
  by_cases h0 : s.size = 0
  · obtain rfl := By.empty_of h0
    clear HL hs h0
    go_enter Tryd.func34, Tryd.ntmps34
    go_wp2_with fail
    go_ret
    exact ⟨rfl, HB0.out⟩
  have h1 : 0 < s.size := by omega
  have hne := By.nonempty h0
  have hb0 := By.byte_nb s 0 h1
  have hx0 : ∀ y, By.nb s.data.toList 0 = y → (s.data.toList.head? = some 60 ↔ y = 60) := by
    intro y hy
    have hl : 0 < s.data.toList.length := by rw [HL.out]; exact h1
    have e0 : s.data.toList.head? = some (s.data.toList[0]'hl) := by rw [List.head?_eq_getElem?, List.getElem?_eq_getElem hl]
    have e1 : y = (s.data.toList[0]'hl).toNat := by rw [← hy]; exact nb_at hl
    rw [e0]
    constructor
    · intro h; rw [e1, Option.some.inj h]; rfl
    · intro h; rw [Option.some.injEq]; exact UInt8.toNat_inj.1 (by show _ = 60; omega)
  have h256 := By.nb_lt s.data.toList 0
  generalize By.nb s.data.toList 0 = y at hb0 hx0 h256
  have hx := hx0 y rfl
  by_cases h60 : y = 60
  · have H60 := Lib.hid (hx.2 h60)
    have b60 : bne (y : Int) 60 = false := by rw [h60]; rfl
    clear hx hx0
    go_enter Tryd.func34, Tryd.ntmps34
    go_wp2_with fail
    go_loopw [3] (fun i wr => ∃ k : Nat, i = .int .i64 k ∧ k ≤ s.size ∧ Hid (∀ j, j < k → nb s.data.toList j ≠ 62) ∧ Hid (Below w.heap.size w wr)) (fun i _ => s.size - (RowKit.intOf i).toNat)
    case atStart => exact ⟨0, rfl, Nat.zero_le _, (fun j hj => absurd hj (Nat.not_lt_zero _)), HB0.out⟩
    case round =>
      obtain ⟨k, rfl, hk, HN, HB⟩ := hrel
      by_cases hlt : k < s.size
      · have hbk := By.byte_nb s k hlt
        have hk2 : k < s.data.toList.length := by rw [HL.out]; exact hlt
        have hv : By.nb s.data.toList k = nb s.data.toList k := rfl
        rw [hv] at hbk
        by_cases e : nb s.data.toList k = 62
        · have HT := Lib.hid (tg_hit H60.out hk2 e HN.out)
          rw [e] at hbk
          clear e hv hk2
          go_wp2_with fail
          go_ret
          exact ⟨by rw [HT.out]; rfl, HB.out⟩
        · have HN2 : Hid (∀ j, j < k + 1 → nb s.data.toList j ≠ 62) := fun j hj => by
            by_cases ej : j = k
            · subst ej; exact e
            · exact HN.out j (by omega)
          generalize nb s.data.toList k = z at hbk e hv
          have bz : ((z : Int) == 62) = false := by rw [beq_eq_false_iff_ne]; omega
          clear e hv hk2
          go_wp2_with fail
          exact ⟨⟨k + 1, by go_num, by omega, HN2.out, HB.out⟩, by simp [RowKit.intOf]; omega⟩
      · have HT := Lib.hid (tg_none (l := s.data.toList) (fun j hj => HN.out j (by rw [HL.out] at hj; omega)))
        go_wp2_with fail
        go_ret
        exact ⟨by rw [HT.out]; rfl, HB.out⟩
  · have HT := Lib.hid (tg_zero (fun e => h60 (hx.1 e)))
    have b60 : bne (y : Int) 60 = true := by unfold bne; rw [Bool.not_eq_true', beq_eq_false_iff_ne]; omega
    clear hx hx0
    go_enter Tryd.func34, Tryd.ntmps34
    go_wp2_with fail
    go_ret
    exact ⟨by rw [HT.out]; rfl, HB0.out⟩
end Go.Proofs.YtbadoidjdghklaaDoor
