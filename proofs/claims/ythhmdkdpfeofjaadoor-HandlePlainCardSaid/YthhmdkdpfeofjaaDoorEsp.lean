/- Plain facts on the tables of layer 2: the digits' texts, the bytes they stand for, the first match and the last; prefixes and suffixes. No condition. -/
import Derived.Test.YthhmdkdpfeofjaaDoorEsc
import Derived.Lib.Bytealg
namespace Go.Proofs.YthhmdkdpfeofjaaDoor.Esc
open Go Go.Lib By

/-! ### The barred bytes, one by one -/
def barL : List Nat := [32, 34, 38, 39, 47, 58, 60, 62, 64]
def barF (k c : Nat) : Bool := (barL.drop k).any fun b => b == c
theorem bar_F (c : Nat) : bar c = barF 0 c := by
  rw [Bool.eq_iff_iff]
  simp [bar, barF, barL]
  omega

/-! ### The document's tables -/
def dgs : List (List UInt8) := [[50, 48], [50, 50], [50, 54], [50, 55], [50, 102], [51, 97], [51, 99], [51, 101], [52, 48], [53, 99]]
def bl : List Nat := [32, 34, 38, 39, 47, 58, 60, 62, 64, 92]
def dtx (k : Nat) : ByteArray := ⟨(dgs.getD k []).toArray⟩
def BS : ByteArray := ⟨#[32, 34, 38, 39, 47, 58, 60, 62, 64, 92]⟩
theorem BS_size : BS.size = 10 := rfl
theorem BS_nb (k : Nat) : nb BS.data.toList k = bl.getD k 0 := by
  match k with
  | 0 | 1 | 2 | 3 | 4 | 5 | 6 | 7 | 8 | 9 => rfl
  | k + 10 => rfl
theorem BS_cut {k : Nat} (h : k < 10) : BS.extract k (k + 1) = ⟨#[u (bl.getD k 0)]⟩ := by
  have : k = 0 ∨ k = 1 ∨ k = 2 ∨ k = 3 ∨ k = 4 ∨ k = 5 ∨ k = 6 ∨ k = 7 ∨ k = 8 ∨ k = 9 := by omega
  rcases this with rfl | rfl | rfl | rfl | rfl | rfl | rfl | rfl | rfl | rfl <;> rfl
/-- The first place from k on at which two bytes stand in the table; 10: none. -/
def atF (k : Nat) (p : List UInt8) : Nat := k + (dgs.drop k).findIdx (· == p)
def atK (l : List UInt8) : Nat := if l.length < 3 ∨ nb l 0 ≠ 92 then 10 else atF 0 [u (nb l 1), u (nb l 2)]
def atI (l : List UInt8) : Int := if atK l < 10 then (atK l : Int) else -1
theorem atI_no {l : List UInt8} (h : l.length < 3 ∨ nb l 0 ≠ 92) : atI l = -1 := by
  have : atK l = 10 := by unfold atK; rw [if_pos h]
  unfold atI; rw [this]; rfl
theorem atI_two {l : List UInt8} (h : 3 ≤ l.length) (h0 : nb l 0 = 92) {k : Nat} (hk : atF 0 [u (nb l 1), u (nb l 2)] = k) : atI l = if k < 10 then (k : Int) else -1 := by
  have : atK l = k := by unfold atK; rw [if_neg (by omega)]; exact hk
  unfold atI; rw [this]
theorem atF_end (p : List UInt8) : atF 10 p = 10 := rfl
theorem atF_hit {k : Nat} {p : List UInt8} (h : k < 10) (e : dgs.getD k [] = p) : atF k p = k := by
  subst e
  have : k = 0 ∨ k = 1 ∨ k = 2 ∨ k = 3 ∨ k = 4 ∨ k = 5 ∨ k = 6 ∨ k = 7 ∨ k = 8 ∨ k = 9 := by omega
  rcases this with rfl | rfl | rfl | rfl | rfl | rfl | rfl | rfl | rfl | rfl <;> decide
theorem atF_miss {k : Nat} {p : List UInt8} (h : k < 10) (e : dgs.getD k [] ≠ p) : atF k p = atF (k + 1) p := by
  have hl : k < dgs.length := h
  have e1 : dgs.drop k = dgs[k] :: dgs.drop (k + 1) := List.drop_eq_getElem_cons hl
  have e2 : dgs[k] = dgs.getD k [] := by rw [List.getD_eq_getElem?_getD, List.getElem?_eq_getElem hl]; rfl
  unfold atF
  rw [e1, List.findIdx_cons, e2, beq_eq_false_iff_ne.2 e]
  simp only [cond_false]
  omega
theorem atF_le (p : List UInt8) : atF 0 p ≤ 10 := by
  unfold atF
  have := List.findIdx_le_length (xs := dgs) (p := (· == p))
  rw [show dgs.length = 10 from rfl] at this
  simp only [Nat.zero_add, List.drop_zero]
  exact this
theorem atF_get {k : Nat} {p : List UInt8} (h : atF 0 p = k) (hk : k < 10) : dgs.getD k [] = p := by
  unfold atF at h
  simp only [Nat.zero_add, List.drop_zero] at h
  have hl : dgs.findIdx (· == p) < dgs.length := by rw [h]; exact hk
  have := List.findIdx_getElem (xs := dgs) (p := (· == p)) (w := hl)
  subst h
  rw [List.getD_eq_getElem?_getD, List.getElem?_eq_getElem hl]
  simpa using this
theorem esc_two {l : List UInt8} (h : 3 ≤ l.length) (h0 : nb l 0 = 92) : esc l = two (nb l 1) (nb l 2) := by
  match l, h with
  | x :: a :: b :: r, _ =>
    rw [esc, if_pos (by simpa [nb] using h0)]
    rfl
theorem esc_no {l : List UInt8} (h : l.length < 3 ∨ nb l 0 ≠ 92) : esc l = none := by
  match he : esc l with
  | none => rfl
  | some c =>
    obtain ⟨a, b, r, rfl, _⟩ := esc_some he
    simp [nb] at h
    omega
theorem u_nb (l : List UInt8) (i : Nat) : (u (nb l i)).toNat = nb l i := u_nat (nb_lt l i)
/-- What the table tells of a text's front. -/
theorem at_yes {l : List UInt8} {k : Nat} (h : atK l = k) (hk : k < 10) : esc l = some (bl.getD k 0) := by
  unfold atK at h
  split at h
  · omega
  · rename_i hc
    have hc1 : 3 ≤ l.length := by omega
    have hc2 : nb l 0 = 92 := by omega
    have hg := atF_get h hk
    rw [esc_two hc1 hc2]
    have e1 : nb l 1 = nb (dgs.getD k []) 0 := by rw [hg]; exact (u_nb l 1).symm
    have e2 : nb l 2 = nb (dgs.getD k []) 1 := by rw [hg]; exact (u_nb l 2).symm
    rw [e1, e2]
    have : k = 0 ∨ k = 1 ∨ k = 2 ∨ k = 3 ∨ k = 4 ∨ k = 5 ∨ k = 6 ∨ k = 7 ∨ k = 8 ∨ k = 9 := by omega
    clear h hg e1 e2 hk
    rcases this with rfl | rfl | rfl | rfl | rfl | rfl | rfl | rfl | rfl | rfl <;> decide
theorem bl_mem {c : Nat} (h : c = 92 ∨ bar c = true) : c ∈ bl := by
  rw [bl]
  rcases h with h | h
  · simp [h]
  · unfold bar at h; simp at h; simp; omega
theorem at_no {l : List UInt8} (h : ¬ atK l < 10) : esc l = none := by
  match he : esc l with
  | none => rfl
  | some c =>
    exfalso
    have hl := esc_len he
    have hm := bl_mem (esc_byte he)
    obtain ⟨a, b, r, rfl, ht⟩ := esc_some he
    obtain ⟨⟨x, y, hx, hy, hc⟩, _⟩ := two_some ht
    have x16 := hx_lt hx
    have y16 := hx_lt hy
    have ea := hx_dg hx
    have eb := hx_dg hy
    have hxc : x = c / 16 := by omega
    have hyc : y = c % 16 := by omega
    subst hxc
    subst hyc
    have e3 : u (dg (c / 16)) = a := by rw [← ea, nat_u]
    have e4 : u (dg (c % 16)) = b := by rw [← eb, nat_u]
    apply h
    unfold atK
    rw [if_neg (by simp [nb])]
    show atF 0 [u a.toNat, u b.toNat] < 10
    rw [ea, eb]
    clear h he hl ht hx hy x16 y16 ea eb e3 e4 hc
    simp only [bl, List.mem_cons, List.not_mem_nil, or_false] at hm
    rcases hm with rfl | rfl | rfl | rfl | rfl | rfl | rfl | rfl | rfl | rfl <;> decide
theorem at_le (l : List UInt8) : atK l ≤ 10 := by
  unfold atK
  split
  · exact Nat.le_refl _
  · exact atF_le _
/-- The last place below j at which a byte stands in the table; -1: none. -/
def kN (y : Nat) : Nat → Int
  | 0 => -1
  | j + 1 => if bl.getD j 0 = y then (j : Int) else kN y j
/-- What stands in place of a text's first byte, by the document's tables. -/
theorem pc_at {b : UInt8} {r : List UInt8} (h : atK (b :: r) < 10) : pc b r = 92 :: dgs.getD 9 [] := by
  have he := at_yes rfl h
  obtain ⟨_, _, _, e, _⟩ := esc_some he
  injection e with e1 _
  subst e1
  rw [pc, he]
  rfl
theorem kN_bar {y : Nat} (h : bar y = true) : ∃ k : Nat, kN y 9 = k ∧ k < 9 ∧ dgs.getD k [] = [u (dg (y / 16)), u (dg (y % 16))] := by
  unfold bar at h
  simp at h
  have : y = 32 ∨ y = 34 ∨ y = 38 ∨ y = 39 ∨ y = 47 ∨ y = 58 ∨ y = 60 ∨ y = 62 ∨ y = 64 := by omega
  rcases this with rfl | rfl | rfl | rfl | rfl | rfl | rfl | rfl | rfl
  · exact ⟨0, by decide, by decide, by decide⟩
  · exact ⟨1, by decide, by decide, by decide⟩
  · exact ⟨2, by decide, by decide, by decide⟩
  · exact ⟨3, by decide, by decide, by decide⟩
  · exact ⟨4, by decide, by decide, by decide⟩
  · exact ⟨5, by decide, by decide, by decide⟩
  · exact ⟨6, by decide, by decide, by decide⟩
  · exact ⟨7, by decide, by decide, by decide⟩
  · exact ⟨8, by decide, by decide, by decide⟩
theorem kN_plain {y : Nat} (h : bar y = false) : kN y 9 = -1 := by
  rw [Bool.eq_false_iff, ne_eq] at h
  unfold bar at h
  simp at h
  simp [kN, bl]
  omega
theorem pc_bar {b : UInt8} {r : List UInt8} (h : bar b.toNat = true) : pc b r = 92 :: [u (dg (b.toNat / 16)), u (dg (b.toNat % 16))] := by
  rw [pc, h]; rfl
theorem pc_plain {b : UInt8} {r : List UInt8} (h : bar b.toNat = false) (he : esc (b :: r) = none) : pc b r = [b] := by
  rw [pc, h, he]; rfl

/-! ### Digits by their place; prefixes and suffixes -/
def DIG : ByteArray := ⟨#[48, 49, 50, 51, 52, 53, 54, 55, 56, 57, 97, 98, 99, 100, 101, 102]⟩
def hxI (c : Nat) : Int := match hx c with | some h => (h : Int) | none => -1
theorem dig_index : ∀ a : Fin 256, Lib.indexByte DIG.data.toList ((a.val : Int).toNat.toUInt8) = hxI a.val := by decide +kernel
theorem DIG_nb : ∀ k : Fin 16, nb DIG.data.toList k.val = dg k.val := by decide
theorem prefix_esc (l : List UInt8) : Lib.hasPrefix l [92, 50, 48] = (esc l == some 32) := by
  rw [Bool.eq_iff_iff]
  unfold Lib.hasPrefix
  rw [List.isPrefixOf_iff_prefix, beq_iff_eq]
  constructor
  · rintro ⟨r, rfl⟩; rfl
  · intro h
    obtain ⟨a, b, r, rfl, ht⟩ := esc_some h
    obtain ⟨⟨x, y, hx, hy, hc⟩, _⟩ := two_some ht
    have x16 := hx_lt hx
    have y16 := hx_lt hy
    obtain rfl : x = 2 := by omega
    obtain rfl : y = 0 := by omega
    obtain rfl : a = 50 := eq_of_nat (hx_dg hx)
    obtain rfl : b = 48 := eq_of_nat (hx_dg hy)
    exact ⟨r, rfl⟩
theorem suffix_esc (l : List UInt8) : Lib.hasSuffix l [92, 50, 48] = (esc (l.drop (l.length - 3)) == some 32) := by
  rw [← prefix_esc, Bool.eq_iff_iff]
  unfold Lib.hasPrefix Lib.hasSuffix
  rw [List.isPrefixOf_iff_prefix, List.isSuffixOf_iff_suffix]
  constructor
  · rintro ⟨r, rfl⟩; simp
  · rintro ⟨r, hr⟩
    have h1 := congrArg List.length hr
    simp at h1
    obtain rfl : r = [] := List.length_eq_zero_iff.1 (by omega)
    exact ⟨l.take (l.length - 3), by rw [List.append_nil] at hr; rw [hr, List.take_append_drop]⟩

end Go.Proofs.YthhmdkdpfeofjaaDoor.Esc
