/- Plain mathematics of signs' bytes: first and inner bytes, small letters. No condition; nothing of the program stands here. -/
import Derived.Test.YtbadoidjdghklaaDoorTxt
namespace Go.Proofs.YtbadoidjdghklaaDoor
open Go Go.Lib Sg

def inner (b : Nat) : Bool := decide (128 ≤ b) && decide (b < 192)
def lowN (b : Nat) : Nat := if 65 ≤ b ∧ b ≤ 90 then b + 32 else b
def low (a : UInt8) : UInt8 := u (lowN a.toNat)
theorem lowN_lt {b : Nat} (h : b < 256) : lowN b < 256 := by unfold lowN; split <;> omega
theorem low_nat (a : UInt8) : (low a).toNat = lowN a.toNat := u_nat (lowN_lt (UInt8.toNat_lt a))
def foldL (l : List UInt8) : List UInt8 := l.map low
theorem foldL_len (l : List UInt8) : (foldL l).length = l.length := by simp [foldL]
theorem nb_foldL (l : List UInt8) (j : Nat) (h : j < l.length) : nb (foldL l) j = lowN (nb l j) := by
  unfold nb foldL
  simp [List.getD_eq_getElem?_getD, List.getElem?_eq_getElem h, low_nat]
theorem byte_nb (s : ByteArray) (k : Nat) (h : k < s.size) : (s[k]'h).toNat = nb s.data.toList k := by
  unfold nb
  have h' : k < s.data.size := h
  simp [List.getD_eq_getElem?_getD, Array.getElem?_eq_getElem h']
  rfl
theorem extract_zero (s : ByteArray) (k : Nat) : s.extract 0 k = ⟨(s.data.toList.take k).toArray⟩ := by
  apply ByteArray.ext
  apply Array.toList_inj.1
  rw [Lib.extract_data]
  simp

theorem extract_drop (s : ByteArray) (k : Nat) : (s.extract k s.size).data.toList = s.data.toList.drop k := by
  rw [Lib.extract_data, List.take_of_length_le (by rw [List.length_drop, ← Lib.size_eq]; exact Nat.le_refl _)]
theorem nb_append_right (a b : List UInt8) (k : Nat) (h : a.length ≤ k) : nb (a ++ b) k = nb b (k - a.length) := by
  unfold nb; rw [List.getD_eq_getElem?_getD, List.getElem?_append_right h, ← List.getD_eq_getElem?_getD]
theorem nb_append_left (a b : List UInt8) (k : Nat) (h : k < a.length) : nb (a ++ b) k = nb a k := by
  unfold nb; rw [List.getD_eq_getElem?_getD, List.getElem?_append_left h, ← List.getD_eq_getElem?_getD]
theorem nb_u0 (a : Nat) (r : List UInt8) (h : a < 256) : nb (u a :: r) 0 = a := by simp [nb, u_nat h]
theorem nb_u1 (x : UInt8) (a : Nat) (r : List UInt8) (h : a < 256) : nb (x :: u a :: r) 1 = a := by simp [nb, u_nat h]
theorem nb_u2 (x y : UInt8) (a : Nat) (r : List UInt8) (h : a < 256) : nb (x :: y :: u a :: r) 2 = a := by simp [nb, u_nat h]
theorem nb_u3 (x y z : UInt8) (a : Nat) (r : List UInt8) (h : a < 256) : nb (x :: y :: z :: u a :: r) 3 = a := by simp [nb, u_nat h]
theorem inner_iff (b : Nat) : inner b = true ↔ (128 ≤ b ∧ b < 192) := by simp [inner]
theorem inner_false (b : Nat) : inner b = false ↔ (b < 128 ∨ 192 ≤ b) := by simp [inner]; omega

/-- A sign's first byte is none of those behind it; all others are. -/
theorem enc_first {c : Nat} (h : isSg c = true) : inner (nb (enc c) 0) = false := by
  have h1 := (isSg_iff c).1 h
  rw [inner_false]
  unfold enc
  repeat' split
  all_goals (rw [nb_u0 _ _ (by omega)]; omega)
theorem enc_rest {c : Nat} (h : isSg c = true) (k : Nat) (h0 : 0 < k) (hk : k < (enc c).length) : inner (nb (enc c) k) = true := by
  have h1 := (isSg_iff c).1 h
  rw [inner_iff]
  rw [enc_len] at hk
  unfold enc
  split at hk
  · omega
  · rename_i a1
    rw [if_neg a1]
    split at hk
    · rename_i a2
      rw [if_pos a2]
      obtain rfl : k = 1 := by omega
      rw [nb_u1 _ _ _ (by omega)]; omega
    · rename_i a2
      rw [if_neg a2]
      split at hk
      · rename_i a3
        rw [if_pos a3]
        rcases (show k = 1 ∨ k = 2 by omega) with rfl | rfl
        · rw [nb_u1 _ _ _ (by omega)]; omega
        · rw [nb_u2 _ _ _ _ (by omega)]; omega
      · rename_i a3
        rw [if_neg a3]
        rcases (show k = 1 ∨ k = 2 ∨ k = 3 by omega) with rfl | rfl | rfl
        · rw [nb_u1 _ _ _ (by omega)]; omega
        · rw [nb_u2 _ _ _ _ (by omega)]; omega
        · rw [nb_u3 _ _ _ _ _ (by omega)]; omega
theorem enc_small {c : Nat} (h : c < 128) : enc c = [u c] := by unfold enc; rw [if_pos h]
theorem enc_big {c : Nat} (hs : isSg c = true) (h : ¬ c < 128) : 192 ≤ nb (enc c) 0 ∧ 2 ≤ (enc c).length := by
  have h1 := (isSg_iff c).1 hs
  constructor
  · unfold enc
    rw [if_neg h]
    repeat' split
    all_goals (rw [nb_u0 _ _ (by omega)]; omega)
  · rw [enc_len, if_neg h]; repeat' split
    all_goals omega

/-- A place that no sign spans parts a text into texts. -/
theorem cut_text : ∀ (cs : List Nat) (k : Nat), (∀ c ∈ cs, ok c = true) → k ≤ (cat cs).length → (k = 0 ∨ k = (cat cs).length ∨ inner (nb (cat cs) k) = false) →
    ∃ a b, cs = a ++ b ∧ (cat cs).take k = cat a ∧ (cat cs).drop k = cat b
  | [], k, _, hk, _ => ⟨[], [], rfl, by simp [cat], by simp [cat]⟩
  | c :: cs, k, hok, hk, hb => by
    have hc := ok_sg (hok c (List.mem_cons_self ..))
    rcases Nat.eq_zero_or_pos k with h0 | h0
    · subst h0; exact ⟨[], c :: cs, rfl, by simp [cat], by simp⟩
    · rw [cat_cons] at hk hb ⊢
      rw [List.length_append] at hk hb
      have hge : (enc c).length ≤ k := by
        rcases Nat.lt_or_ge k (enc c).length with hlt | hge
        · rcases hb with hb | hb | hb
          · omega
          · omega
          · rw [nb_append_left _ _ _ hlt, enc_rest hc k h0 hlt] at hb; cases hb
        · exact hge
      obtain ⟨a, b, e, e1, e2⟩ := cut_text cs (k - (enc c).length) (fun d hd => hok d (List.mem_cons_of_mem _ hd)) (by omega) (by
        rcases hb with hb | hb | hb
        · omega
        · right; left; omega
        · right; right; rwa [nb_append_right _ _ _ hge] at hb)
      refine ⟨c :: a, b, by rw [e]; rfl, ?_, ?_⟩
      · rw [List.take_append, List.take_of_length_le hge, e1, cat_cons]
      · rw [List.drop_append, List.drop_of_length_le hge, e2, List.nil_append]
theorem IsT_left {cs a b : List Nat} {l m : List UInt8} (h : IsT l cs) (e : cs = a ++ b) (hm : m = cat a) : IsT m a :=
  ⟨fun c hc => h.1 c (by rw [e]; exact List.mem_append_left _ hc), hm⟩
theorem IsT_right {cs a b : List Nat} {l m : List UInt8} (h : IsT l cs) (e : cs = a ++ b) (hm : m = cat b) : IsT m b :=
  ⟨fun c hc => h.1 c (by rw [e]; exact List.mem_append_right _ hc), hm⟩

/-! ### Folded -/
def lowC (c : Nat) : Nat := if 65 ≤ c ∧ c ≤ 90 then c + 32 else c
theorem lowN_high {b : Nat} (h : 128 ≤ b) : lowN b = b := by unfold lowN; rw [if_neg (by omega)]
theorem low_high {a : UInt8} (h : 128 ≤ a.toNat) : low a = a := UInt8.toNat_inj.1 (by rw [low_nat, lowN_high h])
theorem fold_enc {c : Nat} (h : ok c = true) : foldL (enc c) = enc (lowC c) ∧ ok (lowC c) = true := by
  have hs := (isSg_iff c).1 (ok_sg h)
  have hp := (plain_iff c).1 (ok_plain h)
  by_cases hc : c < 128
  · have hl : lowC c < 128 := by unfold lowC; split <;> omega
    rw [enc_small hc, enc_small hl]
    constructor
    · show [low (u c)] = _
      congr 1
      apply UInt8.toNat_inj.1
      rw [low_nat, u_nat (by omega), u_nat (by omega)]
      rfl
    · refine ok_mk ((isSg_iff _).2 (by omega)) ((plain_iff _).2 ?_)
      unfold lowC; split <;> omega
  · have e : lowC c = c := by unfold lowC; rw [if_neg (by omega)]
    rw [e]
    refine ⟨?_, h⟩
    unfold foldL
    conv => rhs; rw [← List.map_id (enc c)]
    apply List.map_congr_left
    intro a ha
    apply low_high
    obtain ⟨i, hi, rfl⟩ := List.getElem_of_mem ha
    have hn : nb (enc c) i = (enc c)[i].toNat := by unfold nb; rw [List.getD_eq_getElem?_getD, List.getElem?_eq_getElem hi]; rfl
    rw [← hn]
    rcases Nat.eq_zero_or_pos i with h0 | h0
    · subst h0; have := (enc_big (ok_sg h) hc).1; omega
    · have := (inner_iff _).1 (enc_rest (ok_sg h) i h0 hi); omega
theorem fold_text {l : List UInt8} {cs : List Nat} (h : IsT l cs) : IsT (foldL l) (cs.map lowC) := by
  obtain ⟨hok, rfl⟩ := h
  induction cs with
  | nil => exact IsT.nil
  | cons c cs ih =>
    have h1 := fold_enc (hok c (List.mem_cons_self ..))
    have h2 := ih (fun d hd => hok d (List.mem_cons_of_mem _ hd))
    have e : foldL (cat (c :: cs)) = enc (lowC c) ++ foldL (cat cs) := by
      rw [cat_cons]; unfold foldL; rw [List.map_append]; congr 1; exact h1.1
    rw [e]
    exact (IsT.one h1.2).append h2

/-! ### Blanks at both ends -/

end Go.Proofs.YtbadoidjdghklaaDoor
