/- Plain mathematics of texts, further: where a text may be cut, its front, what is left when blanks are taken off its ends, and folded. No condition; nothing of the program stands here beyond the plain functions of the contracts. -/
import Derived.Test.YthhmdkdpfeofjaaDoorHead
import Derived.Test.YthhmdkdpfeofjaaDoorFold
import Derived.Test.YthhmdkdpfeofjaaDoorTxt
import Derived.Lib.SlTrimSet
namespace Go.Proofs.YthhmdkdpfeofjaaDoor
open Go.Lib Sg

theorem nb_append_right (a b : List UInt8) (k : Nat) (h : a.length ≤ k) : nb (a ++ b) k = nb b (k - a.length) := by
  unfold nb; rw [List.getD_eq_getElem?_getD, List.getElem?_append_right h, ← List.getD_eq_getElem?_getD]
theorem nb_append_left (a b : List UInt8) (k : Nat) (h : k < a.length) : nb (a ++ b) k = nb a k := by
  unfold nb; rw [List.getD_eq_getElem?_getD, List.getElem?_append_left h, ← List.getD_eq_getElem?_getD]
theorem nb_u0 (a : Nat) (r : List UInt8) (h : a < 256) : nb (u a :: r) 0 = a := by simp [nb, u_nat h]
theorem nb_u1 (x : UInt8) (a : Nat) (r : List UInt8) (h : a < 256) : nb (x :: u a :: r) 1 = a := by simp [nb, u_nat h]
theorem nb_u2 (x y : UInt8) (a : Nat) (r : List UInt8) (h : a < 256) : nb (x :: y :: u a :: r) 2 = a := by simp [nb, u_nat h]
theorem nb_u3 (x y z : UInt8) (a : Nat) (r : List UInt8) (h : a < 256) : nb (x :: y :: z :: u a :: r) 3 = a := by simp [nb, u_nat h]
theorem inner_iff (b : Nat) : inner b = true ↔ (128 ≤ b ∧ b < 192) := by simp [inner]
theorem inner_false (b : Nat) : inner b = false ↔ (b < 128 ∨ 192 ≤ b) := by simp [inner]; omega

/-- A sign's first byte is none of those behind it; all others are. -/
theorem enc_first {c : Nat} (h : isSg c = true) : inner (nb (enc c) 0) = false := by
  have h1 := (isSg_iff c).1 h
  rw [inner_false]
  unfold enc
  repeat' split
  all_goals (rw [nb_u0 _ _ (by omega)]; omega)
theorem enc_rest {c : Nat} (h : isSg c = true) (k : Nat) (h0 : 0 < k) (hk : k < (enc c).length) : inner (nb (enc c) k) = true := by
  have h1 := (isSg_iff c).1 h
  rw [inner_iff]
  rw [enc_len] at hk
  unfold enc
  split at hk
  · omega
  · rename_i a1
    rw [if_neg a1]
    split at hk
    · rename_i a2
      rw [if_pos a2]
      obtain rfl : k = 1 := by omega
      rw [nb_u1 _ _ _ (by omega)]; omega
    · rename_i a2
      rw [if_neg a2]
      split at hk
      · rename_i a3
        rw [if_pos a3]
        rcases (show k = 1 ∨ k = 2 by omega) with rfl | rfl
        · rw [nb_u1 _ _ _ (by omega)]; omega
        · rw [nb_u2 _ _ _ _ (by omega)]; omega
      · rename_i a3
        rw [if_neg a3]
        rcases (show k = 1 ∨ k = 2 ∨ k = 3 by omega) with rfl | rfl | rfl
        · rw [nb_u1 _ _ _ (by omega)]; omega
        · rw [nb_u2 _ _ _ _ (by omega)]; omega
        · rw [nb_u3 _ _ _ _ _ (by omega)]; omega
theorem enc_small {c : Nat} (h : c < 128) : enc c = [u c] := by unfold enc; rw [if_pos h]
theorem enc_big {c : Nat} (hs : isSg c = true) (h : ¬ c < 128) : 192 ≤ nb (enc c) 0 ∧ 2 ≤ (enc c).length := by
  have h1 := (isSg_iff c).1 hs
  constructor
  · unfold enc
    rw [if_neg h]
    repeat' split
    all_goals (rw [nb_u0 _ _ (by omega)]; omega)
  · rw [enc_len, if_neg h]; repeat' split
    all_goals omega

/-- A place that no sign spans parts a text into texts. -/
theorem cut_text : ∀ (cs : List Nat) (k : Nat), (∀ c ∈ cs, ok c = true) → k ≤ (cat cs).length → (k = 0 ∨ k = (cat cs).length ∨ inner (nb (cat cs) k) = false) →
    ∃ a b, cs = a ++ b ∧ (cat cs).take k = cat a ∧ (cat cs).drop k = cat b
  | [], k, _, hk, _ => ⟨[], [], rfl, by simp [cat], by simp [cat]⟩
  | c :: cs, k, hok, hk, hb => by
    have hc := ok_sg (hok c (List.mem_cons_self ..))
    rcases Nat.eq_zero_or_pos k with h0 | h0
    · subst h0; exact ⟨[], c :: cs, rfl, by simp [cat], by simp⟩
    · rw [cat_cons] at hk hb ⊢
      rw [List.length_append] at hk hb
      have hge : (enc c).length ≤ k := by
        rcases Nat.lt_or_ge k (enc c).length with hlt | hge
        · rcases hb with hb | hb | hb
          · omega
          · omega
          · rw [nb_append_left _ _ _ hlt, enc_rest hc k h0 hlt] at hb; cases hb
        · exact hge
      obtain ⟨a, b, e, e1, e2⟩ := cut_text cs (k - (enc c).length) (fun d hd => hok d (List.mem_cons_of_mem _ hd)) (by omega) (by
        rcases hb with hb | hb | hb
        · omega
        · right; left; omega
        · right; right; rwa [nb_append_right _ _ _ hge] at hb)
      refine ⟨c :: a, b, by rw [e]; rfl, ?_, ?_⟩
      · rw [List.take_append, List.take_of_length_le hge, e1, cat_cons]
      · rw [List.drop_append, List.drop_of_length_le hge, e2, List.nil_append]
theorem back_spec (l : List UInt8) : ∀ k, back l k = 0 ∨ inner (nb l (back l k)) = false
  | 0 => .inl rfl
  | k + 1 => by
    unfold back
    split
    · exact back_spec l k
    · rename_i h; right; simpa using h
theorem back_ge (l : List UInt8) (j : Nat) (hj : inner (nb l j) = false) : ∀ k, j ≤ k → j ≤ back l k
  | 0, h => by omega
  | k + 1, h => by
    unfold back
    split
    · rename_i hi
      rcases Nat.lt_or_ge k j with hlt | hge
      · obtain rfl : j = k + 1 := by omega
        rw [hj] at hi; cases hi
      · exact back_ge l j hj k hge
    · exact h
/-- Some sign's first byte stands at most three bytes ahead. -/
theorem near : ∀ (cs : List Nat) (k : Nat), (∀ c ∈ cs, ok c = true) → k < (cat cs).length → ∃ j, j ≤ k ∧ k ≤ j + 3 ∧ inner (nb (cat cs) j) = false
  | [], k, _, hk => by simp [cat] at hk
  | c :: cs, k, hok, hk => by
    have hc := ok_sg (hok c (List.mem_cons_self ..))
    have h4 := (enc_len_le c)
    rw [cat_cons] at hk ⊢
    rw [List.length_append] at hk
    rcases Nat.lt_or_ge k (enc c).length with hlt | hge
    · exact ⟨0, by omega, by omega, by rw [nb_append_left _ _ _ (by omega)]; exact enc_first hc⟩
    · obtain ⟨j, h1, h2, h3⟩ := near cs (k - (enc c).length) (fun d hd => hok d (List.mem_cons_of_mem _ hd)) (by omega)
      refine ⟨j + (enc c).length, by omega, by omega, ?_⟩
      rw [nb_append_right _ _ _ (by omega), Nat.add_sub_cancel]
      exact h3
/-- What the law asks of a text's front. -/
theorem hd_text {l : List UInt8} {cs : List Nat} (h : IsT l cs) (n : Int) :
    (∃ a b, cs = a ++ b ∧ l.take (hd l n) = cat a ∧ l.drop (hd l n) = cat b) ∧ (hd l n : Int) ≤ max n 0 ∧ (hd l n = l.length ∨ (n < 0 ∧ hd l n = 0) ∨ n - hd l n < 4) := by
  obtain ⟨hok, rfl⟩ := h
  have hle := hd_le (cat cs) n
  by_cases hbig : ((cat cs).length : Int) ≤ n
  · have e : hd (cat cs) n = (cat cs).length := by unfold hd; rw [if_pos hbig]
    exact ⟨cut_text cs _ hok hle (.inr (.inl e)), by omega, .inl e⟩
  · have e : hd (cat cs) n = back (cat cs) n.toNat := by unfold hd; rw [if_neg hbig]
    have hb := back_le (cat cs) n.toNat
    rw [e] at hle ⊢
    refine ⟨cut_text cs _ hok hle ((back_spec (cat cs) n.toNat).elim .inl fun x => .inr (.inr x)), by omega, ?_⟩
    by_cases hn : n < 0
    · right; left; exact ⟨hn, by omega⟩
    · obtain ⟨j, h1, h2, h3⟩ := near cs n.toNat hok (by omega)
      have := back_ge (cat cs) j h3 n.toNat h1
      right; right; omega
theorem IsT_left {cs a b : List Nat} {l m : List UInt8} (h : IsT l cs) (e : cs = a ++ b) (hm : m = cat a) : IsT m a :=
  ⟨fun c hc => h.1 c (by rw [e]; exact List.mem_append_left _ hc), hm⟩
theorem IsT_right {cs a b : List Nat} {l m : List UInt8} (h : IsT l cs) (e : cs = a ++ b) (hm : m = cat b) : IsT m b :=
  ⟨fun c hc => h.1 c (by rw [e]; exact List.mem_append_right _ hc), hm⟩

/-! ### Folded -/
def lowC (c : Nat) : Nat := if 65 ≤ c ∧ c ≤ 90 then c + 32 else c
theorem lowN_high {b : Nat} (h : 128 ≤ b) : lowN b = b := by unfold lowN; rw [if_neg (by omega)]
theorem low_high {a : UInt8} (h : 128 ≤ a.toNat) : low a = a := UInt8.toNat_inj.1 (by rw [low_nat, lowN_high h])
theorem fold_enc {c : Nat} (h : ok c = true) : foldL (enc c) = enc (lowC c) ∧ ok (lowC c) = true := by
  have hs := (isSg_iff c).1 (ok_sg h)
  have hp := (plain_iff c).1 (ok_plain h)
  by_cases hc : c < 128
  · have hl : lowC c < 128 := by unfold lowC; split <;> omega
    rw [enc_small hc, enc_small hl]
    constructor
    · show [low (u c)] = _
      congr 1
      apply UInt8.toNat_inj.1
      rw [low_nat, u_nat (by omega), u_nat (by omega)]
      rfl
    · refine ok_mk ((isSg_iff _).2 (by omega)) ((plain_iff _).2 ?_)
      unfold lowC; split <;> omega
  · have e : lowC c = c := by unfold lowC; rw [if_neg (by omega)]
    rw [e]
    refine ⟨?_, h⟩
    unfold foldL
    conv => rhs; rw [← List.map_id (enc c)]
    apply List.map_congr_left
    intro a ha
    apply low_high
    obtain ⟨i, hi, rfl⟩ := List.getElem_of_mem ha
    have hn : nb (enc c) i = (enc c)[i].toNat := by unfold nb; rw [List.getD_eq_getElem?_getD, List.getElem?_eq_getElem hi]; rfl
    rw [← hn]
    rcases Nat.eq_zero_or_pos i with h0 | h0
    · subst h0; have := (enc_big (ok_sg h) hc).1; omega
    · have := (inner_iff _).1 (enc_rest (ok_sg h) i h0 hi); omega
theorem fold_text {l : List UInt8} {cs : List Nat} (h : IsT l cs) : IsT (foldL l) (cs.map lowC) := by
  obtain ⟨hok, rfl⟩ := h
  induction cs with
  | nil => exact IsT.nil
  | cons c cs ih =>
    have h1 := fold_enc (hok c (List.mem_cons_self ..))
    have h2 := ih (fun d hd => hok d (List.mem_cons_of_mem _ hd))
    have e : foldL (cat (c :: cs)) = enc (lowC c) ++ foldL (cat cs) := by
      rw [cat_cons]; unfold foldL; rw [List.map_append]; congr 1; exact h1.1
    rw [e]
    exact (IsT.one h1.2).append h2

/-! ### Blanks at both ends -/
def bl (a : UInt8) : Bool := ([32, 9, 10, 13] : List UInt8).contains a
theorem bl_iff (a : UInt8) : bl a = true ↔ (a.toNat = 32 ∨ a.toNat = 9 ∨ a.toNat = 10 ∨ a.toNat = 13) := by
  simp only [bl, List.contains_cons, List.contains_nil, Bool.or_false, Bool.or_eq_true, beq_iff_eq, ← UInt8.toNat_inj]
  rfl
def trim (l : List UInt8) : List UInt8 := Lib.trimS l [32, 9, 10, 13]
theorem trim_eq (l : List UInt8) : trim l = ((l.reverse.dropWhile bl).reverse).dropWhile bl := rfl
theorem bl_enc {c : Nat} (h : isSg c = true) : (∃ r, enc c = u c :: r ∧ r = [] ∧ c < 128) ∨ ((∀ a ∈ enc c, bl a = false) ∧ 128 ≤ c) := by
  by_cases hc : c < 128
  · exact .inl ⟨[], enc_small hc, rfl, hc⟩
  · refine .inr ⟨fun a ha => ?_, by omega⟩
    obtain ⟨i, hi, rfl⟩ := List.getElem_of_mem ha
    have hn : nb (enc c) i = (enc c)[i].toNat := by unfold nb; rw [List.getD_eq_getElem?_getD, List.getElem?_eq_getElem hi]; rfl
    have hge : 128 ≤ (enc c)[i].toNat := by
      rw [← hn]
      rcases Nat.eq_zero_or_pos i with h0 | h0
      · subst h0; have := (enc_big h hc).1; omega
      · have := (inner_iff _).1 (enc_rest h i h0 hi); omega
    rw [Bool.eq_false_iff, ne_eq, bl_iff]
    omega
theorem dropWhile_stop {p : UInt8 → Bool} : ∀ {l : List UInt8}, l ≠ [] → (∀ a ∈ l.head?, p a = false) → ∀ r, (l ++ r).dropWhile p = l ++ r
  | [], h, _, _ => absurd rfl h
  | a :: l, _, h, r => by rw [List.cons_append, List.dropWhile_cons_of_neg (by have := h a rfl; simp [this])]
/-- Blanks taken off a text's front leave a text; off its end, too. -/
theorem left_text : ∀ (cs : List Nat), (∀ c ∈ cs, ok c = true) → ∃ b, IsT ((cat cs).dropWhile bl) b
  | [], _ => ⟨[], IsT.nil⟩
  | c :: cs, hok => by
    have hc := hok c (List.mem_cons_self ..)
    rw [cat_cons]
    rcases bl_enc (ok_sg hc) with ⟨r, e, rfl, _⟩ | ⟨hn, _⟩
    · by_cases hb : bl (u c) = true
      · rw [e, List.cons_append, List.dropWhile_cons_of_pos hb, List.nil_append]
        exact left_text cs (fun d hd => hok d (List.mem_cons_of_mem _ hd))
      · rw [e, List.cons_append, List.dropWhile_cons_of_neg hb, ← List.cons_append, ← e, ← cat_cons]
        exact ⟨c :: cs, hok, rfl⟩
    · rw [dropWhile_stop (enc_ne c) (fun a ha => hn a (List.mem_of_mem_head? ha)), ← cat_cons]
      exact ⟨c :: cs, hok, rfl⟩
theorem right_text (cs : List Nat) (hok : ∀ c ∈ cs, ok c = true) : ∃ b, IsT ((cat cs).reverse.dropWhile bl).reverse b := by
  induction hn : cs.length generalizing cs with
  | zero => rw [List.eq_nil_of_length_eq_zero hn]; exact ⟨[], IsT.nil⟩
  | succ n ih =>
    rcases List.eq_nil_or_concat cs with rfl | ⟨ds, c, rfl⟩
    · cases hn
    · rw [List.concat_eq_append] at hn hok ⊢
      have hc := hok c (by simp)
      have e1 : cat (ds ++ [c]) = cat ds ++ enc c := by rw [cat_append]; simp [cat]
      rw [e1, List.reverse_append]
      rcases bl_enc (ok_sg hc) with ⟨r, e, rfl, _⟩ | ⟨hno, _⟩
      · by_cases hb : bl (u c) = true
        · rw [e, List.reverse_singleton, List.singleton_append, List.dropWhile_cons_of_pos hb]
          exact ih ds (fun d hd => hok d (List.mem_append_left _ hd)) (by simp at hn; omega)
        · rw [e, List.reverse_singleton, List.singleton_append, List.dropWhile_cons_of_neg hb, List.reverse_cons, List.reverse_reverse, ← e, ← e1]
          exact ⟨ds ++ [c], hok, rfl⟩
      · rw [dropWhile_stop (by simp [enc_ne c]) (fun a ha => hno a (by have := List.mem_of_mem_head? ha; simpa using this)), ← List.reverse_append, List.reverse_reverse, ← e1]
        exact ⟨ds ++ [c], hok, rfl⟩
theorem trim_text {l : List UInt8} {cs : List Nat} (h : IsT l cs) : ∃ b, IsT (trim l) b := by
  obtain ⟨hok, rfl⟩ := h
  obtain ⟨b, hb⟩ := right_text cs hok
  rw [trim_eq, hb.2]
  exact left_text b hb.1
theorem dropWhile_twice {p : UInt8 → Bool} : ∀ l : List UInt8, (l.dropWhile p).dropWhile p = l.dropWhile p
  | [] => rfl
  | a :: l => by
    by_cases h : p a = true
    · rw [List.dropWhile_cons_of_pos h]; exact dropWhile_twice l
    · rw [List.dropWhile_cons_of_neg h, List.dropWhile_cons_of_neg h]
theorem dropWhile_all {p : UInt8 → Bool} : ∀ {l : List UInt8}, (∀ a ∈ l, p a = true) → l.dropWhile p = []
  | [], _ => rfl
  | a :: l, h => by rw [List.dropWhile_cons_of_pos (h a (List.mem_cons_self ..))]; exact dropWhile_all fun b hb => h b (List.mem_cons_of_mem _ hb)
theorem dropWhile_split {p : UInt8 → Bool} : ∀ (l : List UInt8), ∃ t, l = t ++ l.dropWhile p ∧ ∀ a ∈ t, p a = true
  | [] => ⟨[], rfl, fun _ h => by cases h⟩
  | a :: l => by
    by_cases h : p a = true
    · obtain ⟨t, e, ht⟩ := dropWhile_split (p := p) l
      rw [List.dropWhile_cons_of_pos h]
      exact ⟨a :: t, by rw [List.cons_append, ← e], fun b hb => (List.mem_cons.1 hb).elim (fun e => by rw [e]; exact h) (ht b)⟩
    · rw [List.dropWhile_cons_of_neg h]
      exact ⟨[], rfl, fun _ h => by cases h⟩
theorem dropWhile_head {p : UInt8 → Bool} : ∀ (l : List UInt8), ∀ a ∈ (l.dropWhile p).head?, p a = false
  | [], a, h => by simp at h
  | b :: l, a, h => by
    by_cases hb : p b = true
    · rw [List.dropWhile_cons_of_pos hb] at h; exact dropWhile_head l a h
    · rw [List.dropWhile_cons_of_neg hb] at h
      simp at h; subst h; simpa using hb
/-- A list whose ends are no blanks is left as it is. -/
theorem trim_fix {l : List UInt8} (h1 : ∀ a ∈ l.head?, bl a = false) (h2 : ∀ a ∈ l.getLast?, bl a = false) : trim l = l := by
  by_cases h : l = []
  · subst h; rfl
  · have e1 := dropWhile_stop (p := bl) (l := l.reverse) (by simpa using h) (fun a ha => h2 a (by rw [List.head?_reverse] at ha; exact ha)) []
    rw [List.append_nil] at e1
    have e2 := dropWhile_stop (p := bl) h h1 []
    rw [List.append_nil] at e2
    rw [trim_eq, e1, List.reverse_reverse, e2]
/-- Blanks around a list have no part. -/
theorem trim_around (a b l : List UInt8) (ha : ∀ x ∈ a, bl x = true) (hb : ∀ x ∈ b, bl x = true) : trim (a ++ l ++ b) = trim l := by
  rw [trim_eq, trim_eq]
  have e1 : (a ++ l ++ b).reverse.dropWhile bl = ((a ++ l).reverse).dropWhile bl := by
    rw [List.reverse_append, List.dropWhile_append, dropWhile_all (fun x hx => hb x (by simpa using hx))]
    rfl
  rw [e1, List.reverse_append, List.dropWhile_append]
  by_cases h : (l.reverse.dropWhile bl).isEmpty
  · rw [if_pos h]
    have h' : l.reverse.dropWhile bl = [] := by simpa using h
    rw [h', dropWhile_all (l := a.reverse) (fun x hx => ha x (by simpa using hx))]
  · rw [if_neg h, List.reverse_append, List.reverse_reverse, List.dropWhile_append, dropWhile_all ha]
    rfl
theorem trim_ends (l : List UInt8) : (∀ a ∈ (trim l).head?, bl a = false) ∧ (∀ a ∈ (trim l).getLast?, bl a = false) := by
  rw [trim_eq]
  refine ⟨dropWhile_head _, ?_⟩
  intro a ha
  obtain ⟨t, e, _⟩ := dropWhile_split (p := bl) ((l.reverse.dropWhile bl).reverse)
  have h1 := dropWhile_head (p := bl) l.reverse
  apply h1 a
  rw [← List.getLast?_reverse, e, List.getLast?_append]
  rw [Option.mem_def] at ha
  rw [ha]
  rfl
theorem trim_trim (l : List UInt8) : trim (trim l) = trim l := trim_fix (trim_ends l).1 (trim_ends l).2


end Go.Proofs.YthhmdkdpfeofjaaDoor
