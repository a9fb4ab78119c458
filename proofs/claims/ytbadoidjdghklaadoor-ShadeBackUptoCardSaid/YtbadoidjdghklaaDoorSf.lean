/- Plain mathematics of a text whose marks are taken away while its signs are gone through (P16.5). No condition; nothing of the program stands here. -/
import Derived.Test.YtbadoidjdghklaaDoorSe
import Derived.Lib.LastIndexByte
namespace Go.Proofs.YtbadoidjdghklaaDoor
open Go Go.Lib Sg Sh

theorem indexByte_at {c : UInt8} : ∀ {l x y : List UInt8}, cutAt c l = some (x, y) → Lib.indexByte l c = x.length
  | [], _, _, h => by cases h
  | b :: r, x, y, h => by
    rw [cutAt] at h
    unfold Lib.indexByte
    split at h
    · rename_i hb
      simp only [Option.some.injEq, Prod.mk.injEq] at h
      obtain ⟨rfl, rfl⟩ := h
      rw [if_pos (by rw [hb]; exact beq_self_eq_true _)]; rfl
    · rename_i hb
      cases e : cutAt c r with
      | none => rw [e] at h; cases h
      | some p =>
        rw [e] at h
        simp only [Option.map_some, Option.some.injEq, Prod.mk.injEq] at h
        obtain ⟨rfl, rfl⟩ := h
        have ih := indexByte_at (x := p.1) (y := p.2) e
        rw [if_neg (by simpa using hb), if_neg (by rw [ih]; simp), ih]
        simp
theorem sh_first {l : List UInt8} {c n : Nat} (hd : dec l = (c, n)) (hl : l ≠ []) (hc : c < 128) : n = 1 ∧ ∃ r, l = u c :: r := by
  have hf : front l = some (c, n) := by
    unfold front
    rw [hd, if_neg]
    show ¬ (n = 0 ∨ (c = 65533 ∧ n = 1))
    rintro (h | ⟨h, _⟩)
    · subst h
      have h0 : ¬ l.length = 0 := fun e => hl (List.length_eq_zero_iff.1 e)
      unfold dec at hd
      rw [if_neg h0] at hd
      have := decN_split _ _ _ _ _ _ _ (nb_lt l 1) (nb_lt l 2) (nb_lt l 3) hd
      omega
    · omega
  obtain ⟨_, h2, r, h3⟩ := front_some hf
  rw [enc_small hc] at h2 h3
  exact ⟨h2, r, h3⟩
/-- Bytes of a sign of more than one, or of none's, are great ones. -/
theorem wide_bytes {l : List UInt8} {c n : Nat} (hd : dec l = (c, n)) (hl : l ≠ []) (hc : 128 ≤ c) : ∀ j, j < n → 128 ≤ nb l j := by
  intro j hj
  rcases hf : front l with _ | ⟨d, m⟩
  · rw [dec_none hl hf] at hd
    simp only [Prod.mk.injEq] at hd
    obtain ⟨rfl, rfl⟩ := hd
    obtain rfl : j = 0 := by omega
    refine Decidable.byContradiction fun h => ?_
    have h0 : ¬ l.length = 0 := fun e => hl (List.length_eq_zero_iff.1 e)
    have : dec l = (nb l 0, 1) := by unfold dec; rw [if_neg h0, decN_one _ _ _ _ _ (by omega)]
    rw [dec_none hl hf] at this
    simp only [Prod.mk.injEq] at this
    omega
  · obtain ⟨hd2, _⟩ := front_dec hf
    rw [hd] at hd2
    simp only [Prod.mk.injEq] at hd2
    obtain ⟨rfl, rfl⟩ := hd2
    obtain ⟨hs, hn, r, rfl⟩ := front_some hf
    rw [nb_append_left _ _ _ (by omega)]
    by_cases j0 : j = 0
    · subst j0; have := (enc_big hs (by omega)).1; omega
    · have := (inner_iff _).1 (enc_rest hs j (by omega) (by omega)); omega
theorem wide_mem {l : List UInt8} {n : Nat} (h : ∀ j, j < n → 128 ≤ nb l j) : ∀ b ∈ l.take n, b ≠ 38 ∧ b ≠ 60 := by
  intro b hb
  obtain ⟨k, hk, rfl⟩ := List.mem_iff_getElem.1 hb
  rw [List.length_take] at hk
  have := h k (by omega)
  unfold nb at this
  rw [List.getD_eq_getElem?_getD, List.getElem?_eq_getElem (by omega)] at this
  simp only [Option.getD_some] at this
  rw [List.getElem_take]
  exact ⟨fun e => by rw [e] at this; exact absurd this (by decide), fun e => by rw [e] at this; exact absurd this (by decide)⟩
/-- A sign that begins no mark stays. -/
theorem frH_skip {l : List UInt8} {c n : Nat} (hd : dec l = (c, n)) (hl : l ≠ []) (hn : n ≤ l.length) (h1 : c ≠ 38 ∨ ent l = none) (h2 : c ≠ 60 ∨ cutAt 62 l = none) : frH l = l.take n ++ frH (l.drop n) := by
  by_cases hc : c < 128
  · obtain ⟨rfl, r, rfl⟩ := sh_first hd hl hc
    have hp : piece (u c :: r) = (1, [u c]) := by
      refine piece_else ?_ ?_
      · rcases h2 with h | h
        · exact .inl fun e => h (by have := congrArg UInt8.toNat e; rw [u_nat (by omega)] at this; exact this)
        · exact .inr h
      · rcases h1 with h | h
        · exact ent_not (by rw [nb_u0 c r (by omega)]; exact h)
        · exact h
    rw [frH_step hl, hp]; rfl
  · have hw := wide_bytes hd hl (by omega)
    have := frH_bytes (l.drop n) (wide_mem hw)
    rw [List.take_append_drop] at this
    exact this
theorem frH_elem {l x y : List UInt8} {n : Nat} (hd : dec l = (60, n)) (hl : l ≠ []) (h : cutAt 62 l = some (x, y)) :
    n = 1 ∧ 1 ≤ x.length ∧ x.length + 1 ≤ l.length ∧ nb l x.length = 62 ∧ l.take (x.length + 1) = x ++ [62] ∧ frH l = brk (x ++ [62]) ++ frH (l.drop (x.length + 1)) := by
  obtain ⟨h1, r, h2⟩ := sh_first hd hl (by omega)
  obtain ⟨h3, h4⟩ := cutAt_some h
  refine ⟨h1, ?_, ?_, ?_, ?_, ?_⟩
  · cases x with
    | nil => rw [h2] at h3; simp only [List.nil_append, List.cons.injEq] at h3; exact absurd h3.1 (by decide)
    | cons _ _ => simp
  · rw [h3]; simp
  · rw [h3, nb_append_right _ _ _ (Nat.le_refl _), Nat.sub_self]; rfl
  · rw [h3, show x ++ 62 :: y = (x ++ [62]) ++ y by simp, List.take_left' (by simp)]
  · rw [frH_step hl, piece_elem (by rw [h2]; rfl) h]
theorem frH_ent {l : List UInt8} {k : Nat} {a : UInt8} (hl : l ≠ []) (h : ent l = some (k, a)) : frH l = a :: frH (l.drop k) := by
  rw [frH_step hl, piece_ent h]; rfl
/-- An element's end is behind its front: told by the last place of its end. -/
theorem last_cut (s : ByteArray) (pos : Nat) (hp : pos < s.size) (h0 : nb s.data.toList pos = 60) : ((pos : Int) < Lib.lastIndexByte s 62 ∧ ∃ x y, cutAt 62 (s.data.toList.drop pos) = some (x, y)) ∨ (¬ (pos : Int) < Lib.lastIndexByte s 62 ∧ cutAt 62 (s.data.toList.drop pos) = none) := by
  have hl : s.data.toList.length = s.size := (Lib.size_eq s).symm
  have hg : ∀ j, j < s.size → (s.data[j]!).toNat = nb s.data.toList j := fun j hj => by
    have hj' : j < s.data.size := hj
    unfold nb
    rw [getElem!_pos s.data j hj', List.getD_eq_getElem?_getD, List.getElem?_eq_getElem (by simpa using hj')]
    simp
  rcases Lib.lastIndexByte_spec s 62 with ⟨e, hn⟩ | ⟨i, hi, e, hc, hn⟩
  · refine .inr ⟨by rw [e]; omega, cutAt_out fun hm => ?_⟩
    obtain ⟨k, hk, hv⟩ := List.mem_iff_getElem.1 hm
    rw [List.length_drop, hl] at hk
    have := hn (pos + k) (by omega)
    rw [hg _ (by omega)] at this
    rw [List.getElem_drop] at hv
    unfold nb at this
    rw [List.getD_eq_getElem?_getD, List.getElem?_eq_getElem (by omega)] at this
    simp only [Option.getD_some, hv] at this
    exact this rfl
  · rw [hg i hi] at hc
    by_cases hpi : pos < i
    · refine .inl ⟨by rw [e]; omega, ?_⟩
      cases hcut : cutAt 62 (s.data.toList.drop pos) with
      | some p => exact ⟨p.1, p.2, rfl⟩
      | none =>
        exfalso
        refine cutAt_none hcut ?_
        have hk : i - pos < (s.data.toList.drop pos).length := by rw [List.length_drop, hl]; omega
        have he : (s.data.toList.drop pos)[i - pos]'hk = 62 := by
          rw [List.getElem_drop]
          unfold nb at hc
          rw [List.getD_eq_getElem?_getD, List.getElem?_eq_getElem (by omega)] at hc
          simp only [Option.getD_some] at hc
          have e2 : pos + (i - pos) = i := by omega
          simp only [e2]
          exact UInt8.toNat_inj.1 (by show _ = 62; omega)
        rw [← he]
        exact List.getElem_mem hk
    · refine .inr ⟨by rw [e]; omega, cutAt_out fun hm => ?_⟩
      obtain ⟨k, hk, hv⟩ := List.mem_iff_getElem.1 hm
      rw [List.length_drop, hl] at hk
      rw [List.getElem_drop] at hv
      have hv2 : nb s.data.toList (pos + k) = 62 := by
        unfold nb
        rw [List.getD_eq_getElem?_getD, List.getElem?_eq_getElem (by omega)]
        simp only [Option.getD_some, hv]; rfl
      by_cases hik : i < pos + k
      · have := hn (pos + k) hik (by omega)
        rw [hg _ (by omega), hv2] at this
        exact this rfl
      · have : pos + k = pos := by omega
        rw [this] at hv2
        omega

theorem nb_dropS (l : List UInt8) (k j : Nat) : nb (l.drop k) j = nb l (k + j) := by
  unfold nb
  rw [List.getD_eq_getElem?_getD, List.getElem?_drop, ← List.getD_eq_getElem?_getD]

/-- What the loop of FromHtml keeps, of the text alone: o is written, up to d the text is done, pos signs' bytes are gone through. -/
structure Fr (l : List UInt8) (pos d : Nat) (o : List UInt8) : Prop where
  dl : d ≤ l.length
  ol : o.length ≤ d
  edge : d = 0 ∨ nb l (d - 1) < 128
  far : pos < d → o ++ frH (l.drop d) = frH l
  near : d ≤ pos → o ++ (l.take pos).drop d ++ frH (l.drop pos) = frH l
theorem Fr.start (l : List UInt8) : Fr l 0 0 [] := ⟨Nat.zero_le _, Nat.le_refl _, .inl rfl, fun h => absurd h (Nat.not_lt_zero _), fun _ => by simp⟩
theorem take_next {l : List UInt8} {d pos n : Nat} (h : d ≤ pos) : (l.take (pos + n)).drop d = (l.take pos).drop d ++ (l.drop pos).take n := by
  rw [List.drop_take, List.drop_take, show pos + n - d = (pos - d) + n by omega, List.take_add, List.drop_drop, show d + (pos - d) = pos by omega]
/-- One sign on. -/
theorem Fr.skip {l : List UInt8} {pos d c n : Nat} {o : List UInt8} (h : Fr l pos d o) (hl : l.drop pos ≠ []) (hd : dec (l.drop pos) = (c, n)) (h1 : 1 ≤ n) (hn : n ≤ (l.drop pos).length)
    (hc : d ≤ pos → (c ≠ 38 ∨ ent (l.drop pos) = none) ∧ (c ≠ 60 ∨ cutAt 62 (l.drop pos) = none)) : Fr l (pos + n) d o := by
  by_cases hp : pos < d
  · have hnd : pos + n ≤ d := by
      by_cases hc1 : c < 128
      · have := (sh_first hd hl hc1).1; omega
      · refine Decidable.byContradiction fun hg => ?_
        rcases h.edge with e | e
        · omega
        · have := wide_bytes hd hl (by omega) (d - 1 - pos) (by omega)
          rw [nb_dropS, show pos + (d - 1 - pos) = d - 1 by omega] at this
          omega
    refine ⟨h.dl, h.ol, h.edge, fun _ => h.far hp, fun hg => ?_⟩
    obtain rfl : pos + n = d := by omega
    rw [← h.far hp, List.drop_of_length_le (l := l.take (pos + n)) (by rw [List.length_take]; omega), List.append_nil]
  · have hdp : d ≤ pos := by omega
    refine ⟨h.dl, h.ol, h.edge, fun hg => absurd hg (by omega), fun _ => ?_⟩
    obtain ⟨k1, k2⟩ := hc hdp
    have hs := frH_skip hd hl hn k1 k2
    rw [← h.near hdp, hs, take_next hdp, List.drop_drop]
    simp
/-- A mark of k bytes that comes to t. -/
theorem Fr.mark {l : List UInt8} {pos d k : Nat} {o t : List UInt8} (h : Fr l pos d o) (hdp : d ≤ pos) (hk : 2 ≤ k) (hkl : k ≤ (l.drop pos).length) (he : nb (l.drop pos) (k - 1) < 128) (ht : t.length ≤ k) (hf : frH (l.drop pos) = t ++ frH ((l.drop pos).drop k)) :
    Fr l (pos + 1) (pos + k) (o ++ (l.take pos).drop d ++ t) := by
  rw [List.length_drop] at hkl
  refine ⟨by omega, ?_, .inr ?_, fun _ => ?_, fun hg => absurd hg (by omega)⟩
  · have := h.ol
    rw [List.length_append, List.length_append, List.length_drop, List.length_take]
    omega
  · rw [nb_dropS, show pos + (k - 1) = pos + k - 1 by omega] at he
    exact he
  · rw [← h.near hdp, hf, List.drop_drop]
    simp
theorem Fr.done {l : List UInt8} {d : Nat} {o : List UInt8} (h : Fr l l.length d o) : o ++ l.drop d = frH l := by
  have := h.near h.dl
  rw [List.take_length, List.drop_length, frH_nil, List.append_nil] at this
  exact this
end Go.Proofs.YtbadoidjdghklaaDoor
