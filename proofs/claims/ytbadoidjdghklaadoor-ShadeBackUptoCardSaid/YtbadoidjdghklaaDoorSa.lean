/- Plain mathematics of texts with marks (P16.4 to P16.7): a text written with marks, as many signs as have room; a text without its marks; there and back. No condition; nothing of the program stands here. -/
import Derived.Test.YtbadoidjdghklaaDoorPl
namespace Go.Proofs.YtbadoidjdghklaaDoor.Sh
open Go Go.Lib Sg

def mk (l : List UInt8) : ByteArray := ⟨l.toArray⟩
theorem mk_list (l : List UInt8) : (mk l).data.toList = l := rfl
theorem mk_size (l : List UInt8) : (mk l).size = l.length := rfl
theorem mk_self (s : ByteArray) : mk s.data.toList = s := rfl

def M1 : List UInt8 := [38, 97, 109, 112, 59]
def M2 : List UInt8 := [38, 108, 116, 59]
def M3 : List UInt8 := [38, 103, 116, 59]
def M4 : List UInt8 := [38, 113, 117, 111, 116, 59]
def M5 : List UInt8 := [38, 110, 98, 115, 112, 59]
def BR : List UInt8 := [60, 66, 82, 62]

/-- What stands for a sign's bytes. -/
def mrk (l : List UInt8) : List UInt8 :=
  if l = [38] then M1 else if l = [60] then M2 else if l = [62] then M3 else if l = [34] then M4 else if l = [10] then BR else l
theorem mark_len (l : List UInt8) : l.length ≤ (mrk l).length ∧ (mrk l).length ≤ l.length + 5 := by
  unfold mrk
  split
  · rename_i h; subst h; decide
  split
  · rename_i h; subst h; decide
  split
  · rename_i h; subst h; decide
  split
  · rename_i h; subst h; decide
  split
  · rename_i h; subst h; decide
  · omega

/-- A text with marks, as far as there is room: by k rounds. -/
def toHf : Nat → List UInt8 → Int → List UInt8
  | 0, _, _ => []
  | k + 1, l, room =>
    if l = [] then [] else
    match front l with
    | none => toHf k l.tail room
    | some (_, n) => if ((mrk (l.take n)).length : Int) > room then [] else mrk (l.take n) ++ toHf k (l.drop n) (room - ((mrk (l.take n)).length : Int))
theorem front_pos {l : List UInt8} {c n : Nat} (h : front l = some (c, n)) : 1 ≤ n ∧ n ≤ l.length ∧ n ≤ 4 ∧ l.take n = enc c ∧ isSg c = true := by
  obtain ⟨h1, h2, r, h3⟩ := front_some h
  have := enc_len_le c
  subst h2 h3
  refine ⟨this.1, by rw [List.length_append]; omega, this.2, List.take_left' rfl, h1⟩
theorem toHf_fuel : ∀ (k m : Nat) (l : List UInt8) (room : Int), l.length ≤ k → l.length ≤ m → toHf k l room = toHf m l room
  | 0, 0, _, _, _, _ => rfl
  | 0, m + 1, l, room, h, _ => by
    have : l = [] := List.length_eq_zero_iff.1 (by omega)
    subst this; rfl
  | k + 1, 0, l, room, _, h => by
    have : l = [] := List.length_eq_zero_iff.1 (by omega)
    subst this; rfl
  | k + 1, m + 1, l, room, h, g => by
    by_cases e : l = []
    · subst e; rfl
    · have hp : 0 < l.length := List.length_pos_iff.2 e
      simp only [toHf, if_neg e]
      rcases hf : front l with _ | ⟨c, n⟩
      · exact toHf_fuel k m _ _ (by rw [List.length_tail]; omega) (by rw [List.length_tail]; omega)
      · have hq := front_pos hf
        show (if _ then _ else _) = (if _ then _ else _)
        rw [toHf_fuel k m (l.drop n) _ (by rw [List.length_drop]; omega) (by rw [List.length_drop]; omega)]
def toH (l : List UInt8) (room : Int) : List UInt8 := toHf l.length l room
theorem toH_nil (room : Int) : toH [] room = [] := rfl
theorem toH_none {l : List UInt8} (room : Int) (hl : l ≠ []) (h : front l = none) : toH l room = toH (l.drop 1) room := by
  cases l with
  | nil => exact absurd rfl hl
  | cons b r => simp only [toH, List.length_cons, toHf, if_neg hl, h]; rfl
theorem toH_some {l : List UInt8} {c n : Nat} (room : Int) (h : front l = some (c, n)) :
    toH l room = if ((mrk (enc c)).length : Int) > room then [] else mrk (enc c) ++ toH (l.drop n) (room - ((mrk (enc c)).length : Int)) := by
  obtain ⟨h1, h2, h3, h4, h5⟩ := front_pos h
  cases l with
  | nil => simp at h2; omega
  | cons b r =>
    rw [← h4]
    simp only [toH, List.length_cons, toHf, if_neg (List.cons_ne_nil b r), h]
    show (if _ then _ else _) = (if _ then _ else _)
    rw [toHf_fuel r.length ((b :: r).drop n).length _ _ (by rw [List.length_drop, List.length_cons]; omega) (Nat.le_refl _)]
theorem toHf_neg : ∀ (k : Nat) (l : List UInt8) (room : Int), room ≤ 0 → toHf k l room = []
  | 0, _, _, _ => rfl
  | k + 1, l, room, h => by
    by_cases e : l = []
    · subst e; rfl
    · simp only [toHf, if_neg e]
      rcases hf : front l with _ | ⟨c, n⟩
      · exact toHf_neg k _ _ h
      · have hq := front_pos hf
        have h2 := (mark_len (enc c)).1
        have h3 := (enc_len_le c).1
        show (if _ then _ else _) = _
        rw [hq.2.2.2.1, if_pos (by omega)]
theorem toH_neg (l : List UInt8) {room : Int} (h : room ≤ 0) : toH l room = [] := toHf_neg _ _ _ h
theorem toHf_len : ∀ (k : Nat) (l : List UInt8) (room : Int), 0 ≤ room → ((toHf k l room).length : Int) ≤ room
  | 0, _, _, h => h
  | k + 1, l, room, h => by
    by_cases e : l = []
    · subst e; exact h
    · simp only [toHf, if_neg e]
      rcases hf : front l with _ | ⟨c, n⟩
      · exact toHf_len k _ _ h
      · show ((if _ then _ else _ : List UInt8).length : Int) ≤ room
        split
        · exact h
        · rename_i hg
          have := toHf_len k (l.drop n) (room - ((mrk (l.take n)).length : Int)) (by omega)
          rw [List.length_append]
          omega
theorem toH_len (l : List UInt8) {room : Int} (h : 0 ≤ room) : ((toH l room).length : Int) ≤ room := toHf_len _ _ _ h

/-- Where a text's first byte c lies. -/
def cutAt (c : UInt8) : List UInt8 → Option (List UInt8 × List UInt8)
  | [] => none
  | b :: r => if b = c then some ([], r) else (cutAt c r).map fun p => (b :: p.1, p.2)
theorem cutAt_none {c : UInt8} : ∀ {l : List UInt8}, cutAt c l = none → c ∉ l
  | [], _ => by simp
  | b :: r, h => by
    rw [cutAt] at h
    split at h
    · cases h
    · rename_i hb
      have := cutAt_none (l := r) (by cases e : cutAt c r with | none => rfl | some p => rw [e] at h; cases h)
      simp only [List.mem_cons, not_or]
      exact ⟨fun e => hb e.symm, this⟩
theorem cutAt_some {c : UInt8} : ∀ {l x y : List UInt8}, cutAt c l = some (x, y) → l = x ++ c :: y ∧ c ∉ x
  | [], _, _, h => by cases h
  | b :: r, x, y, h => by
    rw [cutAt] at h
    split at h
    · rename_i hb
      simp only [Option.some.injEq, Prod.mk.injEq] at h
      obtain ⟨rfl, rfl⟩ := h
      exact ⟨by rw [hb]; rfl, by simp⟩
    · rename_i hb
      cases e : cutAt c r with
      | none => rw [e] at h; cases h
      | some p =>
        rw [e] at h
        simp only [Option.map_some, Option.some.injEq, Prod.mk.injEq] at h
        obtain ⟨rfl, rfl⟩ := h
        obtain ⟨h1, h2⟩ := cutAt_some (x := p.1) (y := p.2) (l := r) (by rw [e])
        refine ⟨by rw [List.cons_append, ← h1], ?_⟩
        simp only [List.mem_cons, not_or]
        exact ⟨fun e => hb e.symm, h2⟩
theorem cutAt_out {c : UInt8} : ∀ {l : List UInt8}, c ∉ l → cutAt c l = none
  | [], _ => rfl
  | b :: r, h => by
    simp only [List.mem_cons, not_or] at h
    rw [cutAt, if_neg (fun e => h.1 e.symm), cutAt_out h.2]; rfl
theorem cutAt_at {c : UInt8} (y : List UInt8) : ∀ {x : List UInt8}, c ∉ x → cutAt c (x ++ c :: y) = some (x, y)
  | [], _ => by rw [List.nil_append, cutAt, if_pos rfl]
  | b :: r, h => by
    simp only [List.mem_cons, not_or] at h
    rw [List.cons_append, cutAt, if_neg (fun e => h.1 e.symm), cutAt_at y h.2]; rfl

/-- What an element comes to; an entity at a text's front: how many bytes, and to what it comes. -/
def isBr (l : List UInt8) : Bool := decide (foldL l = [60, 98, 114, 62]) || decide (foldL l = [60, 98, 114, 47, 62])
def brk (l : List UInt8) : List UInt8 := if isBr l then [10] else []
def ent (l : List UInt8) : Option (Nat × UInt8) :=
  if M1.isPrefixOf l then some (5, 38) else if M2.isPrefixOf l then some (4, 60) else if M3.isPrefixOf l then some (4, 62) else if M4.isPrefixOf l then some (6, 34) else if M5.isPrefixOf l then some (6, 32) else none
/-- What stands at a text's front: how many bytes of it, and to what they come. -/
def piece (l : List UInt8) : Nat × List UInt8 :=
  match (if l.head? = some 60 then cutAt 62 l else none) with
  | some (x, _) => (x.length + 1, brk (x ++ [62]))
  | none => match ent l with
    | some (n, c) => (n, [c])
    | none => (1, l.take 1)
theorem ent_pos {l : List UInt8} {n : Nat} {c : UInt8} (h : ent l = some (n, c)) : 4 ≤ n ∧ n ≤ 6 ∧ n ≤ l.length ∧ nb l 0 = 38 ∧ nb l (n - 1) = 59 := by
  have pre : ∀ (m : List UInt8), m.isPrefixOf l = true → ∃ r, l = m ++ r := fun m hm => by
    obtain ⟨r, hr⟩ := List.isPrefixOf_iff_prefix.1 hm
    exact ⟨r, hr.symm⟩
  unfold ent at h
  split at h
  · rename_i hm; obtain ⟨r, rfl⟩ := pre _ hm; simp only [Option.some.injEq, Prod.mk.injEq] at h; obtain ⟨rfl, rfl⟩ := h
    exact ⟨by omega, by omega, by simp [M1], rfl, rfl⟩
  split at h
  · rename_i hm; obtain ⟨r, rfl⟩ := pre _ hm; simp only [Option.some.injEq, Prod.mk.injEq] at h; obtain ⟨rfl, rfl⟩ := h
    exact ⟨by omega, by omega, by simp [M2], rfl, rfl⟩
  split at h
  · rename_i hm; obtain ⟨r, rfl⟩ := pre _ hm; simp only [Option.some.injEq, Prod.mk.injEq] at h; obtain ⟨rfl, rfl⟩ := h
    exact ⟨by omega, by omega, by simp [M3], rfl, rfl⟩
  split at h
  · rename_i hm; obtain ⟨r, rfl⟩ := pre _ hm; simp only [Option.some.injEq, Prod.mk.injEq] at h; obtain ⟨rfl, rfl⟩ := h
    exact ⟨by omega, by omega, by simp [M4], rfl, rfl⟩
  split at h
  · rename_i hm; obtain ⟨r, rfl⟩ := pre _ hm; simp only [Option.some.injEq, Prod.mk.injEq] at h; obtain ⟨rfl, rfl⟩ := h
    exact ⟨by omega, by omega, by simp [M5], rfl, rfl⟩
  · cases h
theorem ent_not {l : List UInt8} (h : nb l 0 ≠ 38) : ent l = none := by
  cases e : ent l with
  | none => rfl
  | some p => exact absurd (ent_pos (n := p.1) (c := p.2) e).2.2.2.1 h
theorem piece_pos {l : List UInt8} (hl : l ≠ []) : 1 ≤ (piece l).1 ∧ (piece l).1 ≤ l.length := by
  have hp := List.length_pos_iff.2 hl
  unfold piece
  split
  · rename_i x y hx
    split at hx
    · obtain ⟨h1, _⟩ := cutAt_some hx
      have := congrArg List.length h1
      rw [List.length_append, List.length_cons] at this
      exact ⟨by show 1 ≤ x.length + 1; omega, by show x.length + 1 ≤ _; omega⟩
    · cases hx
  · split
    · rename_i n c he
      have := ent_pos he
      exact ⟨by show 1 ≤ n; omega, this.2.2.1⟩
    · exact ⟨Nat.le_refl _, hp⟩

/-- A text without its marks: by k rounds. -/
def frHf : Nat → List UInt8 → List UInt8
  | 0, _ => []
  | k + 1, l => if l = [] then [] else (piece l).2 ++ frHf k (l.drop (piece l).1)
theorem frHf_fuel : ∀ (k m : Nat) (l : List UInt8), l.length ≤ k → l.length ≤ m → frHf k l = frHf m l
  | 0, 0, _, _, _ => rfl
  | 0, m + 1, l, h, _ => by
    have : l = [] := List.length_eq_zero_iff.1 (by omega)
    subst this; rfl
  | k + 1, 0, l, _, h => by
    have : l = [] := List.length_eq_zero_iff.1 (by omega)
    subst this; rfl
  | k + 1, m + 1, l, h, g => by
    by_cases e : l = []
    · subst e; rfl
    · have hp := piece_pos e
      simp only [frHf, if_neg e]
      rw [frHf_fuel k m _ (by rw [List.length_drop]; omega) (by rw [List.length_drop]; omega)]
def frH (l : List UInt8) : List UInt8 := frHf l.length l
theorem frH_nil : frH [] = [] := rfl
theorem frH_step {l : List UInt8} (hl : l ≠ []) : frH l = (piece l).2 ++ frH (l.drop (piece l).1) := by
  have hp := piece_pos hl
  cases l with
  | nil => exact absurd rfl hl
  | cons b r =>
    show frHf (r.length + 1) _ = _
    simp only [frHf, if_neg hl]
    rw [frHf_fuel r.length ((b :: r).drop (piece (b :: r)).1).length _ (by rw [List.length_drop, List.length_cons]; omega) (Nat.le_refl _)]
    rfl
/-- A byte that begins no mrk stays. -/
theorem piece_byte {b : UInt8} {r : List UInt8} (h1 : b ≠ 38) (h2 : b ≠ 60) : piece (b :: r) = (1, [b]) := by
  unfold piece
  rw [if_neg (by simpa using h2), ent_not (by
    show b.toNat ≠ 38
    exact fun e => h1 (UInt8.toNat_inj.1 e))]
  rfl
theorem frH_byte {b : UInt8} {r : List UInt8} (h1 : b ≠ 38) (h2 : b ≠ 60) : frH (b :: r) = b :: frH r := by
  rw [frH_step (List.cons_ne_nil _ _), piece_byte h1 h2]; rfl
theorem frH_bytes : ∀ {x : List UInt8} (r : List UInt8), (∀ b ∈ x, b ≠ 38 ∧ b ≠ 60) → frH (x ++ r) = x ++ frH r
  | [], _, _ => rfl
  | b :: x, r, h => by
    rw [List.cons_append, frH_byte (h b (List.mem_cons_self ..)).1 (h b (List.mem_cons_self ..)).2, frH_bytes r fun c hc => h c (List.mem_cons_of_mem _ hc)]
    rfl
theorem piece_elem {l x y : List UInt8} (h0 : l.head? = some 60) (h : cutAt 62 l = some (x, y)) : piece l = (x.length + 1, brk (x ++ [62])) := by
  unfold piece; rw [if_pos h0, h]
theorem piece_ent {l : List UInt8} {n : Nat} {c : UInt8} (h : ent l = some (n, c)) : piece l = (n, [c]) := by
  have h0 := (ent_pos h).2.2.2.1
  unfold piece
  rw [if_neg (fun e => by
    cases l with
    | nil => cases e
    | cons b r =>
      simp only [List.head?_cons, Option.some.injEq] at e
      subst e
      exact absurd h0 (by show ¬ (60 : UInt8).toNat = 38; decide)), h]
theorem piece_else {b : UInt8} {r : List UInt8} (h1 : b ≠ 60 ∨ cutAt 62 (b :: r) = none) (h2 : ent (b :: r) = none) : piece (b :: r) = (1, [b]) := by
  have : (if (b :: r).head? = some 60 then cutAt 62 (b :: r) else none) = none := by
    split
    · rename_i e
      simp only [List.head?_cons, Option.some.injEq] at e
      exact h1.resolve_left (fun hb => hb e)
    · rfl
  unfold piece
  rw [this, h2]; rfl

/-- There and back, sign by sign. -/
theorem sign_bytes {c : Nat} (h1 : c ≠ 38) (h2 : c ≠ 60) (hs : isSg c = true) : ∀ b ∈ enc c, b ≠ 38 ∧ b ≠ 60 := by
  by_cases h : c < 128
  · rw [enc_small h]
    intro b hb
    rw [List.mem_singleton.1 hb]
    refine ⟨fun e => ?_, fun e => ?_⟩
    · have := congrArg UInt8.toNat e; rw [u_nat (by omega)] at this; exact h1 this
    · have := congrArg UInt8.toNat e; rw [u_nat (by omega)] at this; exact h2 this
  · have hb := (enc_big hs h).1
    have key : ∀ k, k < (enc c).length → 128 ≤ nb (enc c) k := fun k hk => by
      by_cases k0 : k = 0
      · subst k0; omega
      · have := (inner_iff _).1 (enc_rest hs k (by omega) hk); omega
    intro b hm
    obtain ⟨k, hk, rfl⟩ := List.mem_iff_getElem.1 hm
    have := key k hk
    unfold nb at this
    rw [List.getD_eq_getElem?_getD, List.getElem?_eq_getElem hk] at this
    simp only [Option.getD_some] at this
    refine ⟨fun e => ?_, fun e => ?_⟩
    · rw [e] at this; exact absurd this (by decide)
    · rw [e] at this; exact absurd this (by decide)
theorem mark_else {c : Nat} (h1 : c ≠ 38) (h2 : c ≠ 60) (h3 : c ≠ 62) (h4 : c ≠ 34) (h5 : c ≠ 10) (hs : isSg c = true) : mrk (enc c) = enc c := by
  have key : ∀ a : Nat, a < 128 → c ≠ a → enc c ≠ [u a] := fun a ha hne e => by
    by_cases h : c < 128
    · rw [enc_small h] at e
      have := congrArg (fun l => nb l 0) e
      rw [nb_u0 c [] (by omega), nb_u0 a [] (by omega)] at this
      exact hne this
    · have := (enc_big hs h).2
      rw [e] at this; simp at this
  unfold mrk
  rw [if_neg (show ¬ enc c = [38] from key 38 (by omega) h1), if_neg (show ¬ enc c = [60] from key 60 (by omega) h2), if_neg (show ¬ enc c = [62] from key 62 (by omega) h3), if_neg (show ¬ enc c = [34] from key 34 (by omega) h4), if_neg (show ¬ enc c = [10] from key 10 (by omega) h5)]
theorem mark_at : mrk (enc 38) = M1 ∧ mrk (enc 60) = M2 ∧ mrk (enc 62) = M3 ∧ mrk (enc 34) = M4 ∧ mrk (enc 10) = BR := by decide
theorem back_sign {c : Nat} (hs : isSg c = true) (r : List UInt8) : frH (mrk (enc c) ++ r) = enc c ++ frH r := by
  have viaEnt : ∀ (m : List UInt8) (n : Nat) (a : UInt8), m ≠ [] → m.length = n → ent (m ++ r) = some (n, a) → frH (m ++ r) = a :: frH r := fun m n a hm hn he => by
    rw [frH_step (by simp [hm]), piece_ent he]
    show [a] ++ frH ((m ++ r).drop n) = _
    rw [List.drop_left' hn]; rfl
  by_cases h1 : c = 38
  · subst h1; rw [mark_at.1]; exact viaEnt M1 5 38 (by decide) rfl (by simp [ent, M1, List.isPrefixOf])
  by_cases h2 : c = 60
  · subst h2; rw [mark_at.2.1]; exact viaEnt M2 4 60 (by decide) rfl (by simp [ent, M1, M2, List.isPrefixOf])
  by_cases h3 : c = 62
  · subst h3; rw [mark_at.2.2.1]; exact viaEnt M3 4 62 (by decide) rfl (by simp [ent, M1, M2, M3, List.isPrefixOf])
  by_cases h4 : c = 34
  · subst h4; rw [mark_at.2.2.2.1]; exact viaEnt M4 6 34 (by decide) rfl (by simp [ent, M1, M2, M3, M4, List.isPrefixOf])
  by_cases h5 : c = 10
  · subst h5
    rw [mark_at.2.2.2.2, frH_step (by simp [BR]), show piece (BR ++ r) = (4, brk BR) from piece_elem (x := [60, 66, 82]) (y := r) rfl (cutAt_at r (x := [60, 66, 82]) (by decide))]
    show brk BR ++ frH r = _
    rw [show brk BR = enc 10 by decide]
  · rw [mark_else h1 h2 h3 h4 h5 hs, frH_bytes r (sign_bytes h1 h2 hs)]

/-- Signs with marks. -/
def toC : List Nat → Int → List UInt8
  | [], _ => []
  | c :: cs, room => if ((mrk (enc c)).length : Int) > room then [] else mrk (enc c) ++ toC cs (room - ((mrk (enc c)).length : Int))
def flatM (cs : List Nat) : List UInt8 := cs.flatMap fun c => mrk (enc c)
theorem flatM_cons (c : Nat) (cs : List Nat) : flatM (c :: cs) = mrk (enc c) ++ flatM cs := by simp [flatM]
theorem toH_cat : ∀ (cs : List Nat) (room : Int), (∀ c ∈ cs, ok c = true) → toH (cat cs) room = toC cs room
  | [], _, _ => rfl
  | c :: cs, room, h => by
    have hc := h c (List.mem_cons_self ..)
    have hf : front (cat (c :: cs)) = some (c, (enc c).length) := by rw [cat_cons]; exact front_cons hc _
    rw [toH_some room hf, toC, cat_cons, List.drop_left' rfl]
    split
    · rfl
    · rw [toH_cat cs _ fun d hd => h d (List.mem_cons_of_mem _ hd)]
theorem toC_front : ∀ (cs : List Nat) (room : Int), ∃ j, j ≤ cs.length ∧ toC cs room = flatM (cs.take j)
  | [], _ => ⟨0, Nat.le_refl _, rfl⟩
  | c :: cs, room => by
    rw [toC]
    split
    · exact ⟨0, Nat.zero_le _, rfl⟩
    · obtain ⟨j, hj, he⟩ := toC_front cs (room - ((mrk (enc c)).length : Int))
      refine ⟨j + 1, by simp; omega, ?_⟩
      rw [List.take_succ_cons, flatM_cons, he]
theorem toC_more : ∀ (cs : List Nat) (room more : Int), 0 ≤ more → ∃ r, toC cs (room + more) = toC cs room ++ r
  | [], _, _, _ => ⟨[], rfl⟩
  | c :: cs, room, more, h => by
    rw [toC, toC]
    by_cases g : ((mrk (enc c)).length : Int) > room
    · rw [if_pos g]; exact ⟨_, rfl⟩
    · rw [if_neg g, if_neg (by omega)]
      obtain ⟨r, hr⟩ := toC_more cs (room - ((mrk (enc c)).length : Int)) more h
      refine ⟨r, ?_⟩
      rw [show room + more - ((mrk (enc c)).length : Int) = room - ((mrk (enc c)).length : Int) + more by omega, hr, List.append_assoc]
theorem toC_all : ∀ (cs : List Nat) (room : Int), ((flatM cs).length : Int) ≤ room → toC cs room = flatM cs
  | [], _, _ => rfl
  | c :: cs, room, h => by
    rw [flatM_cons, List.length_append] at h
    rw [toC, flatM_cons, if_neg (by omega), toC_all cs _ (by omega)]
theorem flatM_len : ∀ (cs : List Nat), (flatM cs).length ≤ 6 * (cat cs).length
  | [] => Nat.le_refl _
  | c :: cs => by
    have h1 := (mark_len (enc c)).2
    have h2 := (enc_len_le c).1
    have := flatM_len cs
    rw [flatM_cons, cat_cons, List.length_append, List.length_append]
    omega
theorem back_flat : ∀ (cs : List Nat), (∀ c ∈ cs, ok c = true) → frH (flatM cs) = cat cs
  | [], _ => rfl
  | c :: cs, h => by
    rw [flatM_cons, cat_cons, back_sign (ok_sg (h c (List.mem_cons_self ..))), back_flat cs fun d hd => h d (List.mem_cons_of_mem _ hd)]
/-- What is written is a text. -/
theorem mark_text {c : Nat} (h : ok c = true) : ∃ cs, IsT (mrk (enc c)) cs := by
  have lit : ∀ (cs : List Nat), (∀ c ∈ cs, ok c = true) → ∃ ds, IsT (cat cs) ds := fun cs hc => ⟨cs, hc, rfl⟩
  by_cases h1 : c = 38
  · subst h1; rw [mark_at.1]; exact ⟨[38, 97, 109, 112, 59], by decide, by decide⟩
  by_cases h2 : c = 60
  · subst h2; rw [mark_at.2.1]; exact ⟨[38, 108, 116, 59], by decide, by decide⟩
  by_cases h3 : c = 62
  · subst h3; rw [mark_at.2.2.1]; exact ⟨[38, 103, 116, 59], by decide, by decide⟩
  by_cases h4 : c = 34
  · subst h4; rw [mark_at.2.2.2.1]; exact ⟨[38, 113, 117, 111, 116, 59], by decide, by decide⟩
  by_cases h5 : c = 10
  · subst h5; rw [mark_at.2.2.2.2]; exact ⟨[60, 66, 82, 62], by decide, by decide⟩
  · rw [mark_else h1 h2 h3 h4 h5 (ok_sg h)]; exact ⟨[c], IsT.one h⟩
theorem flatM_text : ∀ (cs : List Nat), (∀ c ∈ cs, ok c = true) → ∃ ds, IsT (flatM cs) ds
  | [], _ => ⟨[], IsT.nil⟩
  | c :: cs, h => by
    obtain ⟨a, ha⟩ := mark_text (h c (List.mem_cons_self ..))
    obtain ⟨b, hb⟩ := flatM_text cs fun d hd => h d (List.mem_cons_of_mem _ hd)
    rw [flatM_cons]
    exact ⟨a ++ b, ha.append hb⟩
/-- Each < begins a line's end. -/
def Brs (l : List UInt8) : Prop := ∀ i, nb l i = 60 → i < l.length → i + 4 ≤ l.length ∧ (l.take (i + 4)).drop i = BR
theorem Brs.append {a b : List UInt8} (ha : Brs a) (hb : Brs b) : Brs (a ++ b) := by
  intro i h hi
  rw [List.length_append] at hi ⊢
  by_cases hl : i < a.length
  · obtain ⟨h1, h2⟩ := ha i (by rw [← h, nb_append_left a b i hl]) hl
    exact ⟨by omega, by rw [List.take_append_of_le_length h1]; exact h2⟩
  · obtain ⟨h1, h2⟩ := hb (i - a.length) (by rw [← h, nb_append_right a b i (by omega)]) (by omega)
    refine ⟨by omega, ?_⟩
    rw [show i + 4 = a.length + (i - a.length + 4) by omega, List.take_append, List.take_of_length_le (by omega), List.drop_append,
      List.drop_of_length_le (by omega), List.nil_append, Nat.add_sub_cancel_left, h2]
theorem Brs.nil : Brs [] := fun i _ hi => absurd hi (by simp)
theorem brs_none {l : List UInt8} (h : ∀ b ∈ l, b ≠ 60) : Brs l := by
  intro i hi hl
  unfold nb at hi
  rw [List.getD_eq_getElem?_getD, List.getElem?_eq_getElem hl] at hi
  exact absurd (UInt8.toNat_inj.1 (show (l[i]).toNat = (60 : UInt8).toNat from hi)) (h _ (List.getElem_mem hl))
theorem brs_mark {c : Nat} (hs : isSg c = true) : Brs (mrk (enc c)) := by
  by_cases h1 : c = 38
  · subst h1; rw [mark_at.1]; exact brs_none (by decide)
  by_cases h2 : c = 60
  · subst h2; rw [mark_at.2.1]; exact brs_none (by decide)
  by_cases h3 : c = 62
  · subst h3; rw [mark_at.2.2.1]; exact brs_none (by decide)
  by_cases h4 : c = 34
  · subst h4; rw [mark_at.2.2.2.1]; exact brs_none (by decide)
  by_cases h5 : c = 10
  · subst h5
    rw [mark_at.2.2.2.2]
    intro i h hi
    have : i = 0 ∨ i = 1 ∨ i = 2 ∨ i = 3 := by simp [BR] at hi; omega
    rcases this with rfl | rfl | rfl | rfl
    · exact ⟨by decide, by decide⟩
    all_goals exact absurd h (by decide)
  · rw [mark_else h1 h2 h3 h4 h5 hs]
    exact brs_none fun b hb => (sign_bytes h1 h2 hs b hb).2
theorem brs_flat : ∀ (cs : List Nat), (∀ c ∈ cs, ok c = true) → Brs (flatM cs)
  | [], _ => Brs.nil
  | c :: cs, h => by
    rw [flatM_cons]
    exact (brs_mark (ok_sg (h c (List.mem_cons_self ..)))).append (brs_flat cs fun d hd => h d (List.mem_cons_of_mem _ hd))
end Go.Proofs.YtbadoidjdghklaaDoor.Sh
