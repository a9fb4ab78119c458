/- Layer 6 in one text: what was printed is read as it was; a stream's beginning, prefixes, blanks (plain). Conditions: those of each theorem's head. -/
import Derived.Test.YtolnpfcncmcacaaGreatDoorMK

/- What was printed is read as it was: quotes, tags, attributes. No condition; nothing of the program stands here. -/
namespace Go.Proofs.YtolnpfcncmcacaaGreatDoor
open Go.RowKit Go.Lib Go.Shelf Tg Sn

/-! ### Quotes -/
theorem sp8_is {c : UInt8} (h : sp8 c = true) : c = 38 ∨ c = 60 ∨ c = 62 ∨ c = 39 ∨ c = 34 ∨ c = 9 ∨ c = 10 ∨ c = 13 := by
  simpa [sp8, or_assoc] using h
theorem qb_meaning : ∀ c : UInt8, sp8 c = true → ∃ m, qb c = 38 :: (m ++ [59]) ∧ (59 : UInt8) ∉ m ∧ meaning m = some [c] := by
  intro c h
  have hc := sp8_is h
  rcases hc with rfl | rfl | rfl | rfl | rfl | rfl | rfl | rfl
  · exact ⟨[97, 109, 112], by decide, by decide, by decide⟩
  · exact ⟨[108, 116], by decide, by decide, by decide⟩
  · exact ⟨[103, 116], by decide, by decide, by decide⟩
  · exact ⟨[97, 112, 111, 115], by decide, by decide, by decide⟩
  · exact ⟨[113, 117, 111, 116], by decide, by decide, by decide⟩
  · exact ⟨[35, 120, 57], by decide, by decide, by decide⟩
  · exact ⟨[35, 120, 65], by decide, by decide, by decide⟩
  · exact ⟨[35, 120, 68], by decide, by decide, by decide⟩
theorem Q_back : ∀ (l acc p : B8), (38 : UInt8) ∉ p → Q acc (p ++ q l) = (0, acc ++ p ++ l)
  | [], acc, p, hp => by
    rw [q_nil, List.append_nil, Q_none (cut1_out hp), List.append_nil]
  | c :: l, acc, p, hp => by
    rw [q_cons]
    cases hc : sp8 c with
    | false =>
      have h38 : c ≠ 38 := fun e => by subst e; exact absurd hc (by decide)
      rw [qb_plain c hc]
      have := Q_back l acc (p ++ [c]) (by simp [hp, Ne.symm h38])
      simpa [List.append_assoc] using this
    | true =>
      obtain ⟨m, e, hm, ht⟩ := qb_meaning c hc
      rw [e]
      have e1 : p ++ (38 :: (m ++ [59]) ++ q l) = p ++ 38 :: (m ++ 59 :: q l) := by simp
      rw [e1, Q_some (cut1_at _ hp) (cut1_at _ hm) ht]
      have := Q_back l (acc ++ p ++ [c]) [] (by simp)
      simpa using this
theorem qt_back (l : B8) : qt (q l) = (0, l) := by
  have := Q_back l [] [] (by simp)
  rw [qt_Q]
  simpa using this
/-! ### Texts -/
theorem tx_append {a b : B8} (h : isTx a = true) (k : isTx b = true) : isTx (a ++ b) = true := by
  obtain ⟨x, hx⟩ := (isTx_iff a).1 h
  obtain ⟨y, hy⟩ := (isTx_iff b).1 k
  exact (isTx_iff _).2 ⟨_, hx.append hy⟩
theorem enc_up {c : Nat} (hs : Sg.isSg c = true) (h : ¬ c < 128) : ∀ a ∈ Sg.enc c, 128 ≤ a.toNat := by
  have hi := (Sg.isSg_iff c).1 hs
  intro a ha
  unfold Sg.enc at ha
  rw [if_neg h] at ha
  split at ha
  · simp only [List.mem_cons, List.not_mem_nil, or_false] at ha
    rcases ha with rfl | rfl <;> (rw [Sg.u_nat (by omega)]; omega)
  · split at ha
    · simp only [List.mem_cons, List.not_mem_nil, or_false] at ha
      rcases ha with rfl | rfl | rfl <;> (rw [Sg.u_nat (by omega)]; omega)
    · simp only [List.mem_cons, List.not_mem_nil, or_false] at ha
      rcases ha with rfl | rfl | rfl | rfl <;> (rw [Sg.u_nat (by omega)]; omega)
theorem sp8_low {a : UInt8} (h : 128 ≤ a.toNat) : sp8 a = false := by
  cases hs : sp8 a with
  | false => rfl
  | true =>
    rcases sp8_is hs with rfl | rfl | rfl | rfl | rfl | rfl | rfl | rfl <;> exact absurd h (by decide)
theorem q_cat : ∀ cs : List Nat, (∀ c ∈ cs, Sg.ok c = true) → isTx (q (Sg.cat cs)) = true
  | [], _ => by rw [Sg.cat_nil, q_nil]; exact asc_text rfl
  | c :: cs, h => by
    rw [Sg.cat_cons, q_append]
    refine tx_append ?_ (q_cat cs fun d hd => h d (List.mem_cons_of_mem _ hd))
    have hc := h c (List.mem_cons_self ..)
    by_cases hl : c < 128
    · rw [enc_small hl, q_cons, q_nil, List.append_nil]
      cases hs : sp8 (Sg.u c) with
      | false =>
        rw [qb_plain _ hs, isTx_iff]
        exact ⟨[c], by have := Sg.IsT.one hc; rwa [enc_small hl] at this⟩
      | true =>
        generalize Sg.u c = b at hs
        rcases sp8_is hs with rfl | rfl | rfl | rfl | rfl | rfl | rfl | rfl <;> exact asc_text (by decide)
    · rw [(q_same _).2 (by
        rw [List.any_eq_false]
        intro a ha
        rw [sp8_low (enc_up (Sg.ok_sg hc) hl a ha)]
        exact Bool.false_ne_true), isTx_iff]
      exact ⟨[c], Sg.IsT.one hc⟩
theorem q_text {l : B8} (h : isTx l = true) : isTx (q l) = true := by
  obtain ⟨cs, hc, e⟩ := (isTx_iff l).1 h
  rw [e]; exact q_cat cs hc
/-! ### Names -/
theorem name_all {l : B8} (h : nameB l = true) : ∀ c ∈ l, (bgn c.toNat || fol c.toNat) = true := by
  unfold nameB at h
  simp only [Bool.and_eq_true] at h
  exact List.all_eq_true.1 h.2
theorem name_byte {c : UInt8} (h : (bgn c.toNat || fol c.toNat) = true) : (45 ≤ c.toNat ∧ c.toNat < 123 ∧ c.toNat ≠ 47 ∧ c.toNat ≠ 58 ∧ c.toNat ≠ 60 ∧ c.toNat ≠ 61 ∧ c.toNat ≠ 62 ∧ c.toNat ≠ 63) := by
  simp only [bgn, fol, Bool.or_eq_true, Bool.and_eq_true, decide_eq_true_eq, beq_iff_eq] at h
  omega
theorem name_ne {l : B8} (h : nameB l = true) : l ≠ [] ∧ l.length ≤ 64 ∧ bgn (Sg.nb l 0) = true := by
  unfold nameB at h
  simp only [Bool.and_eq_true, decide_eq_true_eq, Bool.not_eq_true'] at h
  refine ⟨fun e => ?_, h.1.1.2, h.1.2⟩
  rw [e] at h
  exact absurd h.1.1.1 (by decide)
theorem name_no {l : B8} (h : nameB l = true) {d : UInt8} (hd : ∀ c : UInt8, c.toNat = d.toNat → ¬ (45 ≤ c.toNat ∧ c.toNat < 123 ∧ c.toNat ≠ 47 ∧ c.toNat ≠ 58 ∧ c.toNat ≠ 60 ∧ c.toNat ≠ 61 ∧ c.toNat ≠ 62 ∧ c.toNat ≠ 63)) : d ∉ l := fun hm => hd d rfl (name_byte (name_all h d hm))
theorem name_asc {l : B8} (h : nameB l = true) : isTx l = true := by
  refine asc_text (List.all_eq_true.2 fun c hc => ?_)
  have := name_byte (name_all h c hc)
  simp only [Bool.and_eq_true, decide_eq_true_eq]; omega
/-- What holds of a name that an attribute may have, and of xmlns. -/
structure An (l : B8) : Prop where
  ne : l ≠ []
  full : full l = true
  tx : isTx l = true
  no : ∀ d ∈ l, d ≠ 61 ∧ d ≠ 39 ∧ d ≠ 34 ∧ d ≠ 62 ∧ bk d = false
theorem bk_no {c : UInt8} (h : 45 ≤ c.toNat) : bk c = false := by
  cases hb : bk c with
  | false => rfl
  | true =>
    have : c = 32 ∨ c = 9 ∨ c = 10 ∨ c = 13 := by simpa [bk, or_assoc] using hb
    rcases this with rfl | rfl | rfl | rfl <;> exact absurd h (by decide)
theorem An.name {l : B8} (h : nameB l = true) : An l := by
  refine ⟨(name_ne h).1, ?_, name_asc h, fun d hd => ?_⟩
  · rw [full_none (cut1_out (name_no h fun c e => by rw [e]; decide))]; exact h
  · have := name_byte (name_all h d hd)
    refine ⟨fun e => ?_, fun e => ?_, fun e => ?_, fun e => ?_, bk_no this.1⟩ <;> (subst e; revert this; decide)
theorem An.attr {l : B8} (h : attrNameB l = true) : An l := by
  unfold attrNameB at h
  simp only [Bool.or_eq_true, beq_iff_eq, Bool.and_eq_true] at h
  rcases h with h | h
  · subst h
    exact ⟨by decide, by decide, asc_text (by decide), by decide⟩
  · exact An.name h.2
theorem An.xmlns : An xmlns := An.name (by decide)
/-! ### How a tag's quotes run -/
def run1 (k : Nat) (c : UInt8) : Option Nat := if k ≠ 0 then some (if c.toNat = k then 0 else k) else if c = 39 ∨ c = 34 then some c.toNat else if c = 62 then none else some 0
def runs (k : Nat) : B8 → Option Nat
  | [] => some k
  | c :: r => match run1 k c with
    | none => none
    | some k' => runs k' r
theorem runs_append {a b : B8} : ∀ {k k' : Nat}, runs k a = some k' → runs k (a ++ b) = runs k' b := by
  induction a with
  | nil => intro k k' h; cases h; rfl
  | cons c r ih =>
    intro k k' h
    simp only [List.cons_append, runs] at h ⊢
    cases hr : run1 k c with
    | none => rw [hr] at h; cases h
    | some j => rw [hr] at h; exact ih h
theorem runs_plain : ∀ {l : B8}, (∀ d ∈ l, d ≠ 39 ∧ d ≠ 34 ∧ d ≠ 62) → runs 0 l = some 0
  | [], _ => rfl
  | c :: r, h => by
    obtain ⟨h1, h2, h3⟩ := h c (List.mem_cons_self ..)
    have e : run1 0 c = some 0 := by unfold run1; rw [if_neg (by decide), if_neg (by simp [h1, h2]), if_neg h3]
    simp only [runs, e]
    exact runs_plain fun d hd => h d (List.mem_cons_of_mem _ hd)
theorem runs_in : ∀ {l : B8}, (∀ d ∈ l, d ≠ 39) → runs 39 l = some 39
  | [], _ => rfl
  | c :: r, h => by
    have h1 := h c (List.mem_cons_self ..)
    have e : run1 39 c = some 39 := by
      unfold run1
      have e2 : ¬ c.toNat = 39 := fun e => h1 (UInt8.toNat_inj.1 e)
      rw [if_pos (by decide), if_neg e2]
    simp only [runs, e]
    exact runs_in fun d hd => h d (List.mem_cons_of_mem _ hd)
theorem runs_mark {n v : B8} (h : An n) : runs 0 (Tg.mark n v) = some 0 := by
  unfold Tg.mark
  have e1 : runs 0 ([32] ++ n) = some 0 := runs_plain fun d hd => by
    rcases List.mem_append.1 hd with h1 | h1
    · rw [List.mem_singleton.1 h1]; decide
    · exact ⟨(h.no d h1).2.1, (h.no d h1).2.2.1, (h.no d h1).2.2.2.1⟩
  have e2 : runs 0 ([61, 39] : B8) = some 39 := by decide
  rw [List.append_assoc, List.append_assoc, runs_append e1, runs_append e2, runs_append (runs_in fun d hd => (q_no hd).2.2.1)]
  decide
theorem runs_marks : ∀ {l : List At}, (∀ a ∈ l, An a.1.data.toList) → runs 0 (Tg.marks l) = some 0
  | [], _ => rfl
  | a :: r, h => by
    show runs 0 (Tg.mark a.1.data.toList a.2.data.toList ++ Tg.marks r) = some 0
    rw [runs_append (runs_mark (h a (List.mem_cons_self ..)))]
    exact runs_marks fun b hb => h b (List.mem_cons_of_mem _ hb)
/-! ### Bytes of a tag, one by one -/
theorem one_in {s : St} {c : UInt8} {k : Nat} (ho : s.over = false) (h0 : s.token.head? = some 60) (hl : s.token.length < 16384) (hr : run1 s.quote c = some k) : Sn.one s c = ({ s with token := s.token ++ [c], quote := k }, []) := by
  have hc : Sn.cut s c = ({ s with token := s.token ++ [c], quote := k }, []) := by
    unfold Sn.cut
    rw [if_neg (fun h => h h0)]
    unfold run1 at hr
    by_cases hq : s.quote ≠ 0
    · rw [if_pos hq] at hr ⊢
      simp only [Option.some.injEq] at hr
      rw [hr]
    · have hq : s.quote = 0 := by omega
      rw [if_neg (by omega)] at hr ⊢
      by_cases h1 : c = 39 ∨ c = 34
      · rw [if_pos h1] at hr ⊢
        simp only [Option.some.injEq] at hr
        rw [hr]
      · rw [if_neg h1] at hr ⊢
        by_cases h2 : c = 62
        · rw [if_pos h2] at hr; cases hr
        · rw [if_neg h2] at hr ⊢
          simp only [Option.some.injEq] at hr
          rw [← hr, hq]
  have hs : Sn.step s c = ({ s with token := s.token ++ [c], quote := k }, Ev0, 0) := by
    rw [st_ok (by rw [hc]) (by rw [hc]; simp; omega), hc]
  rw [one_none ho (by rw [hs]) (by rw [hs]; rfl), hs]
theorem feed_in : ∀ (m : B8) {s : St} {k : Nat}, s.over = false → s.token.head? = some 60 → s.token.length + m.length ≤ 16384 → runs s.quote m = some k → Sn.feed s m = ({ s with token := s.token ++ m, quote := k }, [])
  | [], s, k, _, _, _, hr => by
    simp only [runs, Option.some.injEq] at hr
    simp only [Sn.feed, List.append_nil, ← hr]
  | c :: m, s, k, ho, h0, hl, hr => by
    simp only [runs] at hr
    cases h1 : run1 s.quote c with
    | none => rw [h1] at hr; cases hr
    | some j =>
      rw [h1] at hr
      simp only [List.length_cons] at hl
      simp only [Sn.feed, one_in ho h0 (by omega) h1]
      have hh : (s.token ++ [c]).head? = some 60 := by
        cases ht : s.token with
        | nil => rw [ht] at h0; cases h0
        | cons a r => rw [ht] at h0; exact h0
      rw [feed_in m (s := { s with token := s.token ++ [c], quote := j }) ho hh (by simp; omega) hr]
      simp
/-- The states between tokens, within a stream. -/
def S (os : List Sn.Op) (n : Nat) : St := ⟨[], 0, true, os, n, false, 0⟩
/-- What a token makes of such a state. -/
noncomputable def tok1 (s : St) (t : B8) : St × List Ev := if (Sn.take s t).2.2 = 0 then ((Sn.take s t).1, if (Sn.take s t).2.1.kind = 0 then [] else [(Sn.take s t).2.1]) else ((Sn.fail (Sn.take s t).1 (Sn.take s t).2.2).1, [(Sn.fail (Sn.take s t).1 (Sn.take s t).2.2).2])
theorem feed_lt (os : List Sn.Op) (n : Nat) (r : B8) : Sn.feed (S os n) (60 :: r) = Sn.feed ({ S os n with token := [60] }) r := by
  have hc : Sn.cut (S os n) 60 = ({ S os n with token := [60] }, []) := by
    unfold Sn.cut
    rw [if_pos (by show ¬ (none = some (60 : UInt8)); simp), if_pos rfl]; rfl
  have hs : Sn.step (S os n) 60 = ({ S os n with token := [60] }, Ev0, 0) := by
    rw [st_ok (by rw [hc]) (by rw [hc]; simp), hc]
  simp only [Sn.feed, one_none (s := S os n) rfl (by rw [hs]) (by rw [hs]; rfl), hs, List.nil_append]
/-- A tag, all at once. -/
theorem feed_tag {os : List Sn.Op} {n : Nat} {m : B8} (hr : runs 0 m = some 0) (hl : m.length ≤ 16383) : Sn.feed (S os n) (60 :: (m ++ [62])) = tok1 (S os n) (60 :: (m ++ [62])) := by
  rw [feed_lt, Sn.feed_append, feed_in m (s := { S os n with token := [60] }) (k := 0) rfl rfl (by simp; omega) hr]
  have hc : Sn.cut { S os n with token := [60] ++ m, quote := 0 } 62 = (S os n, 60 :: (m ++ [62])) := by
    unfold Sn.cut
    rw [if_neg (fun h => h rfl), if_neg (fun h => h rfl), if_neg (by decide), if_pos rfl]
    rfl
  have hs : Sn.step { S os n with token := [60] ++ m, quote := 0 } 62 = Sn.take (S os n) (60 :: (m ++ [62])) := by
    rw [st_tok (by rw [hc]; simp), hc]
  simp only [Sn.feed, List.nil_append, List.append_nil]
  unfold Sn.one
  rw [if_neg (by exact Bool.false_ne_true)]
  simp only [hs]
  rfl
/-! ### Characters -/
theorem one_ch {s : St} {c : UInt8} (ho : s.over = false) (h0 : s.token.head? ≠ some 60) (hl : s.token.length < 16384) (hc : c ≠ 60) : Sn.one s c = ({ s with token := s.token ++ [c] }, []) := by
  have hcut : Sn.cut s c = ({ s with token := s.token ++ [c] }, []) := by
    unfold Sn.cut
    rw [if_pos h0, if_neg hc]
  have hs : Sn.step s c = ({ s with token := s.token ++ [c] }, Ev0, 0) := by
    rw [st_ok (by rw [hcut]) (by rw [hcut]; simp; omega), hcut]
  rw [one_none ho (by rw [hs]) (by rw [hs]; rfl), hs]
theorem feed_ch : ∀ (m : B8) {s : St}, s.over = false → s.token.head? ≠ some 60 → s.token.length + m.length ≤ 16384 → (∀ d ∈ m, d ≠ 60) → Sn.feed s m = ({ s with token := s.token ++ m }, [])
  | [], s, _, _, _, _ => by simp only [Sn.feed, List.append_nil]
  | c :: m, s, ho, h0, hl, hm => by
    simp only [List.length_cons] at hl
    have h1 := hm c (List.mem_cons_self ..)
    simp only [Sn.feed, one_ch ho h0 (by omega) h1]
    have hh : (s.token ++ [c]).head? ≠ some 60 := by
      cases ht : s.token with
      | nil => intro e; simp at e; exact h1 e
      | cons a r => rw [ht] at h0; exact h0
    rw [feed_ch m (s := { s with token := s.token ++ [c] }) ho hh (by simp; omega) (fun d hd => hm d (List.mem_cons_of_mem _ hd))]
    simp
theorem cut_at60 {s : St} (h : s.token.head? ≠ some 60) : Sn.cut s 60 = ({ s with token := [60] }, s.token) := by
  unfold Sn.cut
  rw [if_pos h, if_pos rfl]
/-- Characters, up to the tag behind them. -/
theorem feed_chars {os os' : List Sn.Op} {n n' : Nat} {t r : B8} (h60 : ∀ d ∈ t, d ≠ 60) (hl : t.length ≤ 16384) (h0 : t = [] → os' = os ∧ n' = n) (ht : t ≠ [] → Sn.take ({ S os n with token := [60] }) t = ({ S os' n' with token := [60] }, Ev0, 0)) :
    Sn.feed (S os n) (t ++ 60 :: r) = Sn.feed (S os' n') (60 :: r) := by
  by_cases he : t = []
  · obtain ⟨e1, e2⟩ := h0 he
    subst he; subst e1; subst e2; rfl
  · rw [feed_lt, Sn.feed_append, feed_ch t (s := S os n) rfl (by show ¬ (none = some (60 : UInt8)); simp) (by show 0 + t.length ≤ _; omega) h60]
    have hne : t.head? ≠ some 60 := by
      cases t with
      | nil => exact absurd rfl he
      | cons a x => intro e; exact h60 a (List.mem_cons_self ..) (by simpa using e)
    have hcut : Sn.cut { S os n with token := [] ++ t } 60 = ({ S os n with token := [60] }, t) := cut_at60 (s := { S os n with token := [] ++ t }) hne
    have hs : Sn.step { S os n with token := [] ++ t } 60 = ({ S os' n' with token := [60] }, Ev0, 0) := by
      rw [st_tok (by rw [hcut]; exact he), hcut]; exact ht he
    have h1 : Sn.one { S os n with token := [] ++ t } 60 = ({ S os' n' with token := [60] }, []) := by
      rw [one_none rfl (by rw [hs]) (by rw [hs]; rfl), hs]
    have h3 : Sn.feed ({ S os n with token := [] ++ t } : St) (60 :: r) = Sn.feed ({ S os' n' with token := [60] }) r := by
      have h2 : ∀ X : St, Sn.feed X (60 :: r) = ((Sn.feed (Sn.one X 60).1 r).1, (Sn.one X 60).2 ++ (Sn.feed (Sn.one X 60).1 r).2) := fun _ => rfl
      rw [h2, h1]; rfl
    exact h3
end Go.Proofs.YtolnpfcncmcacaaGreatDoor

/- What was printed is read as it was: elements within elements. No condition; nothing of the program stands here. -/
namespace Go.Proofs.YtolnpfcncmcacaaGreatDoor
open Go.RowKit Go.Lib Go.Shelf Tg Sn

/-- The attributes that an element's beginning bears. -/
def ats (e : El) (s : ByteArray) : List At := (if e.sp = s then [] else [(Sn.mk xmlns, e.sp)]) ++ e.atr
/-- What it declares. -/
def dcl (e : El) (s : ByteArray) : List At := if e.sp = s then [] else [(Sn.mk [], e.sp)]
theorem beg_ats (e : El) (s : ByteArray) : beg e s = 60 :: (e.nm.data.toList ++ Tg.marks (ats e s) ++ (if emp e.tx e.ks then [47, 62] else 62 :: q e.tx.data.toList)) := by
  unfold beg ats
  by_cases h : e.sp = s
  · simp [h, Tg.marks]
  · simp [h, Tg.marks, Sn.mk_list]
def rawA (a : At) : At := (a.1, Sn.mk (q a.2.data.toList))
theorem marks_cons (a : At) (r : List At) : Tg.marks (a :: r) = Tg.mark a.1.data.toList a.2.data.toList ++ Tg.marks r := by simp [Tg.marks]
theorem raws_marks : ∀ {l : List At}, (∀ a ∈ l, An a.1.data.toList) → raws (Tg.marks l) = some (l.map rawA)
  | [], _ => raws_end rfl
  | a :: r, h => by
    have hn := h a (List.mem_cons_self ..)
    have e1 : Tg.marks (a :: r) = 32 :: (a.1.data.toList ++ 61 :: 39 :: (q a.2.data.toList ++ 39 :: Tg.marks r)) := by
      rw [marks_cons]; simp [Tg.mark]
    have e2 : (Tg.marks (a :: r)).dropWhile bk = a.1.data.toList ++ 61 :: 39 :: (q a.2.data.toList ++ 39 :: Tg.marks r) := by
      rw [e1, List.dropWhile_cons_of_pos (by decide)]
      exact dropWhile_stop hn.ne (fun d hd => (hn.no d (List.mem_of_mem_head? hd)).2.2.2.2) _
    have hc : cutAttr ((Tg.marks (a :: r)).dropWhile bk) = some ((Sn.mk a.1.data.toList, Sn.mk (q a.2.data.toList)), Tg.marks r) := by
      rw [e2]
      refine ca_yes (cut1_at _ fun hm => (hn.no _ hm).1 rfl) hn.full (.inl rfl) (cut1_at _ fun hm => (q_no hm).2.2.1 rfl) ?_
      rw [List.contains_eq_mem, decide_eq_false_iff_not]
      exact fun hm => (q_no hm).1 rfl
    rw [raws_more (by rw [e2]; simp) hc (by rw [e2, e1]; simp), raws_marks fun b hb => h b (List.mem_cons_of_mem _ hb)]
    simp [rawA, Sn.mk_of]
theorem marks_head : ∀ l : List At, (Tg.marks l).takeWhile (fun c => !bk c) = [] ∧ (Tg.marks l).dropWhile (fun c => !bk c) = Tg.marks l
  | [] => ⟨rfl, rfl⟩
  | a :: r => by
    have e1 : ∃ x, Tg.marks (a :: r) = 32 :: x := ⟨_, by rw [marks_cons]; simp [Tg.mark]; rfl⟩
    obtain ⟨x, e⟩ := e1
    rw [e]
    exact ⟨List.takeWhile_cons_of_neg (by decide), List.dropWhile_cons_of_neg (by decide)⟩
theorem marks_last : ∀ l : List At, Tg.marks l = [] ∨ ∃ i, Tg.marks l = i ++ [39]
  | [] => .inl rfl
  | a :: r => by
    rcases marks_last r with h | ⟨i, h⟩
    · exact .inr ⟨[32] ++ a.1.data.toList ++ [61, 39] ++ q a.2.data.toList, by rw [marks_cons, h]; simp [Tg.mark]⟩
    · exact .inr ⟨Tg.mark a.1.data.toList a.2.data.toList ++ i, by rw [marks_cons, h, List.append_assoc]⟩
theorem inner_tag (m : B8) : Sn.inner (60 :: (m ++ [62])) = m := by simp [Sn.inner]
theorem last_name {n : B8} (h : nameB n = true) (l : List At) : (n ++ Tg.marks l).getLast? ≠ some 47 := by
  rcases marks_last l with e | ⟨i, e⟩
  · rw [e, List.append_nil]
    intro hl
    have := name_byte (name_all h 47 (List.mem_of_getLast? hl))
    exact absurd rfl this.2.2.1
  · rw [e, ← List.append_assoc, List.getLast?_concat]
    simp
theorem readBg_put {n : B8} (h : nameB n = true) {l : List At} (hl : ∀ a ∈ l, An a.1.data.toList) (em : Bool) :
    readBg (60 :: ((n ++ Tg.marks l ++ (if em then [47] else [])) ++ [62])) = some ⟨Sn.mk n, l.map rawA, em⟩ := by
  have hE : isEmp (60 :: ((n ++ Tg.marks l ++ (if em then [47] else [])) ++ [62])) = em := by
    unfold isEmp
    rw [inner_tag]
    cases em with
    | true => simp
    | false =>
      have := last_name h l
      simp only [Bool.false_eq_true, if_false, List.append_nil]
      simpa using this
  have hI : inner2 (60 :: ((n ++ Tg.marks l ++ (if em then [47] else [])) ++ [62])) = n ++ Tg.marks l := by
    unfold inner2
    rw [hE, inner_tag]
    cases em <;> simp
  have hb : ∀ d ∈ n, (!bk d) = true := fun d hd => by
    rw [bk_no (name_byte (name_all h d hd)).1]; rfl
  have hT : (n ++ Tg.marks l).takeWhile (fun c => !bk c) = n := by
    rw [List.takeWhile_append_of_pos hb, (marks_head l).1, List.append_nil]
  have hD : (n ++ Tg.marks l).dropWhile (fun c => !bk c) = Tg.marks l := by
    rw [List.dropWhile_append_of_pos hb, (marks_head l).2]
  unfold readBg
  rw [hI, hT, hD, if_pos (An.name h).full, raws_marks hl, hE]
  rfl
theorem vals_raw : ∀ l : List At, vals (l.map rawA) = (0, l)
  | [] => rfl
  | a :: r => by
    have hq : qt (rawA a).2.data.toList = (0, a.2.data.toList) := by
      show qt (Sn.mk (q a.2.data.toList)).data.toList = _
      rw [Sn.mk_list, qt_back]
    rw [List.map_cons, vals_ok (by rw [hq]), hq, vals_raw r]
    simp [vcat, rawA, Sn.mk_of]
/-- No two of the same name. -/
def Dif (l : List At) : Prop := l.Pairwise fun a b => b.1.data.toList ≠ a.1.data.toList
theorem twins_raw : ∀ {l : List At}, Dif l → twins (l.map rawA) = false
  | [], _ => rfl
  | a :: r, h => by
    obtain ⟨h1, h2⟩ := List.pairwise_cons.1 h
    simp only [List.map_cons, twins, Bool.or_eq_false_iff]
    refine ⟨?_, twins_raw h2⟩
    rw [List.any_map, List.any_eq_false]
    intro b hb e
    exact h1 b hb (by simpa [rawA] using e)
theorem others_raw (l : List At) : others (l.map rawA) = others l := by
  unfold others
  rw [List.filter_map, List.length_map]
  rfl
theorem name_cut {n : B8} (h : nameB n = true) : cut1 58 n = none := cut1_out (name_no h fun c e => by rw [e]; decide)
theorem dpre_attr {l : B8} (h : attrNameB l = true) : dpre l = none ∧ (pre l = [] ∨ l = xlang) := by
  unfold attrNameB at h
  simp only [Bool.or_eq_true, beq_iff_eq, Bool.and_eq_true, Bool.not_eq_true', beq_eq_false_iff_ne] at h
  rcases h with h | ⟨h1, h2⟩
  · subst h
    exact ⟨by decide, .inr rfl⟩
  · refine ⟨?_, .inl ?_⟩
    · unfold dpre
      rw [if_neg h1, name_cut h2]
    · unfold pre
      rw [name_cut h2]
theorem decls_attr : ∀ {l : List At}, (∀ a ∈ l, attrNameB a.1.data.toList = true) → decls l = some []
  | [], _ => rfl
  | a :: r, h => by rw [decls_skip (dpre_attr (h a (List.mem_cons_self ..))).1, decls_attr fun b hb => h b (List.mem_cons_of_mem _ hb)]
theorem choose_attr {own : List At} {os : List Sn.Op} : ∀ {l : List At}, (∀ a ∈ l, attrNameB a.1.data.toList = true) → Sn.choose own os l = some l
  | [], _ => rfl
  | a :: r, h => by
    obtain ⟨h1, h2⟩ := dpre_attr (h a (List.mem_cons_self ..))
    rw [choose_keep (by rw [h1]; rfl) h2, choose_attr fun b hb => h b (List.mem_cons_of_mem _ hb)]
    rfl
/-- An element that may be, at a depth. -/
inductive Rt : Nat → El → Prop
  | mk (d : Nat) (sp nm : ByteArray) (atr : List At) (tx : ByteArray) (ks : List El) : d ≤ 16 → nameB nm.data.toList = true → sp.size ≠ 0 → sp.size ≤ 256 → isTx sp.data.toList = true → isTx tx.data.toList = true → atr.length ≤ 16 →
      (∀ a ∈ atr, attrNameB a.1.data.toList = true ∧ isTx a.2.data.toList = true) → Dif atr → (∀ k ∈ ks, Rt (d + 1) k) → Rt d (.mk sp nm atr tx ks)
theorem ats_an {d : Nat} {e : El} (h : Rt d e) (s : ByteArray) : ∀ a ∈ ats e s, An a.1.data.toList ∧ isTx a.2.data.toList = true := by
  cases h with
  | mk _ sp nm atr tx ks h1 h2 h3 h4 h5 h6 h7 h8 h9 h10 =>
    intro a ha
    rcases List.mem_append.1 ha with hm | hm
    · split at hm
      · cases hm
      · rw [List.mem_singleton.1 hm]
        exact ⟨by rw [Sn.mk_list]; exact An.xmlns, h5⟩
    · exact ⟨An.attr (h8 a hm).1, (h8 a hm).2⟩
/-- The namespace of names without a prefix. -/
def Dn (os : List Sn.Op) (s : ByteArray) : Prop := (os.reverse.findSome? fun o => find o.decl []) = some s
theorem dn_push {os : List Sn.Op} {s : ByteArray} {e : El} {o : Sn.Op} (h : Dn os s) (ho : o.decl = dcl e s) : Dn (os ++ [o]) e.sp := by
  unfold Dn at h ⊢
  rw [List.reverse_append, List.reverse_singleton, List.singleton_append, List.findSome?_cons, ho]
  unfold dcl
  by_cases hs : e.sp = s
  · rw [if_pos hs]
    show (match (none : Option ByteArray) with | some b => some b | none => _) = _
    rw [hs]; exact h
  · rw [if_neg hs]; rfl
theorem dn_last {ini : List Sn.Op} {o o' : Sn.Op} {s : ByteArray} (h : Dn (ini ++ [o]) s) (ho : o'.decl = o.decl) : Dn (ini ++ [o']) s := by
  unfold Dn at h ⊢
  rw [List.reverse_append, List.reverse_singleton, List.singleton_append, List.findSome?_cons] at h ⊢
  rw [ho]; exact h
theorem read_put {d : Nat} {e : El} (h : Rt d e) {os : List Sn.Op} {s : ByteArray} (hd : Dn os s) (em : Bool) :
    Sn.read os ⟨Sn.mk e.nm.data.toList, (ats e s).map rawA, em⟩ = (0, ⟨dcl e s, e.nm, .mk e.sp e.nm e.atr ⟨#[]⟩ []⟩) := by
  cases h with
  | mk _ sp nm atr tx ks h1 h2 h3 h4 h5 h6 h7 h8 h9 h10 =>
    have hA : ∀ a ∈ atr, attrNameB a.1.data.toList = true := fun a ha => (h8 a ha).1
    have hx : dpre (Sn.mk xmlns).data.toList = some [] := by rw [Sn.mk_list]; decide
    have hdf : Dif (ats (.mk sp nm atr tx ks) s) := by
      unfold ats
      split
      · exact h9
      · refine List.pairwise_cons.2 ⟨fun b hb e => ?_, h9⟩
        have hb1 := (dpre_attr (hA b hb)).1
        rw [e, hx] at hb1
        cases hb1
    have hot : ¬ 16 < others (ats (.mk sp nm atr tx ks) s) := by
      have ha : others atr ≤ atr.length := List.length_filter_le _ _
      have hat : others (ats (.mk sp nm atr tx ks) s) = others atr := by
        unfold ats
        split
        · rfl
        · unfold others
          simp only [List.singleton_append, List.filter_cons, hx]
          rfl
      omega
    have hdc : decls (ats (.mk sp nm atr tx ks) s) = some (dcl (.mk sp nm atr tx ks) s) := by
      unfold ats dcl
      split
      · exact decls_attr hA
      · rw [List.singleton_append, decls_good hx (by
          rintro (e | e | e | e)
          · exact h3 e
          · exact absurd h4 (by show ¬ sp.size ≤ 256; have e : 256 < sp.size := e; omega)
          · cases e
          · cases e), show decls (El.atr (.mk sp nm atr tx ks)) = some [] from decls_attr hA]
        rfl
    have hsp : spaceOf (dcl (.mk sp nm atr tx ks) s) os [] = some sp := by
      unfold spaceOf dcl
      by_cases hs : El.sp (.mk sp nm atr tx ks) = s
      · rw [if_pos hs]
        show (match (none : Option ByteArray) with | some b => some b | none => _) = _
        have hs : sp = s := hs
        rw [hs]; exact hd
      · rw [if_neg hs]; rfl
    have hch : Sn.choose (dcl (.mk sp nm atr tx ks) s) os (ats (.mk sp nm atr tx ks) s) = some atr := by
      unfold ats
      split
      · exact choose_attr hA
      · rw [List.singleton_append, choose_decl (by rw [hx]; rfl)]
        exact choose_attr hA
    have hpr : pre nm.data.toList = [] := by unfold pre; rw [name_cut h2]
    have hlo : loc nm.data.toList = nm.data.toList := by unfold loc; rw [name_cut h2]
    rw [rd_go (twins_raw hdf) (by show ¬ 16 < others ((ats (.mk sp nm atr tx ks) s).map rawA); rw [others_raw]; exact hot) (by show (vals ((ats (.mk sp nm atr tx ks) s).map rawA)).1 = 0; rw [vals_raw])]
    simp only [vals_raw, hdc, Sn.mk_list]
    have hpr : pre (El.nm (.mk sp nm atr tx ks)).data.toList = [] := hpr
    have hlo : loc (El.nm (.mk sp nm atr tx ks)).data.toList = (El.nm (.mk sp nm atr tx ks)).data.toList := hlo
    rw [hpr, hsp]
    simp only [hch, hlo, Sn.mk_of]
    rfl
end Go.Proofs.YtolnpfcncmcacaaGreatDoor

/- What was printed is read as it was: the theorem over elements. No condition; nothing of the program stands here. -/
namespace Go.Proofs.YtolnpfcncmcacaaGreatDoor
open Go.RowKit Go.Lib Go.Shelf Tg Sn

def din (os : List Sn.Op) (e : El) : List Sn.Op := if os.length = 1 then os else onLast (El.addKid · e) os
def dev (os : List Sn.Op) (e : El) : List Ev := if os.length = 1 then [⟨2, e, 0⟩] else []
def sz (os : List Sn.Op) (n : Nat) : Nat := if 1 < os.length then n else 0
theorem shut_S {os : List Sn.Op} {o : Sn.Op} (hne : os ≠ []) (k : Nat) : Sn.shut (S (os ++ [o]) k) = (S (din os o.elem) k, if os.length = 1 then ⟨2, o.elem, 0⟩ else Ev0) := by
  have e1 : (S (os ++ [o]) k).os.dropLast = os := by show (os ++ [o]).dropLast = os; simp
  have e2 : (S (os ++ [o]) k).os.getLast? = some o := by show (os ++ [o]).getLast? = _; simp
  have h0 : ¬ os.length = 0 := fun e => hne (List.length_eq_zero_iff.1 e)
  unfold Sn.shut
  simp only [e1, e2, Option.getD_some]
  rw [if_neg h0]
  by_cases h1 : os.length = 1
  · rw [if_pos h1, if_pos h1]; simp only [din, if_pos h1]; rfl
  · rw [if_neg h1, if_neg h1]; simp only [din, if_neg h1]; rfl
theorem took_S (os : List Sn.Op) (n : Nat) (t : B8) : took (S os n) t = S os (sz os n + t.length) := rfl
theorem tok1_of {os os' : List Sn.Op} {n n' : Nat} {t : B8} {ev : Ev} (h : Sn.take (S os n) t = (S os' n', ev, 0)) : tok1 (S os n) t = (S os' n', if ev.kind = 0 then [] else [ev]) := by
  unfold tok1
  simp only [h, if_true]
theorem marks_text : ∀ {l : List At}, (∀ a ∈ l, An a.1.data.toList ∧ isTx a.2.data.toList = true) → isTx (Tg.marks l) = true
  | [], _ => asc_text rfl
  | a :: r, h => by
    obtain ⟨h1, h2⟩ := h a (List.mem_cons_self ..)
    rw [marks_cons]
    refine tx_append ?_ (marks_text fun b hb => h b (List.mem_cons_of_mem _ hb))
    unfold Tg.mark
    exact tx_append (tx_append (tx_append (tx_append (asc_text (by decide)) h1.tx) (asc_text (by decide))) (q_text h2)) (asc_text (by decide))
/-- A beginning's tag. -/
def tagB (e : El) (s : ByteArray) (em : Bool) : B8 := (e.nm.data.toList ++ Tg.marks (ats e s) ++ (if em then [47] else []))
/-- An element that has just begun. -/
def opB (e : El) (s : ByteArray) : Sn.Op := ⟨dcl e s, e.nm, .mk e.sp e.nm e.atr ⟨#[]⟩ []⟩
theorem rt_name {d : Nat} {e : El} (h : Rt d e) : nameB e.nm.data.toList = true ∧ isTx e.tx.data.toList = true ∧ d ≤ 16 := by
  cases h with
  | mk _ sp nm atr tx ks h1 h2 h3 h4 h5 h6 h7 h8 h9 h10 => exact ⟨h2, h6, h1⟩
theorem runs_tag {d : Nat} {e : El} (h : Rt d e) (s : ByteArray) (em : Bool) : runs 0 (tagB e s em) = some 0 := by
  unfold tagB
  have hn : runs 0 e.nm.data.toList = some 0 := runs_plain fun c hc => ⟨((An.name (rt_name h).1).no c hc).2.1, ((An.name (rt_name h).1).no c hc).2.2.1, ((An.name (rt_name h).1).no c hc).2.2.2.1⟩
  rw [List.append_assoc, runs_append hn, runs_append (runs_marks fun a ha => (ats_an h s a ha).1)]
  cases em <;> decide
theorem tag_text {d : Nat} {e : El} (h : Rt d e) (s : ByteArray) (em : Bool) : isTx (60 :: (tagB e s em ++ [62])) = true := by
  have h1 : isTx (tagB e s em) = true := by
    unfold tagB
    refine tx_append (tx_append (name_asc (rt_name h).1) (marks_text (ats_an h s))) ?_
    cases em <;> exact asc_text (by decide)
  exact tx_append (a := [60]) (asc_text (by decide)) (tx_append h1 (asc_text (by decide)))
theorem tag_first {d : Nat} {e : El} (h : Rt d e) (s : ByteArray) (em : Bool) : bgn (Sg.nb (60 :: (tagB e s em ++ [62])) 1) = true := by
  obtain ⟨h1, _, h3⟩ := name_ne (rt_name h).1
  unfold tagB
  cases hn : e.nm.data.toList with
  | nil => exact absurd hn h1
  | cons c r =>
    rw [hn] at h3
    exact h3
theorem take_beg_in {d n : Nat} {e : El} {os : List Sn.Op} {s : ByteArray} (h : Rt d e) (_hd : Dn os s) (_h0 : os ≠ []) (_h16 : os.length ≤ 16) (em : Bool) (hl : sz os n + (tagB e s em).length + 2 ≤ 16384) :
    Sn.take (S os n) (60 :: (tagB e s em ++ [62])) = tagBegin (S os (sz os n + ((tagB e s em).length + 2))) (60 :: (tagB e s em ++ [62])) := by
  have hlen : (60 :: (tagB e s em ++ [62])).length = (tagB e s em).length + 2 := by simp
  have hb := tag_first h s em
  have hbn : Sg.nb (60 :: (tagB e s em ++ [62])) 1 ≠ 63 ∧ Sg.nb (60 :: (tagB e s em ++ [62])) 1 ≠ 33 ∧ Sg.nb (60 :: (tagB e s em ++ [62])) 1 ≠ 47 := by
    simp only [bgn, Bool.or_eq_true, Bool.and_eq_true, decide_eq_true_eq, beq_iff_eq] at hb
    omega
  rw [tk_beg (by rw [took_S]; show ¬ 16384 < sz os n + _; rw [hlen]; omega) (tag_text h s em) rfl hbn.1 hbn.2.1 hbn.2.2, took_S, hlen]
theorem readBg_tag {d : Nat} {e : El} (h : Rt d e) (s : ByteArray) (em : Bool) : readBg (60 :: (tagB e s em ++ [62])) = some ⟨Sn.mk e.nm.data.toList, (ats e s).map rawA, em⟩ :=
  readBg_put (rt_name h).1 (fun a ha => (ats_an h s a ha).1) em
theorem take_open {d n : Nat} {e : El} {os : List Sn.Op} {s : ByteArray} (h : Rt d e) (hd : Dn os s) (h0 : os ≠ []) (h16 : os.length ≤ 16) (hl : sz os n + (tagB e s false).length + 2 ≤ 16384) :
    Sn.take (S os n) (60 :: (tagB e s false ++ [62])) = (S (os ++ [opB e s]) (sz os n + ((tagB e s false).length + 2)), Ev0, 0) := by
  rw [take_beg_in h hd h0 h16 false hl]
  exact tb_in (readBg_tag h s false) (read_put h (os := os) hd false) (fun e => h0 (List.length_eq_zero_iff.1 e)) (by show ¬ 16 < os.length; omega) rfl
theorem take_empty {d n : Nat} {e : El} {os : List Sn.Op} {s : ByteArray} (h : Rt d e) (hd : Dn os s) (h0 : os ≠ []) (h16 : os.length ≤ 16) (hl : sz os n + (tagB e s true).length + 2 ≤ 16384) :
    Sn.take (S os n) (60 :: (tagB e s true ++ [62])) = (S (din os (opB e s).elem) (sz os n + ((tagB e s true).length + 2)), if os.length = 1 then ⟨2, (opB e s).elem, 0⟩ else Ev0, 0) := by
  rw [take_beg_in h hd h0 h16 true hl, tb_in0 (readBg_tag h s true) (read_put h (os := os) hd true) (fun e => h0 (List.length_eq_zero_iff.1 e)) (by show ¬ 16 < os.length; omega) rfl]
  have hs := shut_S (o := opB e s) h0 (sz os n + ((tagB e s true).length + 2))
  have hs2 : ((Sn.shut (S (os ++ [opB e s]) (sz os n + ((tagB e s true).length + 2)))).1, (Sn.shut (S (os ++ [opB e s]) (sz os n + ((tagB e s true).length + 2)))).2, 0) = (S (din os (opB e s).elem) (sz os n + ((tagB e s true).length + 2)), if os.length = 1 then ⟨2, (opB e s).elem, 0⟩ else Ev0, 0) := by rw [hs]
  exact hs2
/-- The text behind a beginning. -/
theorem take_text {n : Nat} {ini : List Sn.Op} {o : Sn.Op} {l : B8} (hi : ini ≠ []) (ht : isTx l = true) (hne : q l ≠ []) (hl : n + (q l).length ≤ 16384) :
    Sn.take ({ S (ini ++ [o]) n with token := [60] }) (q l) = ({ S (ini ++ [⟨o.decl, o.name, El.addTx o.elem l⟩]) (n + (q l).length) with token := [60] }, Ev0, 0) := by
  have h1 : 1 < (ini ++ [o]).length := by
    have := List.length_pos_iff.2 hi
    simp; omega
  have htk : took ({ S (ini ++ [o]) n with token := [60] }) (q l) = { S (ini ++ [o]) (n + (q l).length) with token := [60] } := by
    unfold took
    have e : (if 1 < (ini ++ [o]).length then n else 0) = n := if_pos h1
    show ({ token := [60], quote := 0, begun := true, os := ini ++ [o], size := (if 1 < (ini ++ [o]).length then n else 0) + (q l).length, over := false, err := 0 } : St) = _
    rw [e]; rfl
  have h60 : Sg.nb (q l) 0 ≠ 60 := by
    cases hq : q l with
    | nil => exact absurd hq hne
    | cons a r =>
      have : a ∈ q l := by rw [hq]; exact List.mem_cons_self ..
      intro e
      have e : a.toNat = (60 : UInt8).toNat := e
      exact (q_no this).1 (UInt8.toNat_inj.1 e)
  rw [tk_chr (by rw [htk]; show ¬ 16384 < n + _; omega) (q_text ht) h60, htk, chars_in (by show ¬ (ini ++ [o]).length ≤ 1; omega), qt_back]
  show (({ token := [60], quote := 0, begun := true, os := onLast (El.addTx · l) (ini ++ [o]), size := n + (q l).length, over := false, err := 0 } : St), Ev0, 0) = _
  rw [onLast_snoc]; rfl
theorem take_fin {n : Nat} {ini : List Sn.Op} {o : Sn.Op} (hi : ini ≠ []) (hn : nameB o.name.data.toList = true) (hl : n + o.name.data.toList.length + 3 ≤ 16384) :
    Sn.take (S (ini ++ [o]) n) (60 :: ((47 :: o.name.data.toList) ++ [62])) = (S (din ini o.elem) (n + (o.name.data.toList.length + 3)), if ini.length = 1 then ⟨2, o.elem, 0⟩ else Ev0, 0) := by
  have h1 : 1 < (ini ++ [o]).length := by
    have := List.length_pos_iff.2 hi
    simp; omega
  have hsz : sz (ini ++ [o]) n = n := if_pos h1
  have hlen : (60 :: ((47 :: o.name.data.toList) ++ [62])).length = o.name.data.toList.length + 3 := by simp
  have htx : isTx (60 :: ((47 :: o.name.data.toList) ++ [62])) = true := tx_append (a := [60, 47]) (asc_text (by decide)) (tx_append (name_asc hn) (asc_text (by decide)))
  have hen : endName (60 :: ((47 :: o.name.data.toList) ++ [62])) = o.name.data.toList := by
    unfold endName
    have e1 : ((60 :: ((47 :: o.name.data.toList) ++ [62])).drop 2).dropLast = o.name.data.toList := by simp
    rw [e1]
    cases hr : o.name.data.toList.reverse with
    | nil => exact absurd (List.reverse_eq_nil_iff.1 hr) (name_ne hn).1
    | cons c r =>
      have hc : c ∈ o.name.data.toList := by
        have : c ∈ o.name.data.toList.reverse := by rw [hr]; exact List.mem_cons_self ..
        exact List.mem_reverse.1 this
      rw [List.dropWhile_cons_of_neg (by rw [bk_no (name_byte (name_all hn c hc)).1]; exact Bool.false_ne_true), ← hr, List.reverse_reverse]
  rw [tk_end (by rw [took_S, hsz]; show ¬ 16384 < n + _; rw [hlen]; omega) htx rfl rfl, took_S, hsz, hlen, te_yes (s := S (ini ++ [o]) (n + (o.name.data.toList.length + 3))) (ini := ini) (o := o) (by rw [hen]; exact (An.name hn).full) rfl hen.symm, shut_S hi]
def addKs (e : El) (ks : List El) : El := .mk e.sp e.nm e.atr e.tx (e.ks ++ ks)
theorem addKs_nil (e : El) : addKs e [] = e := by unfold addKs; rw [List.append_nil]; exact (El.eta e).symm
theorem addKs_cons (e k : El) (r : List El) : addKs (El.addKid e k) r = addKs e (k :: r) := by
  unfold addKs
  show El.mk e.sp e.nm e.atr e.tx ((e.ks ++ [k]) ++ r) = _
  rw [List.append_assoc]; rfl
def Pf (e : El) : Prop := ∀ (d : Nat) (os : List Sn.Op) (n : Nat) (s : ByteArray), Rt d e → os.length = d → os ≠ [] → Dn os s → sz os n + (put e s).length ≤ 16384 → Sn.feed (S os n) (put e s) = (S (din os e) (sz os n + (put e s).length), dev os e)
theorem kids_fed : ∀ (ks : List El) (d : Nat) (ini : List Sn.Op) (o : Sn.Op) (n : Nat) (s : ByteArray), (∀ k ∈ ks, Rt d k ∧ Pf k) → (ini ++ [o]).length = d → ini ≠ [] → Dn (ini ++ [o]) s → n + (puts ks s).length ≤ 16384 →
    Sn.feed (S (ini ++ [o]) n) (puts ks s) = (S (ini ++ [⟨o.decl, o.name, addKs o.elem ks⟩]) (n + (puts ks s).length), [])
  | [], d, ini, o, n, s, _, _, _, _, _ => by
    rw [puts_nil, addKs_nil]; rfl
  | k :: r, d, ini, o, n, s, hk, hlen, hi, hd, hl => by
    obtain ⟨hR, hP⟩ := hk k (List.mem_cons_self ..)
    have h1 : 1 < (ini ++ [o]).length := by
      have := List.length_pos_iff.2 hi
      simp; omega
    have hsz : sz (ini ++ [o]) n = n := if_pos h1
    have hdin : din (ini ++ [o]) k = ini ++ [⟨o.decl, o.name, El.addKid o.elem k⟩] := by
      unfold din
      rw [if_neg (by omega), onLast_snoc]
    have hdev : dev (ini ++ [o]) k = [] := by unfold dev; rw [if_neg (by omega)]
    rw [puts_cons, List.length_append] at hl ⊢
    have e1 := hP d (ini ++ [o]) n s hR hlen (by simp) hd (by rw [hsz]; omega)
    rw [hsz, hdin, hdev] at e1
    have e2 := kids_fed r d ini ⟨o.decl, o.name, El.addKid o.elem k⟩ (n + (put k s).length) s (fun k' hk' => hk k' (List.mem_cons_of_mem _ hk')) (by rw [List.length_append] at hlen ⊢; exact hlen) hi (dn_last hd rfl) (by omega)
    rw [Sn.feed_append, e1, e2]
    simp only [addKs_cons, List.nil_append, Nat.add_assoc]
theorem puts_first : ∀ (ks : List El) (s : ByteArray) (n : B8), ∃ r, puts ks s ++ (60 :: n) = 60 :: r
  | [], s, n => ⟨n, by rw [puts_nil]; rfl⟩
  | k :: ks, s, n => by
    rw [puts_cons, put_eq, beg_ats]
    exact ⟨_, rfl⟩
theorem put_fed (e : El) : Pf e := by
  refine El.ind (P := Pf) (fun sp nm atr tx ks ih => ?_) e
  intro d os n s hR hlen hne hd hl
  have hdd := (rt_name hR).2.2
  cases hem : emp tx ks with
  | true =>
    have hb : beg (.mk sp nm atr tx ks) s = 60 :: (tagB (.mk sp nm atr tx ks) s true ++ [62]) := by
      rw [beg_ats]
      have : emp (El.tx (.mk sp nm atr tx ks)) (El.ks (.mk sp nm atr tx ks)) = true := hem
      rw [this]; simp [tagB]
    unfold emp at hem
    simp only [Bool.and_eq_true, List.isEmpty_iff] at hem
    have hks : ks = [] := hem.2
    have htx : tx = ⟨#[]⟩ := By.bytes_ext (by rw [hem.1])
    subst hks; subst htx
    have hp : put (.mk sp nm atr ⟨#[]⟩ []) s = 60 :: (tagB (.mk sp nm atr ⟨#[]⟩ []) s true ++ [62]) := by
      rw [put_eq, hb]
      show _ ++ puts [] _ ++ fin _ = _
      rw [puts_nil, List.append_nil]
      show _ ++ ([] : B8) = _
      rw [List.append_nil]
    have hpl : (put (.mk sp nm atr ⟨#[]⟩ []) s).length = (tagB (.mk sp nm atr ⟨#[]⟩ []) s true).length + 2 := by rw [hp]; simp
    rw [hpl] at hl
    rw [hpl, hp, feed_tag (runs_tag hR s true) (by omega), tok1_of (take_empty hR hd hne (by omega) (by omega))]
    show (S (din os (.mk sp nm atr ⟨#[]⟩ [])) _, _) = (_, _)
    congr 1
    unfold dev
    by_cases h1 : os.length = 1
    · simp only [if_pos h1]; rfl
    · simp only [if_neg h1]; rfl
  | false =>
    have hb : beg (.mk sp nm atr tx ks) s = (60 :: (tagB (.mk sp nm atr tx ks) s false ++ [62])) ++ q tx.data.toList := by
      rw [beg_ats]
      have : emp (El.tx (.mk sp nm atr tx ks)) (El.ks (.mk sp nm atr tx ks)) = false := hem
      rw [this]; simp [tagB, El.tx]
    have hf : fin (.mk sp nm atr tx ks) = 60 :: ((47 :: nm.data.toList) ++ [62]) := by
      unfold fin
      have : emp (El.tx (.mk sp nm atr tx ks)) (El.ks (.mk sp nm atr tx ks)) = false := hem
      rw [this]; rfl
    have hp : put (.mk sp nm atr tx ks) s = (60 :: (tagB (.mk sp nm atr tx ks) s false ++ [62])) ++ (q tx.data.toList ++ (puts ks sp ++ (60 :: ((47 :: nm.data.toList) ++ [62])))) := by
      rw [put_eq, hb, hf]
      show (_ ++ _) ++ puts ks sp ++ _ = _
      simp only [List.append_assoc]
    have hpl : (put (.mk sp nm atr tx ks) s).length = ((tagB (.mk sp nm atr tx ks) s false).length + 2) + ((q tx.data.toList).length + ((puts ks sp).length + (nm.data.toList.length + 3))) := by
      rw [hp]
      simp only [List.length_append, List.length_cons, List.length_nil]
    rw [hpl] at hl
    obtain ⟨hnm, htxt, _⟩ := rt_name hR
    have hkids : ∀ k ∈ ks, Rt (d + 1) k ∧ Pf k := fun k hk => by
      cases hR with
      | mk _ sp nm atr tx ks h1 h2 h3 h4 h5 h6 h7 h8 h9 h10 => exact ⟨h10 k hk, ih k hk⟩
    have hd2 : Dn (os ++ [opB (.mk sp nm atr tx ks) s]) (El.sp (.mk sp nm atr tx ks)) := dn_push (o := opB (.mk sp nm atr tx ks) s) hd rfl
    have hd2 : Dn (os ++ [opB (.mk sp nm atr tx ks) s]) sp := hd2
    obtain ⟨r, hr⟩ := puts_first ks sp ((47 :: nm.data.toList) ++ [62])
    have e1 : Sn.feed (S os n) (60 :: (tagB (.mk sp nm atr tx ks) s false ++ [62])) = (S (os ++ [opB (.mk sp nm atr tx ks) s]) (sz os n + ((tagB (.mk sp nm atr tx ks) s false).length + 2)), []) := by
      rw [feed_tag (runs_tag hR s false) (by omega), tok1_of (take_open hR hd hne (by omega) (by omega))]
      rfl
    have e2 : Sn.feed (S (os ++ [opB (.mk sp nm atr tx ks) s]) (sz os n + ((tagB (.mk sp nm atr tx ks) s false).length + 2))) (q tx.data.toList ++ 60 :: r) =
        Sn.feed (S (os ++ [⟨dcl (.mk sp nm atr tx ks) s, nm, .mk sp nm atr tx []⟩]) (sz os n + ((tagB (.mk sp nm atr tx ks) s false).length + 2) + (q tx.data.toList).length)) (60 :: r) := by
      refine feed_chars (fun c hc => (q_no hc).1) (by omega) (fun h0 => ?_) (fun h0 => ?_)
      · have ht0 : tx.data.toList = [] := by
          have := (q_len tx.data.toList).1
          rw [h0] at this
          exact List.length_eq_zero_iff.1 (by simpa using this)
        have : tx = ⟨#[]⟩ := By.bytes_ext (by rw [ht0])
        subst this
        exact ⟨rfl, by rw [h0]; rfl⟩
      · have := take_text (n := sz os n + ((tagB (.mk sp nm atr tx ks) s false).length + 2)) (ini := os) (o := opB (.mk sp nm atr tx ks) s) (l := tx.data.toList) hne htxt h0 (by omega)
        rw [this]
        have ht : El.addTx (opB (.mk sp nm atr tx ks) s).elem tx.data.toList = .mk sp nm atr tx [] := by
          show El.mk sp nm atr (Sn.mk ([] ++ tx.data.toList)) [] = _
          rw [List.nil_append, Sn.mk_of]
        rw [ht]; rfl
    have e3 := kids_fed ks (d + 1) os ⟨dcl (.mk sp nm atr tx ks) s, nm, .mk sp nm atr tx []⟩ (sz os n + ((tagB (.mk sp nm atr tx ks) s false).length + 2) + (q tx.data.toList).length) sp hkids (by simp [hlen]) hne (dn_last hd2 rfl) (by omega)
    have e4 : Sn.feed (S (os ++ [⟨dcl (.mk sp nm atr tx ks) s, nm, .mk sp nm atr tx ks⟩]) (sz os n + ((tagB (.mk sp nm atr tx ks) s false).length + 2) + (q tx.data.toList).length + (puts ks sp).length)) (60 :: ((47 :: nm.data.toList) ++ [62])) =
        (S (din os (.mk sp nm atr tx ks)) (sz os n + ((tagB (.mk sp nm atr tx ks) s false).length + 2) + (q tx.data.toList).length + (puts ks sp).length + (nm.data.toList.length + 3)), dev os (.mk sp nm atr tx ks)) := by
      have hru : runs 0 (47 :: nm.data.toList) = some 0 := runs_plain fun c hc => by
        rcases List.mem_cons.1 hc with h1 | h1
        · rw [h1]; decide
        · exact ⟨((An.name hnm).no c h1).2.1, ((An.name hnm).no c h1).2.2.1, ((An.name hnm).no c h1).2.2.2.1⟩
      have hnl : (47 :: nm.data.toList).length ≤ 16383 := by
        have := (name_ne hnm).2.1
        have h2 : nm.data.toList.length ≤ 64 := this
        simp only [List.length_cons]; omega
      rw [feed_tag hru hnl, tok1_of (take_fin (o := ⟨dcl (.mk sp nm atr tx ks) s, nm, .mk sp nm atr tx ks⟩) hne hnm (by show _ + nm.data.toList.length + 3 ≤ _; omega))]
      congr 1
      unfold dev
      by_cases h1 : os.length = 1
      · simp only [if_pos h1]; rfl
      · simp only [if_neg h1]; rfl
    have ha : addKs (.mk sp nm atr tx []) ks = .mk sp nm atr tx ks := by
      unfold addKs; rfl
    rw [hpl, hp, Sn.feed_append, e1, hr]
    simp only [e2]
    rw [← hr, Sn.feed_append, e3]
    simp only [ha, e4]
    simp only [List.nil_append, Nat.add_assoc]
end Go.Proofs.YtolnpfcncmcacaaGreatDoor

/- A stream's beginning reckoned; an element with a prefix that it declares itself is read as the one without; blanks between stanzas. No condition; nothing of the program stands here. -/
namespace Go.Proofs.YtolnpfcncmcacaaGreatDoor
open Go.RowKit Go.Lib Go.Shelf Tg Sn

def pnm (n : B8) : B8 := 112 :: 58 :: n
def xpn : B8 := [120, 109, 108, 110, 115, 58, 112]
def opS : Sn.Op := ⟨[(Sn.mk [], Sn.mk [122])], Sn.mk [115], El0⟩
def eS : El := .mk (Sn.mk [122]) (Sn.mk [115]) [] (Sn.mk []) []
def hdT : B8 := [60, 115, 32, 120, 109, 108, 110, 115, 61, 39, 122, 39, 62]
theorem head_fed : Sn.feed St0 hdT = (S [opS] 13, [⟨1, eS, 0⟩]) := feedC_ok (by kernel_rfl)
theorem head_dn : Dn [opS] (Sn.mk [122]) := rfl
theorem head_put {e : El} (h : Rt 1 e) (hl : (put e (Sn.mk [122])).length ≤ 16384) : Sn.feed (S [opS] 13) (put e (Sn.mk [122])) = (S [opS] (put e (Sn.mk [122])).length, [⟨2, e, 0⟩]) := by
  have := put_fed e 1 [opS] 13 (Sn.mk [122]) h rfl (by simp) head_dn (by show 0 + _ ≤ _; omega)
  rw [this]
  show (S [opS] (0 + _), _) = _
  rw [Nat.zero_add]; rfl
theorem An.pnm {n : B8} (h : nameB n = true) : An (pnm n) := by
  have hn := An.name h
  refine ⟨by simp [Go.Proofs.YtolnpfcncmcacaaGreatDoor.pnm], ?_, tx_append (a := [112, 58]) (asc_text (by decide)) hn.tx, fun d hd => ?_⟩
  · have : cut1 58 (Go.Proofs.YtolnpfcncmcacaaGreatDoor.pnm n) = some ([112], n) := cut1_at (x := [112]) n (by decide)
    unfold Sn.full
    rw [this]
    simp only [h, Bool.and_true]
    decide
  · rcases List.mem_cons.1 hd with h1 | h1
    · rw [h1]; decide
    · rcases List.mem_cons.1 h1 with h2 | h2
      · rw [h2]; decide
      · exact hn.no d h2
theorem An.xpn : An xpn := ⟨by decide, by decide, asc_text (by decide), by decide⟩
theorem readBg_p {n : B8} (h : An n) {a : At} (ha : An a.1.data.toList) : readBg (60 :: ((n ++ Tg.marks [a]) ++ [62])) = some ⟨Sn.mk n, [rawA a], false⟩ := by
  have hE : isEmp (60 :: ((n ++ Tg.marks [a]) ++ [62])) = false := by
    unfold isEmp
    rw [inner_tag]
    rcases marks_last [a] with e | ⟨i, e⟩
    · exact absurd e (by simp [Tg.marks, Tg.mark])
    · rw [e, ← List.append_assoc, List.getLast?_concat]; decide
  have hI : inner2 (60 :: ((n ++ Tg.marks [a]) ++ [62])) = n ++ Tg.marks [a] := by
    unfold inner2
    rw [hE, inner_tag]; rfl
  have hb : ∀ d ∈ n, (!bk d) = true := fun d hd => by rw [(h.no d hd).2.2.2.2]; rfl
  have hT : (n ++ Tg.marks [a]).takeWhile (fun c => !bk c) = n := by
    rw [List.takeWhile_append_of_pos hb, (marks_head [a]).1, List.append_nil]
  have hD : (n ++ Tg.marks [a]).dropWhile (fun c => !bk c) = Tg.marks [a] := by
    rw [List.dropWhile_append_of_pos hb, (marks_head [a]).2]
  unfold readBg
  rw [hI, hT, hD, if_pos h.full, raws_marks (fun b hb => by rw [List.mem_singleton.1 hb]; exact ha), hE]
  rfl
def atP (sp : ByteArray) : At := (Sn.mk xpn, sp)
def opP (sp nm tx : ByteArray) : Sn.Op := ⟨[(Sn.mk [112], sp)], Sn.mk (pnm nm.data.toList), .mk sp nm [] tx []⟩
theorem read_p {sp nm : ByteArray} (hs : sp.size ≠ 0) (hs2 : sp.size ≤ 256) (os : List Sn.Op) : Sn.read os ⟨Sn.mk (pnm nm.data.toList), [rawA (atP sp)], false⟩ = (0, opP sp nm (Sn.mk [])) := by
  have hx : dpre (atP sp).1.data.toList = some [112] := by
    show dpre (Sn.mk xpn).data.toList = _
    rw [Sn.mk_list]; decide
  have hv : vals [rawA (atP sp)] = (0, [atP sp]) := vals_raw [atP sp]
  have hc : cut1 58 (pnm nm.data.toList) = some ([112], nm.data.toList) := cut1_at (x := [112]) nm.data.toList (by decide)
  have hpr : pre (pnm nm.data.toList) = [112] := by unfold pre; rw [hc]
  have hlo : loc (pnm nm.data.toList) = nm.data.toList := by unfold loc; rw [hc]
  have hdc : decls [atP sp] = some [(Sn.mk [112], sp)] := by
    rw [decls_good hx (by
      rintro (e | e | e | e)
      · exact hs e
      · have e : 256 < sp.size := e
        omega
      · exact absurd e (by decide)
      · exact absurd e (by decide))]
    rfl
  have hsp : spaceOf [(Sn.mk [112], sp)] os [112] = some sp := by
    unfold spaceOf
    have : find [(Sn.mk [112], sp)] [112] = some sp := by
      unfold find
      rw [List.find?_cons_of_pos (by simp [Sn.mk_list])]; rfl
    rw [this]
  have hch : Sn.choose [(Sn.mk [112], sp)] os [atP sp] = some [] := by
    rw [choose_decl (by rw [hx]; rfl)]; rfl
  have hot : others [rawA (atP sp)] ≤ 1 := List.length_filter_le _ _
  rw [rd_go (by simp [twins]) (by show ¬ 16 < others [rawA (atP sp)]; omega) (by show (vals [rawA (atP sp)]).1 = 0; rw [hv])]
  simp only [hv, hdc, Sn.mk_list, hpr, hsp, hch, hlo, Sn.mk_of]
  rfl
theorem take_fin2 {n : Nat} {ini : List Sn.Op} {o : Sn.Op} (hi : ini ≠ []) (hn : An o.name.data.toList) (hl : n + o.name.data.toList.length + 3 ≤ 16384) :
    Sn.take (S (ini ++ [o]) n) (60 :: ((47 :: o.name.data.toList) ++ [62])) = (S (din ini o.elem) (n + (o.name.data.toList.length + 3)), if ini.length = 1 then ⟨2, o.elem, 0⟩ else Ev0, 0) := by
  have h1 : 1 < (ini ++ [o]).length := by
    have := List.length_pos_iff.2 hi
    simp; omega
  have hsz : sz (ini ++ [o]) n = n := if_pos h1
  have hlen : (60 :: ((47 :: o.name.data.toList) ++ [62])).length = o.name.data.toList.length + 3 := by simp
  have htx : isTx (60 :: ((47 :: o.name.data.toList) ++ [62])) = true := tx_append (a := [60, 47]) (asc_text (by decide)) (tx_append hn.tx (asc_text (by decide)))
  have hen : endName (60 :: ((47 :: o.name.data.toList) ++ [62])) = o.name.data.toList := by
    unfold endName
    have e1 : ((60 :: ((47 :: o.name.data.toList) ++ [62])).drop 2).dropLast = o.name.data.toList := by simp
    rw [e1]
    cases hr : o.name.data.toList.reverse with
    | nil => exact absurd (List.reverse_eq_nil_iff.1 hr) hn.ne
    | cons c r =>
      have hc : c ∈ o.name.data.toList := by
        have : c ∈ o.name.data.toList.reverse := by rw [hr]; exact List.mem_cons_self ..
        exact List.mem_reverse.1 this
      rw [List.dropWhile_cons_of_neg (by rw [(hn.no c hc).2.2.2.2]; exact Bool.false_ne_true), ← hr, List.reverse_reverse]
  rw [tk_end (by rw [took_S, hsz]; show ¬ 16384 < n + _; rw [hlen]; omega) htx rfl rfl, took_S, hsz, hlen, te_yes (s := S (ini ++ [o]) (n + (o.name.data.toList.length + 3))) (ini := ini) (o := o) (by rw [hen]; exact hn.full) rfl hen.symm, shut_S hi]
def tagP (sp nm : ByteArray) : B8 := pnm nm.data.toList ++ Tg.marks [atP sp]
def pfx (sp nm tx : ByteArray) : B8 := (60 :: (tagP sp nm ++ [62])) ++ (q tx.data.toList ++ (60 :: ((47 :: pnm nm.data.toList) ++ [62])))
theorem pfx_fed {sp nm tx : ByteArray} (h : Rt 1 (.mk sp nm [] tx [])) (hl : sp.size + nm.size + tx.size ≤ 2000) : (Sn.feed (S [opS] 13) (pfx sp nm tx)).2 = [⟨2, .mk sp nm [] tx [], 0⟩] := by
  have hsp : sp.size ≠ 0 ∧ sp.size ≤ 256 ∧ isTx sp.data.toList = true := by
    cases h with
    | mk _ sp nm atr tx ks h1 h2 h3 h4 h5 h6 h7 h8 h9 h10 => exact ⟨h3, h4, h5⟩
  obtain ⟨hnm, htx, _⟩ := rt_name h
  have hnm : nameB nm.data.toList = true := hnm
  have htx : isTx tx.data.toList = true := htx
  have hP := An.pnm hnm
  have hA : An (atP sp).1.data.toList := by
    show An (Sn.mk xpn).data.toList
    rw [Sn.mk_list]; exact An.xpn
  have l1 : (q sp.data.toList).length ≤ 6 * sp.size := by have := (q_len sp.data.toList).2; rwa [By.len_size] at this
  have l2 : (q tx.data.toList).length ≤ 6 * tx.size := by have := (q_len tx.data.toList).2; rwa [By.len_size] at this
  have l3 : nm.data.toList.length = nm.size := By.len_size nm
  have l4 : (pnm nm.data.toList).length = nm.size + 2 := by rw [← l3]; rfl
  have l5 : (tagP sp nm).length ≤ nm.size + 20 + 6 * sp.size := by
    unfold tagP
    have : (Tg.marks [atP sp]).length = 11 + (q sp.data.toList).length := by
      show (Tg.mark (Sn.mk xpn).data.toList sp.data.toList ++ []).length = _
      simp [Tg.mark, Sn.mk_list, xpn]
      omega
    rw [List.length_append, l4, this]; omega
  have hru : runs 0 (tagP sp nm) = some 0 := by
    unfold tagP
    rw [runs_append (runs_plain fun c hc => ⟨(hP.no c hc).2.1, (hP.no c hc).2.2.1, (hP.no c hc).2.2.2.1⟩), runs_marks (fun b hb => by rw [List.mem_singleton.1 hb]; exact hA)]
  have hT : isTx (60 :: (tagP sp nm ++ [62])) = true := by
    refine tx_append (a := [60]) (asc_text (by decide)) (tx_append (tx_append hP.tx (marks_text fun a ha => ?_)) (asc_text (by decide)))
    rw [List.mem_singleton.1 ha]
    exact ⟨hA, hsp.2.2⟩
  have hlen : (60 :: (tagP sp nm ++ [62])).length = (tagP sp nm).length + 2 := by simp
  have t1 : Sn.take (S [opS] 13) (60 :: (tagP sp nm ++ [62])) = (S ([opS] ++ [opP sp nm (Sn.mk [])]) (0 + ((tagP sp nm).length + 2)), Ev0, 0) := by
    rw [tk_beg (by rw [took_S]; show ¬ 16384 < 0 + _; rw [hlen]; omega) hT rfl (by show (112 : Nat) ≠ 63; decide) (by show (112 : Nat) ≠ 33; decide) (by show (112 : Nat) ≠ 47; decide), took_S, hlen]
    exact tb_in (readBg_p hP hA) (read_p hsp.1 hsp.2.1 [opS]) (by show (1 : Nat) ≠ 0; decide) (by show ¬ 16 < 1; decide) rfl
  have e1 : Sn.feed (S [opS] 13) (60 :: (tagP sp nm ++ [62])) = (S ([opS] ++ [opP sp nm (Sn.mk [])]) (0 + ((tagP sp nm).length + 2)), []) := by
    rw [feed_tag hru (by omega), tok1_of t1]
    rfl
  have e2 : Sn.feed (S ([opS] ++ [opP sp nm (Sn.mk [])]) (0 + ((tagP sp nm).length + 2))) (q tx.data.toList ++ 60 :: ((47 :: pnm nm.data.toList) ++ [62])) =
      Sn.feed (S ([opS] ++ [opP sp nm tx]) (0 + ((tagP sp nm).length + 2) + (q tx.data.toList).length)) (60 :: ((47 :: pnm nm.data.toList) ++ [62])) := by
    refine feed_chars (fun c hc => (q_no hc).1) (by omega) (fun h0 => ?_) (fun h0 => ?_)
    · have ht0 : tx.data.toList = [] := by
        have := (q_len tx.data.toList).1
        rw [h0] at this
        exact List.length_eq_zero_iff.1 (by simpa using this)
      have : tx = Sn.mk [] := By.bytes_ext (by rw [ht0, Sn.mk_list])
      subst this
      exact ⟨rfl, by rw [h0]; rfl⟩
    · have := take_text (n := 0 + ((tagP sp nm).length + 2)) (ini := [opS]) (o := opP sp nm (Sn.mk [])) (l := tx.data.toList) (by simp) htx h0 (by omega)
      rw [this]
      have ht : El.addTx (opP sp nm (Sn.mk [])).elem tx.data.toList = .mk sp nm [] tx [] := by
        show El.mk sp nm [] (Sn.mk ((Sn.mk []).data.toList ++ tx.data.toList)) [] = _
        rw [Sn.mk_list, List.nil_append, Sn.mk_of]
      rw [ht]; rfl
  have hname : (opP sp nm tx).name.data.toList = pnm nm.data.toList := by
    show (Sn.mk (pnm nm.data.toList)).data.toList = _
    rw [Sn.mk_list]
  have t3 := take_fin2 (n := 0 + ((tagP sp nm).length + 2) + (q tx.data.toList).length) (ini := [opS]) (o := opP sp nm tx) (by simp) (by rw [hname]; exact hP) (by rw [hname, l4]; omega)
  rw [hname] at t3
  have hru3 : runs 0 (47 :: pnm nm.data.toList) = some 0 := runs_plain fun c hc => by
    rcases List.mem_cons.1 hc with h1 | h1
    · rw [h1]; decide
    · exact ⟨(hP.no c h1).2.1, (hP.no c h1).2.2.1, (hP.no c h1).2.2.2.1⟩
  have e4 := feed_tag (os := [opS] ++ [opP sp nm tx]) (n := 0 + ((tagP sp nm).length + 2) + (q tx.data.toList).length) hru3 (by rw [List.length_cons, l4]; omega)
  rw [tok1_of t3] at e4
  unfold pfx
  rw [Sn.feed_append, e1]
  show [] ++ (Sn.feed (S ([opS] ++ [opP sp nm (Sn.mk [])]) (0 + ((tagP sp nm).length + 2))) (q tx.data.toList ++ 60 :: ((47 :: pnm nm.data.toList) ++ [62]))).2 = _
  rw [e2, e4]
  rfl
theorem bk_text : ∀ {t : B8}, t.all bk = true → isTx t = true := by
  intro t h
  induction t with
  | nil => exact asc_text rfl
  | cons b r ih =>
    simp only [List.all_cons, Bool.and_eq_true] at h
    refine tx_append (a := [b]) ?_ (ih h.2)
    have hb : b = 32 ∨ b = 9 ∨ b = 10 ∨ b = 13 := by simpa [bk, or_assoc] using h.1
    rw [isTx_iff]
    have hk : Sg.ok b.toNat = true := by rcases hb with rfl | rfl | rfl | rfl <;> decide
    have he : Sg.enc b.toNat = [b] := by rcases hb with rfl | rfl | rfl | rfl <;> decide
    have := Sg.IsT.one hk
    rw [he] at this
    exact ⟨_, this⟩
/-- Blanks between stanzas have no part. -/
theorem blanks_fed {n : Nat} {t r : B8} (h : t.all bk = true) (hl : t.length ≤ 16384) : ∃ n', Sn.feed (S [opS] n) (t ++ 60 :: r) = Sn.feed (S [opS] n') (60 :: r) := by
  have h60 : ∀ d ∈ t, d ≠ 60 := fun d hd e => by
    have := List.all_eq_true.1 h d hd
    rw [e] at this; revert this; decide
  by_cases ht : t = []
  · exact ⟨n, by rw [ht]; rfl⟩
  refine ⟨t.length, feed_chars h60 hl (fun e => absurd e ht) fun _ => ?_⟩
  have hnb : Sg.nb t 0 ≠ 60 := by
    cases hq : t with
    | nil => exact absurd hq ht
    | cons a r =>
      intro e
      have e : a.toNat = (60 : UInt8).toNat := e
      exact h60 a (by rw [hq]; exact List.mem_cons_self ..) (UInt8.toNat_inj.1 e)
  have htx : isTx t = true := bk_text h
  have htk : took ({ S [opS] n with token := [60] }) t = { S [opS] t.length with token := [60] } := by
    unfold took
    show ({ token := [60], quote := 0, begun := true, os := [opS], size := (if 1 < 1 then n else 0) + t.length, over := false, err := 0 } : St) = _
    rw [if_neg (by decide), Nat.zero_add]; rfl
  rw [tk_chr (by rw [htk]; show ¬ 16384 < t.length; omega) htx hnb, htk]
  unfold chars
  rw [if_pos (by show 1 ≤ 1; omega), h]
  rfl
end Go.Proofs.YtolnpfcncmcacaaGreatDoor
