/- Layer 6 in one text: what holds of a scanner; take, first parts. Conditions: those of each theorem's head. -/
import Derived.Test.YtolnpfcncmcacaaGreatDoorMH

/- What holds of a scanner that is not over, whatever was fed to it; the tokens that it takes. No condition; nothing of the program stands here. -/
namespace Go.Proofs.YtolnpfcncmcacaaGreatDoor
open Go.RowKit Go.Lib Go.Shelf Tg Sn

def Kd (os : List Sn.Op) (k : Nat) : Prop := ∀ o ∈ os, o.elem.ks.length ≤ k ∧ o.elem.tx.size ≤ k
def Tp (os : List Sn.Op) : Prop := ∀ o ∈ os.head?, o.elem = El0
structure Iv (s : St) : Prop where
  over : s.over = false
  tok : s.token.length ≤ 16384
  size : s.size ≤ 16384
  os : s.os.length ≤ 17
  top : Tp s.os
  kid : Kd s.os s.size
theorem iv0 : Iv St0 := ⟨rfl, Nat.zero_le _, Nat.zero_le _, Nat.zero_le _, (fun o ho => by cases ho), fun o ho => by cases ho⟩
theorem Kd.le {os : List Sn.Op} {k n : Nat} (h : Kd os k) (hk : k ≤ n) : Kd os n := fun o ho => ⟨Nat.le_trans (h o ho).1 hk, Nat.le_trans (h o ho).2 hk⟩
theorem Kd.one {os : List Sn.Op} (h : Tp os) (hl : ¬ 1 < os.length) (k : Nat) : Kd os k := by
  intro o ho
  cases os with
  | nil => cases ho
  | cons a r =>
    cases r with
    | nil =>
      have e := h a rfl
      rw [List.mem_singleton.1 ho, e]
      exact ⟨Nat.zero_le _, Nat.zero_le _⟩
    | cons b r => simp at hl
theorem snoc_of {α : Type _} {l : List α} (h : l ≠ []) : ∃ i x, l = i ++ [x] := ⟨l.dropLast, l.getLast h, (List.dropLast_concat_getLast h).symm⟩
theorem tp_snoc {ini : List Sn.Op} {o o' : Sn.Op} (h : Tp (ini ++ [o])) (hi : ini ≠ []) : Tp (ini ++ [o']) := by
  cases ini with
  | nil => exact absurd rfl hi
  | cons a r => exact h
theorem tp_init {ini : List Sn.Op} {o : Sn.Op} (h : Tp (ini ++ [o])) : Tp ini := by
  cases ini with
  | nil => exact fun o ho => by cases ho
  | cons a r => exact h
theorem chars_iv {s : St} {t : B8} {n : Nat} (h2 : Tp s.os) (hk : Kd s.os n) :
    Tp (chars s t).1.os ∧ Kd (chars s t).1.os (n + t.length) ∧ (chars s t).1.os.length = s.os.length ∧ (chars s t).1.over = s.over ∧ (chars s t).1.size = s.size ∧ (chars s t).1.token = s.token ∧ (chars s t).2.1 = Ev0 := by
  by_cases h1 : s.os.length ≤ 1
  · rw [chars_out h1]; exact ⟨h2, hk.le (Nat.le_add_right _ _), rfl, rfl, rfl, rfl, rfl⟩
  · rw [chars_in h1]
    obtain ⟨ini, o, ho⟩ := snoc_of (l := s.os) (by intro e; rw [e] at h1; simp at h1)
    have hi : ini ≠ [] := by intro e; rw [ho, e] at h1; simp at h1
    have hk0 := hk
    simp only [ho, onLast_snoc]
    rw [ho] at h2 hk
    refine ⟨tp_snoc h2 hi, fun o' ho' => ?_, by simp, by trivial, by trivial, by trivial, by trivial⟩
    rcases List.mem_append.1 ho' with h3 | h3
    · have := hk o' (by simp [h3]); omega
    · rw [List.mem_singleton.1 h3]
      have hq := qt_len t
      have := hk o (by simp)
      refine ⟨by show o.elem.ks.length ≤ _; omega, ?_⟩
      show (Sn.mk (o.elem.tx.data.toList ++ _)).size ≤ _
      rw [Sn.mk_size, List.length_append, By.len_size]; omega
theorem shut_iv {s : St} {n : Nat} (h2 : Tp s.os) (hk : Kd s.os n) (hn : s.os.length ≤ 17) (hne : s.os ≠ []) :
    (shut s).1.size = s.size ∧ (shut s).1.token = s.token ∧ ((shut s).1.over = false → Tp (shut s).1.os ∧ Kd (shut s).1.os (n + 1) ∧ (shut s).1.os.length ≤ 17) := by
  obtain ⟨ini, o, ho⟩ := snoc_of hne
  have e1 : s.os.dropLast = ini := by rw [ho]; simp
  have e2 : s.os.getLast? = some o := by rw [ho]; simp
  rw [ho] at h2 hk hn
  simp only [List.length_append, List.length_singleton] at hn
  unfold shut
  simp only [e1, e2, Option.getD_some]
  by_cases c0 : ini.length = 0
  · simp only [if_pos c0]
    exact ⟨by trivial, by trivial, fun h => by cases h⟩
  · by_cases c1 : ini.length = 1
    · simp only [if_neg c0, if_pos c1]
      exact ⟨by trivial, by trivial, fun _ => ⟨tp_init h2, fun o' ho' => by have := hk o' (by simp [ho']); omega, by show ini.length ≤ 17; omega⟩⟩
    · simp only [if_neg c0, if_neg c1]
      refine ⟨by trivial, by trivial, fun _ => ?_⟩
      obtain ⟨i2, o2, hi⟩ := snoc_of (l := ini) (by intro e; rw [e] at c0; exact c0 rfl)
      have hi2 : i2 ≠ [] := by intro e; rw [hi, e] at c1; simp at c1
      simp only [hi, onLast_snoc]
      rw [hi] at hn hk h2
      refine ⟨tp_snoc (tp_init h2) hi2, fun o' ho' => ?_, by simp at hn ⊢; omega⟩
      rcases List.mem_append.1 ho' with h3 | h3
      · have := hk o' (by simp [h3]); omega
      · rw [List.mem_singleton.1 h3]
        have := hk o2 (by simp)
        refine ⟨?_, by show o2.elem.tx.size ≤ _; omega⟩
        show (o2.elem.ks ++ [o.elem]).length ≤ _
        rw [List.length_append, List.length_singleton]; omega
theorem tagEnd_or (s : St) (t : B8) : tagEnd s t = (s, Ev0, 60) ∨ (s.os ≠ [] ∧ tagEnd s t = ((shut s).1, (shut s).2, 0)) := by
  cases hf : full (endName t) with
  | false => exact .inl (te_full hf)
  | true =>
    by_cases h0 : s.os = []
    · exact .inl (te_none h0)
    · obtain ⟨ini, o, ho⟩ := snoc_of h0
      by_cases hn : o.name.data.toList = endName t
      · exact .inr ⟨h0, te_yes hf ho hn⟩
      · exact .inl (te_name ho hn)
theorem read_kt {os : List Sn.Op} {b : Bg} {o : Sn.Op} (h : Sn.read os b = (0, o)) : o.elem.ks = [] ∧ o.elem.tx = ⟨#[]⟩ := by
  cases h1 : twins b.attrs with
  | true => rw [rd_twins h1] at h; cases h
  | false =>
    by_cases h2 : 16 < others b.attrs
    · rw [rd_many h1 h2] at h; cases h
    · by_cases h3 : (vals b.attrs).1 = 0
      · rw [rd_go h1 h2 h3] at h
        split at h
        · cases h
        · split at h
          · cases h
          · split at h
            · cases h
            · simp only [Prod.mk.injEq, true_and] at h
              subst h
              exact ⟨rfl, rfl⟩
      · rw [rd_vals h1 h2 h3] at h
        simp only [Prod.mk.injEq] at h
        exact absurd h.1 h3
theorem tagBegin_or (s : St) (t : B8) : (∃ n, n ≠ 0 ∧ tagBegin s t = (s, Ev0, n)) ∨ (∃ o e, o.elem = El0 ∧ s.os.length = 0 ∧ tagBegin s t = ({ s with os := [o] }, ⟨1, e, 0⟩, 0)) ∨
    (∃ o, s.os.length ≠ 0 ∧ s.os.length ≤ 16 ∧ o.elem.ks = [] ∧ o.elem.tx = ⟨#[]⟩ ∧ (tagBegin s t = ({ s with os := s.os ++ [o] }, Ev0, 0) ∨ tagBegin s t = ((shut { s with os := s.os ++ [o] }).1, (shut { s with os := s.os ++ [o] }).2, 0))) := by
  cases hb : readBg t with
  | none => exact .inl ⟨60, by decide, tb_none hb⟩
  | some b =>
    cases hr : Sn.read s.os b with
    | mk n o =>
      by_cases hn : n = 0
      · subst hn
        by_cases h0 : s.os.length = 0
        · cases he : b.empty with
          | true => exact .inl ⟨60, by decide, tb_top0 hb hr h0 he⟩
          | false => exact .inr (.inl ⟨_, _, rfl, h0, tb_top hb hr h0 he⟩)
        · by_cases h16 : 16 < s.os.length
          · exact .inl ⟨62, by decide, tb_big hb hr h16⟩
          · obtain ⟨k1, k2⟩ := read_kt hr
            cases he : b.empty with
            | true => exact .inr (.inr ⟨o, h0, by omega, k1, k2, .inr (tb_in0 hb hr h0 h16 he)⟩)
            | false => exact .inr (.inr ⟨o, h0, by omega, k1, k2, .inl (tb_in hb hr h0 h16 he)⟩)
      · exact .inl ⟨n, hn, tb_err hb hr hn⟩
/-- What a call that takes a token leaves. -/
structure Tv (s : St) (r : St × Ev × Nat) : Prop where
  tok : r.1.token = s.token
  bad : r.2.2 ≠ 0 → r.1.over = false
  good : r.2.2 = 0 → r.1.over = false → Iv r.1
def took (s : St) (t : B8) : St := { s with begun := true, size := (if 1 < s.os.length then s.size else 0) + t.length }
theorem took_kd {s : St} (h : Iv s) : Kd s.os (if 1 < s.os.length then s.size else 0) := by
  by_cases h1 : 1 < s.os.length
  · rw [if_pos h1]; exact h.kid
  · rw [if_neg h1]; exact Kd.one h.top h1 0
theorem Tv.end {s : St} {t : B8} (h : Iv s) (ht : t ≠ []) (hs : ¬ 16384 < (took s t).size) : Tv s (tagEnd (took s t) t) := by
  have hl : 1 ≤ t.length := by cases t with | nil => exact absurd rfl ht | cons a r => simp
  rcases tagEnd_or (took s t) t with e | ⟨hne, e⟩
  · rw [e]
    exact ⟨rfl, fun _ => h.over, fun h0 => by cases h0⟩
  · rw [e]
    obtain ⟨q1, q2, q3⟩ := shut_iv (s := took s t) (n := if 1 < s.os.length then s.size else 0) h.top (took_kd h) h.os hne
    refine ⟨q2, fun h0 => absurd rfl h0, fun _ ho => ?_⟩
    obtain ⟨p1, p2, p3⟩ := q3 ho
    refine ⟨ho, by rw [q2]; exact h.tok, by rw [q1]; omega, p3, p1, p2.le ?_⟩
    rw [q1]
    show _ ≤ (if 1 < s.os.length then s.size else 0) + t.length
    omega
theorem Tv.begin {s : St} {t : B8} (h : Iv s) (ht : t ≠ []) (hs : ¬ 16384 < (took s t).size) : Tv s (tagBegin (took s t) t) := by
  have hl : 1 ≤ t.length := by cases t with | nil => exact absurd rfl ht | cons a r => simp
  have hsz : (took s t).size = (if 1 < s.os.length then s.size else 0) + t.length := rfl
  have hkd := took_kd h
  rcases tagBegin_or (took s t) t with ⟨n, hn, e⟩ | ⟨o, el, he, h0, e⟩ | ⟨o, h0, h16, k1, k2, e⟩
  · rw [e]
    exact ⟨rfl, fun _ => h.over, fun h0 => absurd h0 hn⟩
  · rw [e]
    refine ⟨rfl, fun h0 => absurd rfl h0, fun _ _ => ⟨h.over, h.tok, by show (took s t).size ≤ _; omega, by show 1 ≤ 17; decide, fun o' ho' => ?_, fun o' ho' => ?_⟩⟩
    · have : o = o' := by simpa using ho'
      rw [← this]; exact he
    · rw [List.mem_singleton.1 ho', he]
      exact ⟨Nat.zero_le _, Nat.zero_le _⟩
  · have hos : (took s t).os = s.os := rfl
    rw [hos] at h0 h16 e
    have t2 : Tp (s.os ++ [o]) := by
      have := h.top
      cases hq : s.os with
      | nil => rw [hq] at h0; exact absurd rfl h0
      | cons a r => rw [hq] at this; exact this
    have kd2 : Kd (s.os ++ [o]) (if 1 < s.os.length then s.size else 0) := fun o' ho' => by
      rcases List.mem_append.1 ho' with h3 | h3
      · exact hkd o' h3
      · rw [List.mem_singleton.1 h3, k1, k2]
        exact ⟨Nat.zero_le _, Nat.zero_le _⟩
    rcases e with e | e
    · rw [e]
      refine ⟨rfl, fun h0 => absurd rfl h0, fun _ _ => ⟨h.over, h.tok, by show (took s t).size ≤ _; omega, by show (s.os ++ [o]).length ≤ 17; simp; omega, t2, ?_⟩⟩
      exact kd2.le (by show _ ≤ (took s t).size; omega)
    · rw [e]
      obtain ⟨q1, q2, q3⟩ := shut_iv (s := { took s t with os := s.os ++ [o] }) (n := if 1 < s.os.length then s.size else 0) t2 kd2 (by show (s.os ++ [o]).length ≤ 17; simp; omega) (by simp)
      refine ⟨q2, fun h0 => absurd rfl h0, fun _ ho => ?_⟩
      obtain ⟨p1, p2, p3⟩ := q3 ho
      refine ⟨ho, by show (shut _).1.token.length ≤ _; rw [q2]; exact h.tok, by show (shut _).1.size ≤ _; rw [q1]; show (took s t).size ≤ _; omega, p3, p1, p2.le ?_⟩
      show _ ≤ (shut _).1.size
      rw [q1]
      show _ ≤ (took s t).size
      omega
theorem Tv.chars {s : St} {t : B8} (h : Iv s) (hs : ¬ 16384 < (took s t).size) : Tv s (chars (took s t) t) := by
  obtain ⟨c1, c2, c3, c4, c5, c6, c7⟩ := chars_iv (s := took s t) (t := t) (n := if 1 < s.os.length then s.size else 0) h.top (took_kd h)
  refine ⟨c6, fun _ => c4.trans h.over, fun _ _ => ⟨c4.trans h.over, by rw [c6]; exact h.tok, by rw [c5]; omega, by rw [c3]; exact h.os, c1, ?_⟩⟩
  rw [c5]; exact c2
theorem Tv.take {s : St} {t : B8} (h : Iv s) (ht : t ≠ []) : Tv s (Sn.take s t) := by
  have hl : 1 ≤ t.length := by cases t with | nil => exact absurd rfl ht | cons a r => simp
  have hsz : (took s t).size = (if 1 < s.os.length then s.size else 0) + t.length := rfl
  show Tv s (if 16384 < (took s t).size then (took s t, Ev0, 62) else if isTx t = false then (took s t, Ev0, 63) else if Sg.nb t 0 ≠ 60 then Sn.chars (took s t) t else if Sg.nb t 1 = 63 ∧ s.begun = false ∧ prologue t = true then (took s t, Ev0, 0) else if Sg.nb t 1 = 63 ∨ Sg.nb t 1 = 33 then (took s t, Ev0, 61) else if Sg.nb t 1 = 47 then tagEnd (took s t) t else tagBegin (took s t) t)
  by_cases h1 : 16384 < (took s t).size
  · rw [if_pos h1]; exact ⟨rfl, fun _ => h.over, fun h0 => by cases h0⟩
  rw [if_neg h1]
  by_cases h2 : isTx t = false
  · rw [if_pos h2]; exact ⟨rfl, fun _ => h.over, fun h0 => by cases h0⟩
  rw [if_neg h2]
  by_cases h3 : Sg.nb t 0 ≠ 60
  · rw [if_pos h3]; exact Tv.chars h h1
  rw [if_neg h3]
  by_cases h4 : Sg.nb t 1 = 63 ∧ s.begun = false ∧ prologue t = true
  · rw [if_pos h4]
    exact ⟨rfl, fun _ => h.over, fun _ _ => ⟨h.over, h.tok, by show (took s t).size ≤ _; omega, h.os, h.top, (took_kd h).le (by show _ ≤ (took s t).size; omega)⟩⟩
  rw [if_neg h4]
  by_cases h5 : Sg.nb t 1 = 63 ∨ Sg.nb t 1 = 33
  · rw [if_pos h5]; exact ⟨rfl, fun _ => h.over, fun h0 => by cases h0⟩
  rw [if_neg h5]
  by_cases h6 : Sg.nb t 1 = 47
  · rw [if_pos h6]; exact Tv.end h ht h1
  · rw [if_neg h6]; exact Tv.begin h ht h1
/-- A token: characters, or a tag. -/
structure Tok (t : B8) : Prop where
  ne : t ≠ []
  tag : Sg.nb t 0 = 60 → 2 ≤ t.length ∧ t.getLast? = some 62
theorem cut_eq (s : St) (c : UInt8) : ∃ l q r, Sn.cut s c = ({ s with token := l, quote := q }, r) ∧ l.length ≤ s.token.length + 1 ∧ (r ≠ [] → l.length ≤ 1 ∧ r.length ≤ s.token.length + 1 ∧ Tok r) := by
  unfold Sn.cut
  split
  · rename_i h
    split
    · refine ⟨_, s.quote, _, rfl, by simp, fun hr => ⟨by simp, by omega, hr, fun h0 => ?_⟩⟩
      cases ht : s.token with
      | nil => exact absurd ht hr
      | cons a r =>
        rw [ht] at h h0
        exact absurd (by simp only [List.head?_cons, Option.some.injEq]; exact UInt8.toNat_inj.1 h0) h
    · exact ⟨_, s.quote, _, rfl, by simp, fun hr => absurd rfl hr⟩
  · rename_i h
    have h : s.token.head? = some 60 := Classical.byContradiction h
    split
    · exact ⟨_, _, _, rfl, by simp, fun hr => absurd rfl hr⟩
    · split
      · exact ⟨_, _, _, rfl, by simp, fun hr => absurd rfl hr⟩
      · split
        · rename_i hc
          refine ⟨[], s.quote, _, rfl, by simp, fun hr => ⟨by simp, by simp, hr, fun _ => ?_⟩⟩
          subst hc
          refine ⟨?_, by simp⟩
          cases ht : s.token with
          | nil => rw [ht] at h; cases h
          | cons a r => simp
        · exact ⟨_, s.quote, _, rfl, by simp, fun hr => absurd rfl hr⟩
theorem Iv.cut {s : St} (h : Iv s) {l : B8} {q : Nat} (hl : l.length ≤ 16384) : Iv { s with token := l, quote := q } := ⟨h.over, hl, h.size, h.os, h.top, h.kid⟩
theorem step_tv {s : St} (h : Iv s) (c : UInt8) : ((Sn.step s c).2.2 ≠ 0 → (Sn.step s c).1.over = false) ∧ ((Sn.step s c).2.2 = 0 → (Sn.step s c).1.over = false → Iv (Sn.step s c).1) := by
  obtain ⟨l, q, r, e, h1, h2⟩ := cut_eq s c
  unfold Sn.step
  simp only [e]
  by_cases hr : r = []
  · rw [if_pos hr]
    refine ⟨fun _ => h.over, fun h0 _ => h.cut ?_⟩
    simp only at h0
    split at h0
    · cases h0
    · omega
  · rw [if_neg hr]
    obtain ⟨h3, h4, h5⟩ := h2 hr
    have T := Tv.take (h.cut (l := l) (q := q) (by omega)) h5.ne
    exact ⟨T.bad, T.good⟩
theorem one_iv {s : St} (h : Iv s) (c : UInt8) (ho : (Sn.one s c).1.over = false) : Iv (Sn.one s c).1 := by
  unfold Sn.one at ho ⊢
  rw [if_neg (by rw [h.over]; exact Bool.false_ne_true)] at ho ⊢
  simp only at ho ⊢
  by_cases h0 : (Sn.step s c).2.2 = 0
  · rw [if_pos h0] at ho ⊢
    exact (step_tv h c).2 h0 ho
  · rw [if_neg h0] at ho
    cases ho
theorem over_one {s : St} (h : s.over = true) (c : UInt8) : Sn.one s c = (s, []) := by unfold Sn.one; rw [if_pos h]
theorem over_feed {s : St} (h : s.over = true) : ∀ l, Sn.feed s l = (s, [])
  | [] => rfl
  | c :: r => by simp only [Sn.feed, over_one h c, over_feed h r, List.append_nil]
theorem feed_iv : ∀ (l : B8) {s : St}, Iv s → (Sn.feed s l).1.over = false → Iv (Sn.feed s l).1
  | [], _, h, _ => h
  | c :: r, s, h, ho => by
    simp only [Sn.feed] at ho ⊢
    cases h1 : (Sn.one s c).1.over with
    | true => rw [over_feed h1] at ho ⊢; rw [h1] at ho; cases ho
    | false => exact feed_iv r (one_iv h c h1) ho
theorem feed_snoc (s : St) (l : B8) (c : UInt8) : Sn.feed s (l ++ [c]) = ((Sn.one (Sn.feed s l).1 c).1, (Sn.feed s l).2 ++ (Sn.one (Sn.feed s l).1 c).2) := by
  rw [Sn.feed_append]; simp [Sn.feed]
/-- A tag's text within is text. -/
theorem tail_text {l : B8} {c : UInt8} (hc : c.toNat < 128) (hk : Sg.ok c.toNat = true) {cs : List Nat} (h : Sg.IsT (c :: l) cs) : ∃ b, Sg.IsT l b := by
  have e : Sg.cat [c.toNat] = [c] := by rw [Sg.cat_cons, Sg.cat_nil, List.append_nil, enc_small hc, Sg.u_of rfl]
  obtain ⟨r, _, h2⟩ := Sg.IsT.tail (done := [c.toNat]) (r := l) (fun d hd => by rw [List.mem_singleton.1 hd]; exact hk) (cs := cs) (by rw [e]; exact h)
  exact ⟨r, h2⟩
theorem init_text {l : B8} {c : UInt8} (hc : c.toNat < 128) {cs : List Nat} (h : Sg.IsT (l ++ [c]) cs) : ∃ b, Sg.IsT l b := by
  obtain ⟨h1, h2⟩ := h
  obtain ⟨a, b, e, e1, e2⟩ := cut_text cs l.length h1 (by rw [← h2]; simp) (.inr (.inr (by
    rw [← h2, nb_append_right _ _ _ (Nat.le_refl _), Nat.sub_self]
    exact (inner_false _).2 (.inl hc))))
  rw [← h2, List.take_left' rfl] at e1
  exact ⟨a, fun d hd => h1 d (by rw [e]; simp [hd]), e1⟩
theorem inner_text {t : B8} (h : Tok t) (h0 : Sg.nb t 0 = 60) {cs : List Nat} (hT : Sg.IsT t cs) : ∃ b, Sg.IsT (inner2 t) b := by
  obtain ⟨h1, h2⟩ := h.tag h0
  cases t with
  | nil => exact absurd rfl h.ne
  | cons x r =>
    have hx : x = 60 := UInt8.toNat_inj.1 h0
    subst hx
    obtain ⟨b, hb⟩ := tail_text (by decide) (by decide) hT
    have hr : r ≠ [] := by intro e; rw [e] at h1; simp at h1
    obtain ⟨i, y, hy⟩ := snoc_of hr
    subst hy
    have hyy : y = 62 := by
      rw [← List.cons_append, List.getLast?_concat] at h2
      simpa using h2
    subst hyy
    obtain ⟨b2, hb2⟩ := init_text (by decide) hb
    have hin : Sn.inner (60 :: (i ++ [62])) = i := by simp [Sn.inner]
    unfold inner2
    rw [hin]
    split
    · rename_i he
      unfold isEmp at he
      rw [hin] at he
      have he := eq_of_beq he
      have hi : i ≠ [] := by intro e; rw [e] at he; cases he
      obtain ⟨i2, z, hz⟩ := snoc_of hi
      subst hz
      rw [List.getLast?_concat] at he
      have hzz : z = 47 := by simpa using he
      subst hzz
      obtain ⟨b3, hb3⟩ := init_text (by decide) hb2
      exact ⟨b3, by rw [List.dropLast_concat]; exact hb3⟩
    · exact ⟨b2, hb2⟩
end Go.Proofs.YtolnpfcncmcacaaGreatDoor

/- The contract of (*Scanner).take, first part: a token is taken. Condition: the scanner is not over; the token is characters or a tag, of at most 1048576 bytes. -/
namespace Go.Proofs.YtolnpfcncmcacaaGreatDoor
open Go.RowKit Go.Lib Go.Shelf Tg Sn

theorem ow_box (w : World) (P i : Nat) (u : Value) : Ow (fun b => b = P) w (w.setCell ⟨P, i, none⟩ u) := by
  have h0 : Ow (fun b => b = P) w w := Ow.refl _ w
  exact h0.set (a := ⟨P, i, none⟩) (fun _ => rfl) u
theorem tk_eq (s : St) (t : B8) : Sn.take s t = if 16384 < (took s t).size then (took s t, Ev0, 62) else if isTx t = false then (took s t, Ev0, 63) else if Sg.nb t 0 ≠ 60 then Sn.chars (took s t) t else if Sg.nb t 1 = 63 ∧ s.begun = false ∧ prologue t = true then (took s t, Ev0, 0) else if Sg.nb t 1 = 63 ∨ Sg.nb t 1 = 33 then (took s t, Ev0, 61) else if Sg.nb t 1 = 47 then tagEnd (took s t) t else tagBegin (took s t) t := rfl
theorem tk_big {s : St} {t : B8} (h : 16384 < (took s t).size) : Sn.take s t = (took s t, Ev0, 62) := by rw [tk_eq, if_pos h]
theorem tk_let {s : St} {t : B8} (h : ¬ 16384 < (took s t).size) (h2 : isTx t = false) : Sn.take s t = (took s t, Ev0, 63) := by rw [tk_eq, if_neg h, if_pos h2]
theorem tk_chr {s : St} {t : B8} (h : ¬ 16384 < (took s t).size) (h2 : isTx t = true) (h3 : Sg.nb t 0 ≠ 60) : Sn.take s t = Sn.chars (took s t) t := by rw [tk_eq, if_neg h, if_neg (by rw [h2]; exact Bool.noConfusion), if_pos h3]
theorem tk_tag {s : St} {t : B8} (h : ¬ 16384 < (took s t).size) (h2 : isTx t = true) (h3 : Sg.nb t 0 = 60) : Sn.take s t = if Sg.nb t 1 = 63 ∧ s.begun = false ∧ prologue t = true then (took s t, Ev0, 0) else if Sg.nb t 1 = 63 ∨ Sg.nb t 1 = 33 then (took s t, Ev0, 61) else if Sg.nb t 1 = 47 then tagEnd (took s t) t else tagBegin (took s t) t := by
  rw [tk_eq, if_neg h, if_neg (by rw [h2]; exact Bool.noConfusion), if_neg (fun hc => hc h3)]
theorem tk_pro {s : St} {t : B8} (h : ¬ 16384 < (took s t).size) (h2 : isTx t = true) (h3 : Sg.nb t 0 = 60) (h4 : Sg.nb t 1 = 63) (h5 : s.begun = false) (h6 : prologue t = true) : Sn.take s t = (took s t, Ev0, 0) := by rw [tk_tag h h2 h3, if_pos ⟨h4, h5, h6⟩]
theorem tk_nev {s : St} {t : B8} (h : ¬ 16384 < (took s t).size) (h2 : isTx t = true) (h3 : Sg.nb t 0 = 60) (h4 : Sg.nb t 1 = 63) (h5 : ¬ (s.begun = false ∧ prologue t = true)) : Sn.take s t = (took s t, Ev0, 61) := by rw [tk_tag h h2 h3, if_neg (fun hc => h5 hc.2), if_pos (.inl h4)]
theorem tk_exc {s : St} {t : B8} (h : ¬ 16384 < (took s t).size) (h2 : isTx t = true) (h3 : Sg.nb t 0 = 60) (h4 : Sg.nb t 1 = 33) : Sn.take s t = (took s t, Ev0, 61) := by rw [tk_tag h h2 h3, if_neg (fun hc => by have := hc.1; omega), if_pos (.inr h4)]
theorem tk_end {s : St} {t : B8} (h : ¬ 16384 < (took s t).size) (h2 : isTx t = true) (h3 : Sg.nb t 0 = 60) (h4 : Sg.nb t 1 = 47) : Sn.take s t = tagEnd (took s t) t := by rw [tk_tag h h2 h3, if_neg (fun hc => by have := hc.1; omega), if_neg (by omega), if_pos h4]
theorem tk_beg {s : St} {t : B8} (h : ¬ 16384 < (took s t).size) (h2 : isTx t = true) (h3 : Sg.nb t 0 = 60) (h4 : Sg.nb t 1 ≠ 63) (h5 : Sg.nb t 1 ≠ 33) (h6 : Sg.nb t 1 ≠ 47) : Sn.take s t = tagBegin (took s t) t := by rw [tk_tag h h2 h3, if_neg (fun hc => h4 hc.1), if_neg (by omega), if_neg h6]
theorem isT_of {t : B8} (h : isTx t = true) : ∃ cs, Sg.IsT t cs := (isTx_iff t).1 h
theorem noT_of {t : B8} (h : isTx t = false) : ∀ cs, ¬ Sg.IsT t cs := fun cs hc => by rw [(isTx_iff t).2 ⟨cs, hc⟩] at h; cases h
set_option maxRecDepth 100000 in
set_option maxHeartbeats 8000000 in
theorem take_big_t (N P : Nat) (v : Vw) (s : St) (t : ByteArray) (w : World) (h : Sc N P v w s) (hi : Iv s) (ht : t.size ≤ 1048576) (_htk : Tok t.data.toList) (hb : decide (1 < s.os.length) = true) (h1 : 16384 < (took s t.data.toList).size) :
    Calls Tryz.prog 46 #[.pointer (some ⟨P, 0, none⟩), .string t] w (ResP N P v w (Sn.take s t.data.toList)) := by
  have T := Lib.hid (tk_big h1)
  have HS := Lib.hid h
  have HI := Lib.hid hi
  have hPl := h.boxlt
  obtain ⟨n, hn⟩ : ∃ n, (took s t.data.toList).size = n := ⟨_, rfl⟩
  have hn2 : n = s.size + t.size := by
    rw [← hn]
    show (if 1 < s.os.length then s.size else 0) + t.data.toList.length = _
    rw [By.len_size]
    have hb := hb
    simp only [decide_eq_true_eq] at hb
    rw [if_pos hb]
  have hsz := hi.size
  have g1 : IntKind.i64.wrap ((s.size : Int) + (t.size : Int)) = (n : Int) := by rw [IntWalk.i64_in _ (by omega)]; omega
  have g6 : (16384 : Int) < (n : Int) := by rw [hn] at h1; omega
  have g7 : decide ((16384 : Int) < (n : Int)) = true := by rw [decide_eq_true_iff]; exact g6
  have HN := Lib.hid hn
  have hR : w.heap.size ≠ P := by omega
  obtain ⟨hS1, _⟩ := h.addFar (R := w.heap.size) ((Below.refl _ w).alloc (Nat.le_refl _) (.cells #[.int .i64 0, .string ⟨#[]⟩, .string ⟨#[]⟩, .slice none 0 0, .string ⟨#[]⟩, .slice none 0 0, .int .i64 0] 50)) (Nat.le_refl _) (by simp)
  have e2 := World.setCell_alloc_past (w := w) (.cells #[.int .i64 0, .string ⟨#[]⟩, .string ⟨#[]⟩, .slice none 0 0, .string ⟨#[]⟩, .slice none 0 0, .int .i64 0] 50) P 2 (.bool true) hPl
  obtain ⟨hS2, hF2⟩ := hS1.boxed (s' := { s with begun := true }) (ow_box _ P 2 _) (setCell_heap hS1.box rfl) rfl rfl
  have hr2 := (setCell_other (i := 2) (u := .bool true) hR).trans (box_new w #[.int .i64 0, .string ⟨#[]⟩, .string ⟨#[]⟩, .slice none 0 0, .string ⟨#[]⟩, .slice none 0 0, .int .i64 0] 50)
  rw [e2] at hS2 hF2 hr2
  obtain ⟨⟨_, _, x2, _, _, _, _⟩, hf⟩ := bxS h.box
  have f2 := hf 2
  have HS2 := Lib.hid hS2
  have HF2 := Lib.hid hF2
  have HR2 := Lib.hid hr2
  have I := Lib.hid (inStanza_any N P (plus v w.heap.size) { s with begun := true } _ hS2 true hb)
  clear h hi hS1 e2 hS2 hF2 hr2 hf hb _htk hn hn2 hsz h1
  go_enter Tryz.func46, Tryz.ntmps46
  go_wp2_with fail
  refine I.out.mono ?_
  rintro r w1 ⟨rfl, rfl⟩
  generalize (w.setCell ⟨P, 2, none⟩ (.bool true)).alloc (.cells #[.int .i64 0, .string ⟨#[]⟩, .string ⟨#[]⟩, .slice none 0 0, .string ⟨#[]⟩, .slice none 0 0, .int .i64 0] 50) = W2 at HS2 HF2 HR2 ⊢
  clear I x2 f2
  obtain ⟨⟨_, _, _, _, x4, _, _⟩, hf⟩ := bxS HS2.out.box
  have f4 := hf 4
  clear hf
  have hbx := HS2.out.boxed (w' := W2.setCell ⟨P, 4, none⟩ (.int .i64 (n : Int))) (s' := took s t.data.toList) (ow_box _ P 4 _) (by rw [← HN.out]; exact setCell_heap HS2.out.box rfl) rfl rfl
  have HS5 := Lib.hid hbx.1
  have HF5 := Lib.hid (HF2.out.trans hbx.2)
  have HR5 := Lib.hid ((setCell_other (i := 4) (u := .int .i64 (n : Int)) hR).trans HR2.out)
  clear hbx
  obtain ⟨z0, z1, z2, z3, z4, z5, z6⟩ := bx7 HR5.out
  have fz := bx7e HR5.out
  have fz0 := fz 0
  have fz1 := fz 1
  have fz2 := fz 2
  have fz3 := fz 3
  have fz4 := fz 4
  have fz5 := fz 5
  have fz6 := fz 6
  clear fz
  go_wp2_with fail
  refine bodyPost_ret (v := .tuple #[(.agg #[.int .i64 0, .string ⟨#[]⟩, .string ⟨#[]⟩, .slice none 0 0, .string ⟨#[]⟩, .slice none 0 0, .int .i64 0]), .int .i64 62]) (by simp [results, Tryz.results46, go_sem, z0, z1, z2, z3, z4, z5, z6]) rfl ?_
  exact ResP.inn HS.out ((Below.refl _ w).alloc (Nat.le_refl _) _) (Nat.le_refl _) HF5.out (by rw [T.out]; exact ⟨fun _ => HS5.out, fun hc => by have hc : s.over = true := hc; rw [HI.out.over] at hc; cases hc⟩) (by rw [T.out]; exact EvS.zero _ _ 0 0) ((Ow.refl _ _).set7s _ _ _ _ _ _ _) (by rw [T.out]; rfl)
set_option maxRecDepth 100000 in
set_option maxHeartbeats 8000000 in
theorem take_big_f (N P : Nat) (v : Vw) (s : St) (t : ByteArray) (w : World) (h : Sc N P v w s) (hi : Iv s) (ht : t.size ≤ 1048576) (_htk : Tok t.data.toList) (hb : decide (1 < s.os.length) = false) (h1 : 16384 < (took s t.data.toList).size) :
    Calls Tryz.prog 46 #[.pointer (some ⟨P, 0, none⟩), .string t] w (ResP N P v w (Sn.take s t.data.toList)) := by
  have T := Lib.hid (tk_big h1)
  have HS := Lib.hid h
  have HI := Lib.hid hi
  have hPl := h.boxlt
  obtain ⟨n, hn⟩ : ∃ n, (took s t.data.toList).size = n := ⟨_, rfl⟩
  have hn2 : n = t.size := by
    rw [← hn]
    show (if 1 < s.os.length then s.size else 0) + t.data.toList.length = _
    rw [By.len_size]
    have hb := hb
    simp only [decide_eq_false_iff_not] at hb
    rw [if_neg hb, Nat.zero_add]
  have hsz := hi.size
  have g1 : IntKind.i64.wrap (0 + (t.size : Int)) = (n : Int) := by rw [IntWalk.i64_in _ (by omega)]; omega
  have g1' : IntKind.i64.wrap (t.size : Int) = (n : Int) := by rw [IntWalk.i64_in _ (by omega)]; omega
  have g6 : (16384 : Int) < (n : Int) := by rw [hn] at h1; omega
  have g7 : decide ((16384 : Int) < (n : Int)) = true := by rw [decide_eq_true_iff]; exact g6
  have HN := Lib.hid hn
  have hR : w.heap.size ≠ P := by omega
  obtain ⟨hS1, _⟩ := h.addFar (R := w.heap.size) ((Below.refl _ w).alloc (Nat.le_refl _) (.cells #[.int .i64 0, .string ⟨#[]⟩, .string ⟨#[]⟩, .slice none 0 0, .string ⟨#[]⟩, .slice none 0 0, .int .i64 0] 50)) (Nat.le_refl _) (by simp)
  have e2 := World.setCell_alloc_past (w := w) (.cells #[.int .i64 0, .string ⟨#[]⟩, .string ⟨#[]⟩, .slice none 0 0, .string ⟨#[]⟩, .slice none 0 0, .int .i64 0] 50) P 2 (.bool true) hPl
  obtain ⟨hS2, hF2⟩ := hS1.boxed (s' := { s with begun := true }) (ow_box _ P 2 _) (setCell_heap hS1.box rfl) rfl rfl
  have hr2 := (setCell_other (i := 2) (u := .bool true) hR).trans (box_new w #[.int .i64 0, .string ⟨#[]⟩, .string ⟨#[]⟩, .slice none 0 0, .string ⟨#[]⟩, .slice none 0 0, .int .i64 0] 50)
  rw [e2] at hS2 hF2 hr2
  obtain ⟨⟨_, _, x2, _, _, _, _⟩, hf⟩ := bxS h.box
  have f2 := hf 2
  have HS2 := Lib.hid hS2
  have HF2 := Lib.hid hF2
  have HR2 := Lib.hid hr2
  have I := Lib.hid (inStanza_any N P (plus v w.heap.size) { s with begun := true } _ hS2 false hb)
  clear h hi hS1 e2 hS2 hF2 hr2 hf hb _htk hn hn2 hsz h1
  go_enter Tryz.func46, Tryz.ntmps46
  go_wp2_with fail
  refine I.out.mono ?_
  rintro r w1 ⟨rfl, rfl⟩
  generalize (w.setCell ⟨P, 2, none⟩ (.bool true)).alloc (.cells #[.int .i64 0, .string ⟨#[]⟩, .string ⟨#[]⟩, .slice none 0 0, .string ⟨#[]⟩, .slice none 0 0, .int .i64 0] 50) = W2 at HS2 HF2 HR2 ⊢
  clear I x2 f2
  obtain ⟨⟨_, _, _, _, x4, _, _⟩, hf⟩ := bxS HS2.out.box
  have f4 := hf 4
  clear hf
  have hb1 := HS2.out.boxed (w' := W2.setCell ⟨P, 4, none⟩ (.int .i64 0)) (s' := { s with begun := true, size := 0 }) (ow_box _ P 4 _) (setCell_heap HS2.out.box rfl) rfl rfl
  have hbx := hb1.1.boxed (w' := (W2.setCell ⟨P, 4, none⟩ (.int .i64 0)).setCell ⟨P, 4, none⟩ (.int .i64 (n : Int))) (s' := took s t.data.toList) (ow_box _ P 4 _) (by rw [← HN.out]; exact setCell_heap hb1.1.box rfl) rfl rfl
  have HS5 := Lib.hid hbx.1
  have HF5 := Lib.hid ((HF2.out.trans hb1.2).trans hbx.2)
  have HR5 := Lib.hid ((setCell_other (i := 4) (u := .int .i64 (n : Int)) hR).trans ((setCell_other (i := 4) (u := .int .i64 0) hR).trans HR2.out))
  clear hbx hb1
  obtain ⟨z0, z1, z2, z3, z4, z5, z6⟩ := bx7 HR5.out
  have fz := bx7e HR5.out
  have fz0 := fz 0
  have fz1 := fz 1
  have fz2 := fz 2
  have fz3 := fz 3
  have fz4 := fz 4
  have fz5 := fz 5
  have fz6 := fz 6
  clear fz
  go_wp2_with fail
  refine bodyPost_ret (v := .tuple #[(.agg #[.int .i64 0, .string ⟨#[]⟩, .string ⟨#[]⟩, .slice none 0 0, .string ⟨#[]⟩, .slice none 0 0, .int .i64 0]), .int .i64 62]) (by simp [results, Tryz.results46, go_sem, z0, z1, z2, z3, z4, z5, z6]) rfl ?_
  exact ResP.inn HS.out ((Below.refl _ w).alloc (Nat.le_refl _) _) (Nat.le_refl _) HF5.out (by rw [T.out]; exact ⟨fun _ => HS5.out, fun hc => by have hc : s.over = true := hc; rw [HI.out.over] at hc; cases hc⟩) (by rw [T.out]; exact EvS.zero _ _ 0 0) ((Ow.refl _ _).set7s _ _ _ _ _ _ _) (by rw [T.out]; rfl)
set_option maxRecDepth 100000 in
set_option maxHeartbeats 8000000 in
theorem take_let_t (N P : Nat) (v : Vw) (s : St) (t : ByteArray) (w : World) (h : Sc N P v w s) (hi : Iv s) (ht : t.size ≤ 1048576) (_htk : Tok t.data.toList) (hb : decide (1 < s.os.length) = true) (h1 : ¬ 16384 < (took s t.data.toList).size) (h2 : isTx t.data.toList = false) :
    Calls Tryz.prog 46 #[.pointer (some ⟨P, 0, none⟩), .string t] w (ResP N P v w (Sn.take s t.data.toList)) := by
  have T := Lib.hid (tk_let h1 h2)
  have CK := Lib.hid (fun W => check_no t W ht (noT_of h2))
  have HS := Lib.hid h
  have HI := Lib.hid hi
  have hPl := h.boxlt
  obtain ⟨n, hn⟩ : ∃ n, (took s t.data.toList).size = n := ⟨_, rfl⟩
  have hn2 : n = s.size + t.size := by
    rw [← hn]
    show (if 1 < s.os.length then s.size else 0) + t.data.toList.length = _
    rw [By.len_size]
    have hb := hb
    simp only [decide_eq_true_eq] at hb
    rw [if_pos hb]
  have hsz := hi.size
  have g1 : IntKind.i64.wrap ((s.size : Int) + (t.size : Int)) = (n : Int) := by rw [IntWalk.i64_in _ (by omega)]; omega
  have g6 : ¬ ((16384 : Int) < (n : Int)) := by rw [hn] at h1; omega
  have g7 : decide ((16384 : Int) < (n : Int)) = false := by rw [decide_eq_false_iff_not]; exact g6
  have HN := Lib.hid hn
  have hR : w.heap.size ≠ P := by omega
  obtain ⟨hS1, _⟩ := h.addFar (R := w.heap.size) ((Below.refl _ w).alloc (Nat.le_refl _) (.cells #[.int .i64 0, .string ⟨#[]⟩, .string ⟨#[]⟩, .slice none 0 0, .string ⟨#[]⟩, .slice none 0 0, .int .i64 0] 50)) (Nat.le_refl _) (by simp)
  have e2 := World.setCell_alloc_past (w := w) (.cells #[.int .i64 0, .string ⟨#[]⟩, .string ⟨#[]⟩, .slice none 0 0, .string ⟨#[]⟩, .slice none 0 0, .int .i64 0] 50) P 2 (.bool true) hPl
  obtain ⟨hS2, hF2⟩ := hS1.boxed (s' := { s with begun := true }) (ow_box _ P 2 _) (setCell_heap hS1.box rfl) rfl rfl
  have hr2 := (setCell_other (i := 2) (u := .bool true) hR).trans (box_new w #[.int .i64 0, .string ⟨#[]⟩, .string ⟨#[]⟩, .slice none 0 0, .string ⟨#[]⟩, .slice none 0 0, .int .i64 0] 50)
  rw [e2] at hS2 hF2 hr2
  obtain ⟨⟨_, _, x2, _, _, _, _⟩, hf⟩ := bxS h.box
  have f2 := hf 2
  have HS2 := Lib.hid hS2
  have HF2 := Lib.hid hF2
  have HR2 := Lib.hid hr2
  have I := Lib.hid (inStanza_any N P (plus v w.heap.size) { s with begun := true } _ hS2 true hb)
  clear h hi hS1 e2 hS2 hF2 hr2 hf hb _htk hn hn2 hsz h1 h2
  go_enter Tryz.func46, Tryz.ntmps46
  go_wp2_with fail
  refine I.out.mono ?_
  rintro r w1 ⟨rfl, rfl⟩
  generalize (w.setCell ⟨P, 2, none⟩ (.bool true)).alloc (.cells #[.int .i64 0, .string ⟨#[]⟩, .string ⟨#[]⟩, .slice none 0 0, .string ⟨#[]⟩, .slice none 0 0, .int .i64 0] 50) = W2 at HS2 HF2 HR2 ⊢
  clear I x2 f2
  obtain ⟨⟨_, _, _, _, x4, _, _⟩, hf⟩ := bxS HS2.out.box
  have f4 := hf 4
  clear hf
  have hbx := HS2.out.boxed (w' := W2.setCell ⟨P, 4, none⟩ (.int .i64 (n : Int))) (s' := took s t.data.toList) (ow_box _ P 4 _) (by rw [← HN.out]; exact setCell_heap HS2.out.box rfl) rfl rfl
  have HS5 := Lib.hid hbx.1
  have HF5 := Lib.hid (HF2.out.trans hbx.2)
  have HR5 := Lib.hid ((setCell_other (i := 4) (u := .int .i64 (n : Int)) hR).trans HR2.out)
  clear hbx
  go_wp2_with fail
  generalize W2.setCell ⟨P, 4, none⟩ (.int .i64 (n : Int)) = W5 at HS5 HF5 HR5 ⊢
  clear HS2 HF2 HR2 x4 f4
  refine (CK.out _).mono ?_
  rintro r w6 ⟨rfl, hb⟩
  have HS6 := Lib.hid (HS5.out.below hb)
  have HF6 := Lib.hid (HF5.out.trans (Fr.below hb))
  have HR6 := Lib.hid ((hb.block _ (heap_lt HR5.out)).trans HR5.out)
  clear hb CK HS5 HF5 HR5
  obtain ⟨z0, z1, z2, z3, z4, z5, z6⟩ := bx7 HR6.out
  have fz := bx7e HR6.out
  have fz0 := fz 0
  have fz1 := fz 1
  have fz2 := fz 2
  have fz3 := fz 3
  have fz4 := fz 4
  have fz5 := fz 5
  have fz6 := fz 6
  clear fz
  go_wp2_with fail
  refine bodyPost_ret (v := .tuple #[(.agg #[.int .i64 0, .string ⟨#[]⟩, .string ⟨#[]⟩, .slice none 0 0, .string ⟨#[]⟩, .slice none 0 0, .int .i64 0]), .int .i64 63]) (by simp [results, Tryz.results46, go_sem, z0, z1, z2, z3, z4, z5, z6]) rfl ?_
  exact ResP.inn HS.out ((Below.refl _ w).alloc (Nat.le_refl _) _) (Nat.le_refl _) HF6.out (by rw [T.out]; exact ⟨fun _ => HS6.out, fun hc => by have hc : s.over = true := hc; rw [HI.out.over] at hc; cases hc⟩) (by rw [T.out]; exact EvS.zero _ _ 0 0) ((Ow.refl _ _).set7s _ _ _ _ _ _ _) (by rw [T.out]; rfl)
set_option maxRecDepth 100000 in
set_option maxHeartbeats 8000000 in
theorem take_let_f (N P : Nat) (v : Vw) (s : St) (t : ByteArray) (w : World) (h : Sc N P v w s) (hi : Iv s) (ht : t.size ≤ 1048576) (_htk : Tok t.data.toList) (hb : decide (1 < s.os.length) = false) (h1 : ¬ 16384 < (took s t.data.toList).size) (h2 : isTx t.data.toList = false) :
    Calls Tryz.prog 46 #[.pointer (some ⟨P, 0, none⟩), .string t] w (ResP N P v w (Sn.take s t.data.toList)) := by
  have T := Lib.hid (tk_let h1 h2)
  have CK := Lib.hid (fun W => check_no t W ht (noT_of h2))
  have HS := Lib.hid h
  have HI := Lib.hid hi
  have hPl := h.boxlt
  obtain ⟨n, hn⟩ : ∃ n, (took s t.data.toList).size = n := ⟨_, rfl⟩
  have hn2 : n = t.size := by
    rw [← hn]
    show (if 1 < s.os.length then s.size else 0) + t.data.toList.length = _
    rw [By.len_size]
    have hb := hb
    simp only [decide_eq_false_iff_not] at hb
    rw [if_neg hb, Nat.zero_add]
  have hsz := hi.size
  have g1 : IntKind.i64.wrap (0 + (t.size : Int)) = (n : Int) := by rw [IntWalk.i64_in _ (by omega)]; omega
  have g1' : IntKind.i64.wrap (t.size : Int) = (n : Int) := by rw [IntWalk.i64_in _ (by omega)]; omega
  have g6 : ¬ ((16384 : Int) < (n : Int)) := by rw [hn] at h1; omega
  have g7 : decide ((16384 : Int) < (n : Int)) = false := by rw [decide_eq_false_iff_not]; exact g6
  have HN := Lib.hid hn
  have hR : w.heap.size ≠ P := by omega
  obtain ⟨hS1, _⟩ := h.addFar (R := w.heap.size) ((Below.refl _ w).alloc (Nat.le_refl _) (.cells #[.int .i64 0, .string ⟨#[]⟩, .string ⟨#[]⟩, .slice none 0 0, .string ⟨#[]⟩, .slice none 0 0, .int .i64 0] 50)) (Nat.le_refl _) (by simp)
  have e2 := World.setCell_alloc_past (w := w) (.cells #[.int .i64 0, .string ⟨#[]⟩, .string ⟨#[]⟩, .slice none 0 0, .string ⟨#[]⟩, .slice none 0 0, .int .i64 0] 50) P 2 (.bool true) hPl
  obtain ⟨hS2, hF2⟩ := hS1.boxed (s' := { s with begun := true }) (ow_box _ P 2 _) (setCell_heap hS1.box rfl) rfl rfl
  have hr2 := (setCell_other (i := 2) (u := .bool true) hR).trans (box_new w #[.int .i64 0, .string ⟨#[]⟩, .string ⟨#[]⟩, .slice none 0 0, .string ⟨#[]⟩, .slice none 0 0, .int .i64 0] 50)
  rw [e2] at hS2 hF2 hr2
  obtain ⟨⟨_, _, x2, _, _, _, _⟩, hf⟩ := bxS h.box
  have f2 := hf 2
  have HS2 := Lib.hid hS2
  have HF2 := Lib.hid hF2
  have HR2 := Lib.hid hr2
  have I := Lib.hid (inStanza_any N P (plus v w.heap.size) { s with begun := true } _ hS2 false hb)
  clear h hi hS1 e2 hS2 hF2 hr2 hf hb _htk hn hn2 hsz h1 h2
  go_enter Tryz.func46, Tryz.ntmps46
  go_wp2_with fail
  refine I.out.mono ?_
  rintro r w1 ⟨rfl, rfl⟩
  generalize (w.setCell ⟨P, 2, none⟩ (.bool true)).alloc (.cells #[.int .i64 0, .string ⟨#[]⟩, .string ⟨#[]⟩, .slice none 0 0, .string ⟨#[]⟩, .slice none 0 0, .int .i64 0] 50) = W2 at HS2 HF2 HR2 ⊢
  clear I x2 f2
  obtain ⟨⟨_, _, _, _, x4, _, _⟩, hf⟩ := bxS HS2.out.box
  have f4 := hf 4
  clear hf
  have hb1 := HS2.out.boxed (w' := W2.setCell ⟨P, 4, none⟩ (.int .i64 0)) (s' := { s with begun := true, size := 0 }) (ow_box _ P 4 _) (setCell_heap HS2.out.box rfl) rfl rfl
  have hbx := hb1.1.boxed (w' := (W2.setCell ⟨P, 4, none⟩ (.int .i64 0)).setCell ⟨P, 4, none⟩ (.int .i64 (n : Int))) (s' := took s t.data.toList) (ow_box _ P 4 _) (by rw [← HN.out]; exact setCell_heap hb1.1.box rfl) rfl rfl
  have HS5 := Lib.hid hbx.1
  have HF5 := Lib.hid ((HF2.out.trans hb1.2).trans hbx.2)
  have HR5 := Lib.hid ((setCell_other (i := 4) (u := .int .i64 (n : Int)) hR).trans ((setCell_other (i := 4) (u := .int .i64 0) hR).trans HR2.out))
  clear hbx hb1
  go_wp2_with fail
  generalize (W2.setCell ⟨P, 4, none⟩ (.int .i64 0)).setCell ⟨P, 4, none⟩ (.int .i64 (n : Int)) = W5 at HS5 HF5 HR5 ⊢
  clear HS2 HF2 HR2 x4 f4
  refine (CK.out _).mono ?_
  rintro r w6 ⟨rfl, hb⟩
  have HS6 := Lib.hid (HS5.out.below hb)
  have HF6 := Lib.hid (HF5.out.trans (Fr.below hb))
  have HR6 := Lib.hid ((hb.block _ (heap_lt HR5.out)).trans HR5.out)
  clear hb CK HS5 HF5 HR5
  obtain ⟨z0, z1, z2, z3, z4, z5, z6⟩ := bx7 HR6.out
  have fz := bx7e HR6.out
  have fz0 := fz 0
  have fz1 := fz 1
  have fz2 := fz 2
  have fz3 := fz 3
  have fz4 := fz 4
  have fz5 := fz 5
  have fz6 := fz 6
  clear fz
  go_wp2_with fail
  refine bodyPost_ret (v := .tuple #[(.agg #[.int .i64 0, .string ⟨#[]⟩, .string ⟨#[]⟩, .slice none 0 0, .string ⟨#[]⟩, .slice none 0 0, .int .i64 0]), .int .i64 63]) (by simp [results, Tryz.results46, go_sem, z0, z1, z2, z3, z4, z5, z6]) rfl ?_
  exact ResP.inn HS.out ((Below.refl _ w).alloc (Nat.le_refl _) _) (Nat.le_refl _) HF6.out (by rw [T.out]; exact ⟨fun _ => HS6.out, fun hc => by have hc : s.over = true := hc; rw [HI.out.over] at hc; cases hc⟩) (by rw [T.out]; exact EvS.zero _ _ 0 0) ((Ow.refl _ _).set7s _ _ _ _ _ _ _) (by rw [T.out]; rfl)
end Go.Proofs.YtolnpfcncmcacaaGreatDoor

/- The contract of (*Scanner).take, second part: a token is taken. Condition: the scanner is not over; the token is characters or a tag, of at most 1048576 bytes. -/
namespace Go.Proofs.YtolnpfcncmcacaaGreatDoor
open Go.RowKit Go.Lib Go.Shelf Tg Sn

set_option maxRecDepth 100000 in
set_option maxHeartbeats 8000000 in
theorem take_pro_t (N P : Nat) (v : Vw) (s : St) (t : ByteArray) (w : World) (h : Sc N P v w s) (hi : Iv s) (ht : t.size ≤ 1048576) (htk : Tok t.data.toList) (hb : decide (1 < s.os.length) = true) (h1 : ¬ 16384 < (took s t.data.toList).size) (h2 : isTx t.data.toList = true) {cs : List Nat} (hT : Sg.IsT t.data.toList cs) (h3 : Sg.nb t.data.toList 0 = 60) (h4 : Sg.nb t.data.toList 1 = 63) (h5 : s.begun = false) (h6 : prologue t.data.toList = true) :
    Calls Tryz.prog 46 #[.pointer (some ⟨P, 0, none⟩), .string t] w (ResP N P v w (Sn.take s t.data.toList)) := by
  have T := Lib.hid (tk_pro h1 h2 h3 h4 h5 h6)
  have CK := Lib.hid (fun W => check_yes t W ht hT)
  have HTS := Lib.hid ht
  have hlz := By.len_size t
  have p0 : 0 < t.size := by
    rw [← hlz]
    exact List.length_pos_iff.2 htk.ne
  have i0 : (0 : Int) < (t.size : Int) := by omega
  have b0 := By.byte_nb t 0 p0
  have k0 : By.nb t.data.toList 0 = Sg.nb t.data.toList 0 := rfl
  rw [k0] at b0
  rw [h3] at b0
  have l2 := (htk.tag h3).1
  have p1 : 1 < t.size := by rw [← hlz]; exact l2
  have i1 : (1 : Int) < (t.size : Int) := by omega
  have b1 := By.byte_nb t 1 p1
  have k1 : By.nb t.data.toList 1 = Sg.nb t.data.toList 1 := rfl
  rw [k1] at b1
  have PR := Lib.hid (fun W => isPrologue_any t W ht)
  rw [h6] at PR
  rw [h4] at b1
  have HS := Lib.hid h
  have HI := Lib.hid hi
  have hPl := h.boxlt
  obtain ⟨n, hn⟩ : ∃ n, (took s t.data.toList).size = n := ⟨_, rfl⟩
  have hn2 : n = s.size + t.size := by
    rw [← hn]
    show (if 1 < s.os.length then s.size else 0) + t.data.toList.length = _
    rw [By.len_size]
    have hb := hb
    simp only [decide_eq_true_eq] at hb
    rw [if_pos hb]
  have hsz := hi.size
  have g1 : IntKind.i64.wrap ((s.size : Int) + (t.size : Int)) = (n : Int) := by rw [IntWalk.i64_in _ (by omega)]; omega
  have g6 : ¬ ((16384 : Int) < (n : Int)) := by rw [hn] at h1; omega
  have g7 : decide ((16384 : Int) < (n : Int)) = false := by rw [decide_eq_false_iff_not]; exact g6
  have HN := Lib.hid hn
  have hR : w.heap.size ≠ P := by omega
  obtain ⟨hS1, _⟩ := h.addFar (R := w.heap.size) ((Below.refl _ w).alloc (Nat.le_refl _) (.cells #[.int .i64 0, .string ⟨#[]⟩, .string ⟨#[]⟩, .slice none 0 0, .string ⟨#[]⟩, .slice none 0 0, .int .i64 0] 50)) (Nat.le_refl _) (by simp)
  have e2 := World.setCell_alloc_past (w := w) (.cells #[.int .i64 0, .string ⟨#[]⟩, .string ⟨#[]⟩, .slice none 0 0, .string ⟨#[]⟩, .slice none 0 0, .int .i64 0] 50) P 2 (.bool true) hPl
  obtain ⟨hS2, hF2⟩ := hS1.boxed (s' := { s with begun := true }) (ow_box _ P 2 _) (setCell_heap hS1.box rfl) rfl rfl
  have hr2 := (setCell_other (i := 2) (u := .bool true) hR).trans (box_new w #[.int .i64 0, .string ⟨#[]⟩, .string ⟨#[]⟩, .slice none 0 0, .string ⟨#[]⟩, .slice none 0 0, .int .i64 0] 50)
  rw [e2] at hS2 hF2 hr2
  obtain ⟨⟨_, _, x2, _, _, _, _⟩, hf⟩ := bxS h.box
  have f2 := hf 2
  have HS2 := Lib.hid hS2
  have HF2 := Lib.hid hF2
  have HR2 := Lib.hid hr2
  have I := Lib.hid (inStanza_any N P (plus v w.heap.size) { s with begun := true } _ hS2 true hb)
  clear h hi hS1 e2 hS2 hF2 hr2 hf hb htk hn hn2 hsz h1 h2 h3 hT hlz k0 l2 k1 h4 h6
  go_enter Tryz.func46, Tryz.ntmps46
  go_wp2_with fail
  refine I.out.mono ?_
  rintro r w1 ⟨rfl, rfl⟩
  generalize (w.setCell ⟨P, 2, none⟩ (.bool true)).alloc (.cells #[.int .i64 0, .string ⟨#[]⟩, .string ⟨#[]⟩, .slice none 0 0, .string ⟨#[]⟩, .slice none 0 0, .int .i64 0] 50) = W2 at HS2 HF2 HR2 ⊢
  clear I x2 f2
  obtain ⟨⟨_, _, _, _, x4, _, _⟩, hf⟩ := bxS HS2.out.box
  have f4 := hf 4
  clear hf
  have hbx := HS2.out.boxed (w' := W2.setCell ⟨P, 4, none⟩ (.int .i64 (n : Int))) (s' := took s t.data.toList) (ow_box _ P 4 _) (by rw [← HN.out]; exact setCell_heap HS2.out.box rfl) rfl rfl
  have HS5 := Lib.hid hbx.1
  have HF5 := Lib.hid (HF2.out.trans hbx.2)
  have HR5 := Lib.hid ((setCell_other (i := 4) (u := .int .i64 (n : Int)) hR).trans HR2.out)
  clear hbx
  go_wp2_with fail
  generalize W2.setCell ⟨P, 4, none⟩ (.int .i64 (n : Int)) = W5 at HS5 HF5 HR5 ⊢
  clear HS2 HF2 HR2 x4 f4
  refine (CK.out _).mono ?_
  rintro r w6 ⟨rfl, hb⟩
  have HS6 := Lib.hid (HS5.out.below hb)
  have HF6 := Lib.hid (HF5.out.trans (Fr.below hb))
  have HR6 := Lib.hid ((hb.block _ (heap_lt HR5.out)).trans HR5.out)
  clear hb CK HS5 HF5 HR5
  go_wp2_with fail
  refine (PR.out _).mono ?_
  rintro r w7 ⟨rfl, hb⟩
  have HS7 := Lib.hid (HS6.out.below hb)
  have HF7 := Lib.hid (HF6.out.trans (Fr.below hb))
  have HR7 := Lib.hid ((hb.block _ (heap_lt HR6.out)).trans HR6.out)
  clear hb PR HS6 HF6 HR6
  obtain ⟨z0, z1, z2, z3, z4, z5, z6⟩ := bx7 HR7.out
  have fz := bx7e HR7.out
  have fz0 := fz 0
  have fz1 := fz 1
  have fz2 := fz 2
  have fz3 := fz 3
  have fz4 := fz 4
  have fz5 := fz 5
  have fz6 := fz 6
  clear fz
  go_wp2_with fail
  refine bodyPost_ret (v := .tuple #[(.agg #[.int .i64 0, .string ⟨#[]⟩, .string ⟨#[]⟩, .slice none 0 0, .string ⟨#[]⟩, .slice none 0 0, .int .i64 0]), .int .i64 0]) (by simp [results, Tryz.results46, go_sem, z0, z1, z2, z3, z4, z5, z6]) rfl ?_
  exact ResP.inn HS.out ((Below.refl _ w).alloc (Nat.le_refl _) _) (Nat.le_refl _) HF7.out (by rw [T.out]; exact ⟨fun _ => HS7.out, fun hc => by have hc : s.over = true := hc; rw [HI.out.over] at hc; cases hc⟩) (by rw [T.out]; exact EvS.zero _ _ 0 0) ((Ow.refl _ _).set7s _ _ _ _ _ _ _) (by rw [T.out]; rfl)
set_option maxRecDepth 100000 in
set_option maxHeartbeats 8000000 in
theorem take_pro_f (N P : Nat) (v : Vw) (s : St) (t : ByteArray) (w : World) (h : Sc N P v w s) (hi : Iv s) (ht : t.size ≤ 1048576) (htk : Tok t.data.toList) (hb : decide (1 < s.os.length) = false) (h1 : ¬ 16384 < (took s t.data.toList).size) (h2 : isTx t.data.toList = true) {cs : List Nat} (hT : Sg.IsT t.data.toList cs) (h3 : Sg.nb t.data.toList 0 = 60) (h4 : Sg.nb t.data.toList 1 = 63) (h5 : s.begun = false) (h6 : prologue t.data.toList = true) :
    Calls Tryz.prog 46 #[.pointer (some ⟨P, 0, none⟩), .string t] w (ResP N P v w (Sn.take s t.data.toList)) := by
  have T := Lib.hid (tk_pro h1 h2 h3 h4 h5 h6)
  have CK := Lib.hid (fun W => check_yes t W ht hT)
  have HTS := Lib.hid ht
  have hlz := By.len_size t
  have p0 : 0 < t.size := by
    rw [← hlz]
    exact List.length_pos_iff.2 htk.ne
  have i0 : (0 : Int) < (t.size : Int) := by omega
  have b0 := By.byte_nb t 0 p0
  have k0 : By.nb t.data.toList 0 = Sg.nb t.data.toList 0 := rfl
  rw [k0] at b0
  rw [h3] at b0
  have l2 := (htk.tag h3).1
  have p1 : 1 < t.size := by rw [← hlz]; exact l2
  have i1 : (1 : Int) < (t.size : Int) := by omega
  have b1 := By.byte_nb t 1 p1
  have k1 : By.nb t.data.toList 1 = Sg.nb t.data.toList 1 := rfl
  rw [k1] at b1
  have PR := Lib.hid (fun W => isPrologue_any t W ht)
  rw [h6] at PR
  rw [h4] at b1
  have HS := Lib.hid h
  have HI := Lib.hid hi
  have hPl := h.boxlt
  obtain ⟨n, hn⟩ : ∃ n, (took s t.data.toList).size = n := ⟨_, rfl⟩
  have hn2 : n = t.size := by
    rw [← hn]
    show (if 1 < s.os.length then s.size else 0) + t.data.toList.length = _
    rw [By.len_size]
    have hb := hb
    simp only [decide_eq_false_iff_not] at hb
    rw [if_neg hb, Nat.zero_add]
  have hsz := hi.size
  have g1 : IntKind.i64.wrap (0 + (t.size : Int)) = (n : Int) := by rw [IntWalk.i64_in _ (by omega)]; omega
  have g1' : IntKind.i64.wrap (t.size : Int) = (n : Int) := by rw [IntWalk.i64_in _ (by omega)]; omega
  have g6 : ¬ ((16384 : Int) < (n : Int)) := by rw [hn] at h1; omega
  have g7 : decide ((16384 : Int) < (n : Int)) = false := by rw [decide_eq_false_iff_not]; exact g6
  have HN := Lib.hid hn
  have hR : w.heap.size ≠ P := by omega
  obtain ⟨hS1, _⟩ := h.addFar (R := w.heap.size) ((Below.refl _ w).alloc (Nat.le_refl _) (.cells #[.int .i64 0, .string ⟨#[]⟩, .string ⟨#[]⟩, .slice none 0 0, .string ⟨#[]⟩, .slice none 0 0, .int .i64 0] 50)) (Nat.le_refl _) (by simp)
  have e2 := World.setCell_alloc_past (w := w) (.cells #[.int .i64 0, .string ⟨#[]⟩, .string ⟨#[]⟩, .slice none 0 0, .string ⟨#[]⟩, .slice none 0 0, .int .i64 0] 50) P 2 (.bool true) hPl
  obtain ⟨hS2, hF2⟩ := hS1.boxed (s' := { s with begun := true }) (ow_box _ P 2 _) (setCell_heap hS1.box rfl) rfl rfl
  have hr2 := (setCell_other (i := 2) (u := .bool true) hR).trans (box_new w #[.int .i64 0, .string ⟨#[]⟩, .string ⟨#[]⟩, .slice none 0 0, .string ⟨#[]⟩, .slice none 0 0, .int .i64 0] 50)
  rw [e2] at hS2 hF2 hr2
  obtain ⟨⟨_, _, x2, _, _, _, _⟩, hf⟩ := bxS h.box
  have f2 := hf 2
  have HS2 := Lib.hid hS2
  have HF2 := Lib.hid hF2
  have HR2 := Lib.hid hr2
  have I := Lib.hid (inStanza_any N P (plus v w.heap.size) { s with begun := true } _ hS2 false hb)
  clear h hi hS1 e2 hS2 hF2 hr2 hf hb htk hn hn2 hsz h1 h2 h3 hT hlz k0 l2 k1 h4 h6
  go_enter Tryz.func46, Tryz.ntmps46
  go_wp2_with fail
  refine I.out.mono ?_
  rintro r w1 ⟨rfl, rfl⟩
  generalize (w.setCell ⟨P, 2, none⟩ (.bool true)).alloc (.cells #[.int .i64 0, .string ⟨#[]⟩, .string ⟨#[]⟩, .slice none 0 0, .string ⟨#[]⟩, .slice none 0 0, .int .i64 0] 50) = W2 at HS2 HF2 HR2 ⊢
  clear I x2 f2
  obtain ⟨⟨_, _, _, _, x4, _, _⟩, hf⟩ := bxS HS2.out.box
  have f4 := hf 4
  clear hf
  have hb1 := HS2.out.boxed (w' := W2.setCell ⟨P, 4, none⟩ (.int .i64 0)) (s' := { s with begun := true, size := 0 }) (ow_box _ P 4 _) (setCell_heap HS2.out.box rfl) rfl rfl
  have hbx := hb1.1.boxed (w' := (W2.setCell ⟨P, 4, none⟩ (.int .i64 0)).setCell ⟨P, 4, none⟩ (.int .i64 (n : Int))) (s' := took s t.data.toList) (ow_box _ P 4 _) (by rw [← HN.out]; exact setCell_heap hb1.1.box rfl) rfl rfl
  have HS5 := Lib.hid hbx.1
  have HF5 := Lib.hid ((HF2.out.trans hb1.2).trans hbx.2)
  have HR5 := Lib.hid ((setCell_other (i := 4) (u := .int .i64 (n : Int)) hR).trans ((setCell_other (i := 4) (u := .int .i64 0) hR).trans HR2.out))
  clear hbx hb1
  go_wp2_with fail
  generalize (W2.setCell ⟨P, 4, none⟩ (.int .i64 0)).setCell ⟨P, 4, none⟩ (.int .i64 (n : Int)) = W5 at HS5 HF5 HR5 ⊢
  clear HS2 HF2 HR2 x4 f4
  refine (CK.out _).mono ?_
  rintro r w6 ⟨rfl, hb⟩
  have HS6 := Lib.hid (HS5.out.below hb)
  have HF6 := Lib.hid (HF5.out.trans (Fr.below hb))
  have HR6 := Lib.hid ((hb.block _ (heap_lt HR5.out)).trans HR5.out)
  clear hb CK HS5 HF5 HR5
  go_wp2_with fail
  refine (PR.out _).mono ?_
  rintro r w7 ⟨rfl, hb⟩
  have HS7 := Lib.hid (HS6.out.below hb)
  have HF7 := Lib.hid (HF6.out.trans (Fr.below hb))
  have HR7 := Lib.hid ((hb.block _ (heap_lt HR6.out)).trans HR6.out)
  clear hb PR HS6 HF6 HR6
  obtain ⟨z0, z1, z2, z3, z4, z5, z6⟩ := bx7 HR7.out
  have fz := bx7e HR7.out
  have fz0 := fz 0
  have fz1 := fz 1
  have fz2 := fz 2
  have fz3 := fz 3
  have fz4 := fz 4
  have fz5 := fz 5
  have fz6 := fz 6
  clear fz
  go_wp2_with fail
  refine bodyPost_ret (v := .tuple #[(.agg #[.int .i64 0, .string ⟨#[]⟩, .string ⟨#[]⟩, .slice none 0 0, .string ⟨#[]⟩, .slice none 0 0, .int .i64 0]), .int .i64 0]) (by simp [results, Tryz.results46, go_sem, z0, z1, z2, z3, z4, z5, z6]) rfl ?_
  exact ResP.inn HS.out ((Below.refl _ w).alloc (Nat.le_refl _) _) (Nat.le_refl _) HF7.out (by rw [T.out]; exact ⟨fun _ => HS7.out, fun hc => by have hc : s.over = true := hc; rw [HI.out.over] at hc; cases hc⟩) (by rw [T.out]; exact EvS.zero _ _ 0 0) ((Ow.refl _ _).set7s _ _ _ _ _ _ _) (by rw [T.out]; rfl)
set_option maxRecDepth 100000 in
set_option maxHeartbeats 8000000 in
theorem take_nev1_t (N P : Nat) (v : Vw) (s : St) (t : ByteArray) (w : World) (h : Sc N P v w s) (hi : Iv s) (ht : t.size ≤ 1048576) (htk : Tok t.data.toList) (hb : decide (1 < s.os.length) = true) (h1 : ¬ 16384 < (took s t.data.toList).size) (h2 : isTx t.data.toList = true) {cs : List Nat} (hT : Sg.IsT t.data.toList cs) (h3 : Sg.nb t.data.toList 0 = 60) (h4 : Sg.nb t.data.toList 1 = 63) (h5 : s.begun = false) (h6 : prologue t.data.toList = false) :
    Calls Tryz.prog 46 #[.pointer (some ⟨P, 0, none⟩), .string t] w (ResP N P v w (Sn.take s t.data.toList)) := by
  have T := Lib.hid (tk_nev h1 h2 h3 h4 (fun hc => by rw [h6] at hc; cases hc.2))
  have CK := Lib.hid (fun W => check_yes t W ht hT)
  have HTS := Lib.hid ht
  have hlz := By.len_size t
  have p0 : 0 < t.size := by
    rw [← hlz]
    exact List.length_pos_iff.2 htk.ne
  have i0 : (0 : Int) < (t.size : Int) := by omega
  have b0 := By.byte_nb t 0 p0
  have k0 : By.nb t.data.toList 0 = Sg.nb t.data.toList 0 := rfl
  rw [k0] at b0
  rw [h3] at b0
  have l2 := (htk.tag h3).1
  have p1 : 1 < t.size := by rw [← hlz]; exact l2
  have i1 : (1 : Int) < (t.size : Int) := by omega
  have b1 := By.byte_nb t 1 p1
  have k1 : By.nb t.data.toList 1 = Sg.nb t.data.toList 1 := rfl
  rw [k1] at b1
  have PR := Lib.hid (fun W => isPrologue_any t W ht)
  rw [h6] at PR
  rw [h4] at b1
  have HS := Lib.hid h
  have HI := Lib.hid hi
  have hPl := h.boxlt
  obtain ⟨n, hn⟩ : ∃ n, (took s t.data.toList).size = n := ⟨_, rfl⟩
  have hn2 : n = s.size + t.size := by
    rw [← hn]
    show (if 1 < s.os.length then s.size else 0) + t.data.toList.length = _
    rw [By.len_size]
    have hb := hb
    simp only [decide_eq_true_eq] at hb
    rw [if_pos hb]
  have hsz := hi.size
  have g1 : IntKind.i64.wrap ((s.size : Int) + (t.size : Int)) = (n : Int) := by rw [IntWalk.i64_in _ (by omega)]; omega
  have g6 : ¬ ((16384 : Int) < (n : Int)) := by rw [hn] at h1; omega
  have g7 : decide ((16384 : Int) < (n : Int)) = false := by rw [decide_eq_false_iff_not]; exact g6
  have HN := Lib.hid hn
  have hR : w.heap.size ≠ P := by omega
  obtain ⟨hS1, _⟩ := h.addFar (R := w.heap.size) ((Below.refl _ w).alloc (Nat.le_refl _) (.cells #[.int .i64 0, .string ⟨#[]⟩, .string ⟨#[]⟩, .slice none 0 0, .string ⟨#[]⟩, .slice none 0 0, .int .i64 0] 50)) (Nat.le_refl _) (by simp)
  have e2 := World.setCell_alloc_past (w := w) (.cells #[.int .i64 0, .string ⟨#[]⟩, .string ⟨#[]⟩, .slice none 0 0, .string ⟨#[]⟩, .slice none 0 0, .int .i64 0] 50) P 2 (.bool true) hPl
  obtain ⟨hS2, hF2⟩ := hS1.boxed (s' := { s with begun := true }) (ow_box _ P 2 _) (setCell_heap hS1.box rfl) rfl rfl
  have hr2 := (setCell_other (i := 2) (u := .bool true) hR).trans (box_new w #[.int .i64 0, .string ⟨#[]⟩, .string ⟨#[]⟩, .slice none 0 0, .string ⟨#[]⟩, .slice none 0 0, .int .i64 0] 50)
  rw [e2] at hS2 hF2 hr2
  obtain ⟨⟨_, _, x2, _, _, _, _⟩, hf⟩ := bxS h.box
  have f2 := hf 2
  have HS2 := Lib.hid hS2
  have HF2 := Lib.hid hF2
  have HR2 := Lib.hid hr2
  have I := Lib.hid (inStanza_any N P (plus v w.heap.size) { s with begun := true } _ hS2 true hb)
  clear h hi hS1 e2 hS2 hF2 hr2 hf hb htk hn hn2 hsz h1 h2 h3 hT hlz k0 l2 k1 h4 h6
  go_enter Tryz.func46, Tryz.ntmps46
  go_wp2_with fail
  refine I.out.mono ?_
  rintro r w1 ⟨rfl, rfl⟩
  generalize (w.setCell ⟨P, 2, none⟩ (.bool true)).alloc (.cells #[.int .i64 0, .string ⟨#[]⟩, .string ⟨#[]⟩, .slice none 0 0, .string ⟨#[]⟩, .slice none 0 0, .int .i64 0] 50) = W2 at HS2 HF2 HR2 ⊢
  clear I x2 f2
  obtain ⟨⟨_, _, _, _, x4, _, _⟩, hf⟩ := bxS HS2.out.box
  have f4 := hf 4
  clear hf
  have hbx := HS2.out.boxed (w' := W2.setCell ⟨P, 4, none⟩ (.int .i64 (n : Int))) (s' := took s t.data.toList) (ow_box _ P 4 _) (by rw [← HN.out]; exact setCell_heap HS2.out.box rfl) rfl rfl
  have HS5 := Lib.hid hbx.1
  have HF5 := Lib.hid (HF2.out.trans hbx.2)
  have HR5 := Lib.hid ((setCell_other (i := 4) (u := .int .i64 (n : Int)) hR).trans HR2.out)
  clear hbx
  go_wp2_with fail
  generalize W2.setCell ⟨P, 4, none⟩ (.int .i64 (n : Int)) = W5 at HS5 HF5 HR5 ⊢
  clear HS2 HF2 HR2 x4 f4
  refine (CK.out _).mono ?_
  rintro r w6 ⟨rfl, hb⟩
  have HS6 := Lib.hid (HS5.out.below hb)
  have HF6 := Lib.hid (HF5.out.trans (Fr.below hb))
  have HR6 := Lib.hid ((hb.block _ (heap_lt HR5.out)).trans HR5.out)
  clear hb CK HS5 HF5 HR5
  go_wp2_with fail
  refine (PR.out _).mono ?_
  rintro r w7 ⟨rfl, hb⟩
  have HS7 := Lib.hid (HS6.out.below hb)
  have HF7 := Lib.hid (HF6.out.trans (Fr.below hb))
  have HR7 := Lib.hid ((hb.block _ (heap_lt HR6.out)).trans HR6.out)
  clear hb PR HS6 HF6 HR6
  obtain ⟨z0, z1, z2, z3, z4, z5, z6⟩ := bx7 HR7.out
  have fz := bx7e HR7.out
  have fz0 := fz 0
  have fz1 := fz 1
  have fz2 := fz 2
  have fz3 := fz 3
  have fz4 := fz 4
  have fz5 := fz 5
  have fz6 := fz 6
  clear fz
  go_wp2_with fail
  refine bodyPost_ret (v := .tuple #[(.agg #[.int .i64 0, .string ⟨#[]⟩, .string ⟨#[]⟩, .slice none 0 0, .string ⟨#[]⟩, .slice none 0 0, .int .i64 0]), .int .i64 61]) (by simp [results, Tryz.results46, go_sem, z0, z1, z2, z3, z4, z5, z6]) rfl ?_
  exact ResP.inn HS.out ((Below.refl _ w).alloc (Nat.le_refl _) _) (Nat.le_refl _) HF7.out (by rw [T.out]; exact ⟨fun _ => HS7.out, fun hc => by have hc : s.over = true := hc; rw [HI.out.over] at hc; cases hc⟩) (by rw [T.out]; exact EvS.zero _ _ 0 0) ((Ow.refl _ _).set7s _ _ _ _ _ _ _) (by rw [T.out]; rfl)
set_option maxRecDepth 100000 in
set_option maxHeartbeats 8000000 in
theorem take_nev1_f (N P : Nat) (v : Vw) (s : St) (t : ByteArray) (w : World) (h : Sc N P v w s) (hi : Iv s) (ht : t.size ≤ 1048576) (htk : Tok t.data.toList) (hb : decide (1 < s.os.length) = false) (h1 : ¬ 16384 < (took s t.data.toList).size) (h2 : isTx t.data.toList = true) {cs : List Nat} (hT : Sg.IsT t.data.toList cs) (h3 : Sg.nb t.data.toList 0 = 60) (h4 : Sg.nb t.data.toList 1 = 63) (h5 : s.begun = false) (h6 : prologue t.data.toList = false) :
    Calls Tryz.prog 46 #[.pointer (some ⟨P, 0, none⟩), .string t] w (ResP N P v w (Sn.take s t.data.toList)) := by
  have T := Lib.hid (tk_nev h1 h2 h3 h4 (fun hc => by rw [h6] at hc; cases hc.2))
  have CK := Lib.hid (fun W => check_yes t W ht hT)
  have HTS := Lib.hid ht
  have hlz := By.len_size t
  have p0 : 0 < t.size := by
    rw [← hlz]
    exact List.length_pos_iff.2 htk.ne
  have i0 : (0 : Int) < (t.size : Int) := by omega
  have b0 := By.byte_nb t 0 p0
  have k0 : By.nb t.data.toList 0 = Sg.nb t.data.toList 0 := rfl
  rw [k0] at b0
  rw [h3] at b0
  have l2 := (htk.tag h3).1
  have p1 : 1 < t.size := by rw [← hlz]; exact l2
  have i1 : (1 : Int) < (t.size : Int) := by omega
  have b1 := By.byte_nb t 1 p1
  have k1 : By.nb t.data.toList 1 = Sg.nb t.data.toList 1 := rfl
  rw [k1] at b1
  have PR := Lib.hid (fun W => isPrologue_any t W ht)
  rw [h6] at PR
  rw [h4] at b1
  have HS := Lib.hid h
  have HI := Lib.hid hi
  have hPl := h.boxlt
  obtain ⟨n, hn⟩ : ∃ n, (took s t.data.toList).size = n := ⟨_, rfl⟩
  have hn2 : n = t.size := by
    rw [← hn]
    show (if 1 < s.os.length then s.size else 0) + t.data.toList.length = _
    rw [By.len_size]
    have hb := hb
    simp only [decide_eq_false_iff_not] at hb
    rw [if_neg hb, Nat.zero_add]
  have hsz := hi.size
  have g1 : IntKind.i64.wrap (0 + (t.size : Int)) = (n : Int) := by rw [IntWalk.i64_in _ (by omega)]; omega
  have g1' : IntKind.i64.wrap (t.size : Int) = (n : Int) := by rw [IntWalk.i64_in _ (by omega)]; omega
  have g6 : ¬ ((16384 : Int) < (n : Int)) := by rw [hn] at h1; omega
  have g7 : decide ((16384 : Int) < (n : Int)) = false := by rw [decide_eq_false_iff_not]; exact g6
  have HN := Lib.hid hn
  have hR : w.heap.size ≠ P := by omega
  obtain ⟨hS1, _⟩ := h.addFar (R := w.heap.size) ((Below.refl _ w).alloc (Nat.le_refl _) (.cells #[.int .i64 0, .string ⟨#[]⟩, .string ⟨#[]⟩, .slice none 0 0, .string ⟨#[]⟩, .slice none 0 0, .int .i64 0] 50)) (Nat.le_refl _) (by simp)
  have e2 := World.setCell_alloc_past (w := w) (.cells #[.int .i64 0, .string ⟨#[]⟩, .string ⟨#[]⟩, .slice none 0 0, .string ⟨#[]⟩, .slice none 0 0, .int .i64 0] 50) P 2 (.bool true) hPl
  obtain ⟨hS2, hF2⟩ := hS1.boxed (s' := { s with begun := true }) (ow_box _ P 2 _) (setCell_heap hS1.box rfl) rfl rfl
  have hr2 := (setCell_other (i := 2) (u := .bool true) hR).trans (box_new w #[.int .i64 0, .string ⟨#[]⟩, .string ⟨#[]⟩, .slice none 0 0, .string ⟨#[]⟩, .slice none 0 0, .int .i64 0] 50)
  rw [e2] at hS2 hF2 hr2
  obtain ⟨⟨_, _, x2, _, _, _, _⟩, hf⟩ := bxS h.box
  have f2 := hf 2
  have HS2 := Lib.hid hS2
  have HF2 := Lib.hid hF2
  have HR2 := Lib.hid hr2
  have I := Lib.hid (inStanza_any N P (plus v w.heap.size) { s with begun := true } _ hS2 false hb)
  clear h hi hS1 e2 hS2 hF2 hr2 hf hb htk hn hn2 hsz h1 h2 h3 hT hlz k0 l2 k1 h4 h6
  go_enter Tryz.func46, Tryz.ntmps46
  go_wp2_with fail
  refine I.out.mono ?_
  rintro r w1 ⟨rfl, rfl⟩
  generalize (w.setCell ⟨P, 2, none⟩ (.bool true)).alloc (.cells #[.int .i64 0, .string ⟨#[]⟩, .string ⟨#[]⟩, .slice none 0 0, .string ⟨#[]⟩, .slice none 0 0, .int .i64 0] 50) = W2 at HS2 HF2 HR2 ⊢
  clear I x2 f2
  obtain ⟨⟨_, _, _, _, x4, _, _⟩, hf⟩ := bxS HS2.out.box
  have f4 := hf 4
  clear hf
  have hb1 := HS2.out.boxed (w' := W2.setCell ⟨P, 4, none⟩ (.int .i64 0)) (s' := { s with begun := true, size := 0 }) (ow_box _ P 4 _) (setCell_heap HS2.out.box rfl) rfl rfl
  have hbx := hb1.1.boxed (w' := (W2.setCell ⟨P, 4, none⟩ (.int .i64 0)).setCell ⟨P, 4, none⟩ (.int .i64 (n : Int))) (s' := took s t.data.toList) (ow_box _ P 4 _) (by rw [← HN.out]; exact setCell_heap hb1.1.box rfl) rfl rfl
  have HS5 := Lib.hid hbx.1
  have HF5 := Lib.hid ((HF2.out.trans hb1.2).trans hbx.2)
  have HR5 := Lib.hid ((setCell_other (i := 4) (u := .int .i64 (n : Int)) hR).trans ((setCell_other (i := 4) (u := .int .i64 0) hR).trans HR2.out))
  clear hbx hb1
  go_wp2_with fail
  generalize (W2.setCell ⟨P, 4, none⟩ (.int .i64 0)).setCell ⟨P, 4, none⟩ (.int .i64 (n : Int)) = W5 at HS5 HF5 HR5 ⊢
  clear HS2 HF2 HR2 x4 f4
  refine (CK.out _).mono ?_
  rintro r w6 ⟨rfl, hb⟩
  have HS6 := Lib.hid (HS5.out.below hb)
  have HF6 := Lib.hid (HF5.out.trans (Fr.below hb))
  have HR6 := Lib.hid ((hb.block _ (heap_lt HR5.out)).trans HR5.out)
  clear hb CK HS5 HF5 HR5
  go_wp2_with fail
  refine (PR.out _).mono ?_
  rintro r w7 ⟨rfl, hb⟩
  have HS7 := Lib.hid (HS6.out.below hb)
  have HF7 := Lib.hid (HF6.out.trans (Fr.below hb))
  have HR7 := Lib.hid ((hb.block _ (heap_lt HR6.out)).trans HR6.out)
  clear hb PR HS6 HF6 HR6
  obtain ⟨z0, z1, z2, z3, z4, z5, z6⟩ := bx7 HR7.out
  have fz := bx7e HR7.out
  have fz0 := fz 0
  have fz1 := fz 1
  have fz2 := fz 2
  have fz3 := fz 3
  have fz4 := fz 4
  have fz5 := fz 5
  have fz6 := fz 6
  clear fz
  go_wp2_with fail
  refine bodyPost_ret (v := .tuple #[(.agg #[.int .i64 0, .string ⟨#[]⟩, .string ⟨#[]⟩, .slice none 0 0, .string ⟨#[]⟩, .slice none 0 0, .int .i64 0]), .int .i64 61]) (by simp [results, Tryz.results46, go_sem, z0, z1, z2, z3, z4, z5, z6]) rfl ?_
  exact ResP.inn HS.out ((Below.refl _ w).alloc (Nat.le_refl _) _) (Nat.le_refl _) HF7.out (by rw [T.out]; exact ⟨fun _ => HS7.out, fun hc => by have hc : s.over = true := hc; rw [HI.out.over] at hc; cases hc⟩) (by rw [T.out]; exact EvS.zero _ _ 0 0) ((Ow.refl _ _).set7s _ _ _ _ _ _ _) (by rw [T.out]; rfl)
set_option maxRecDepth 100000 in
set_option maxHeartbeats 8000000 in
theorem take_nev2_t (N P : Nat) (v : Vw) (s : St) (t : ByteArray) (w : World) (h : Sc N P v w s) (hi : Iv s) (ht : t.size ≤ 1048576) (htk : Tok t.data.toList) (hb : decide (1 < s.os.length) = true) (h1 : ¬ 16384 < (took s t.data.toList).size) (h2 : isTx t.data.toList = true) {cs : List Nat} (hT : Sg.IsT t.data.toList cs) (h3 : Sg.nb t.data.toList 0 = 60) (h4 : Sg.nb t.data.toList 1 = 63) (h5 : s.begun = true) :
    Calls Tryz.prog 46 #[.pointer (some ⟨P, 0, none⟩), .string t] w (ResP N P v w (Sn.take s t.data.toList)) := by
  have T := Lib.hid (tk_nev h1 h2 h3 h4 (fun hc => by rw [h5] at hc; cases hc.1))
  have CK := Lib.hid (fun W => check_yes t W ht hT)
  have HTS := Lib.hid ht
  have hlz := By.len_size t
  have p0 : 0 < t.size := by
    rw [← hlz]
    exact List.length_pos_iff.2 htk.ne
  have i0 : (0 : Int) < (t.size : Int) := by omega
  have b0 := By.byte_nb t 0 p0
  have k0 : By.nb t.data.toList 0 = Sg.nb t.data.toList 0 := rfl
  rw [k0] at b0
  rw [h3] at b0
  have l2 := (htk.tag h3).1
  have p1 : 1 < t.size := by rw [← hlz]; exact l2
  have i1 : (1 : Int) < (t.size : Int) := by omega
  have b1 := By.byte_nb t 1 p1
  have k1 : By.nb t.data.toList 1 = Sg.nb t.data.toList 1 := rfl
  rw [k1] at b1
  rw [h4] at b1
  have HS := Lib.hid h
  have HI := Lib.hid hi
  have hPl := h.boxlt
  obtain ⟨n, hn⟩ : ∃ n, (took s t.data.toList).size = n := ⟨_, rfl⟩
  have hn2 : n = s.size + t.size := by
    rw [← hn]
    show (if 1 < s.os.length then s.size else 0) + t.data.toList.length = _
    rw [By.len_size]
    have hb := hb
    simp only [decide_eq_true_eq] at hb
    rw [if_pos hb]
  have hsz := hi.size
  have g1 : IntKind.i64.wrap ((s.size : Int) + (t.size : Int)) = (n : Int) := by rw [IntWalk.i64_in _ (by omega)]; omega
  have g6 : ¬ ((16384 : Int) < (n : Int)) := by rw [hn] at h1; omega
  have g7 : decide ((16384 : Int) < (n : Int)) = false := by rw [decide_eq_false_iff_not]; exact g6
  have HN := Lib.hid hn
  have hR : w.heap.size ≠ P := by omega
  obtain ⟨hS1, _⟩ := h.addFar (R := w.heap.size) ((Below.refl _ w).alloc (Nat.le_refl _) (.cells #[.int .i64 0, .string ⟨#[]⟩, .string ⟨#[]⟩, .slice none 0 0, .string ⟨#[]⟩, .slice none 0 0, .int .i64 0] 50)) (Nat.le_refl _) (by simp)
  have e2 := World.setCell_alloc_past (w := w) (.cells #[.int .i64 0, .string ⟨#[]⟩, .string ⟨#[]⟩, .slice none 0 0, .string ⟨#[]⟩, .slice none 0 0, .int .i64 0] 50) P 2 (.bool true) hPl
  obtain ⟨hS2, hF2⟩ := hS1.boxed (s' := { s with begun := true }) (ow_box _ P 2 _) (setCell_heap hS1.box rfl) rfl rfl
  have hr2 := (setCell_other (i := 2) (u := .bool true) hR).trans (box_new w #[.int .i64 0, .string ⟨#[]⟩, .string ⟨#[]⟩, .slice none 0 0, .string ⟨#[]⟩, .slice none 0 0, .int .i64 0] 50)
  rw [e2] at hS2 hF2 hr2
  obtain ⟨⟨_, _, x2, _, _, _, _⟩, hf⟩ := bxS h.box
  have f2 := hf 2
  have HS2 := Lib.hid hS2
  have HF2 := Lib.hid hF2
  have HR2 := Lib.hid hr2
  have I := Lib.hid (inStanza_any N P (plus v w.heap.size) { s with begun := true } _ hS2 true hb)
  clear h hi hS1 e2 hS2 hF2 hr2 hf hb htk hn hn2 hsz h1 h2 h3 hT hlz k0 l2 k1 h4
  go_enter Tryz.func46, Tryz.ntmps46
  go_wp2_with fail
  refine I.out.mono ?_
  rintro r w1 ⟨rfl, rfl⟩
  generalize (w.setCell ⟨P, 2, none⟩ (.bool true)).alloc (.cells #[.int .i64 0, .string ⟨#[]⟩, .string ⟨#[]⟩, .slice none 0 0, .string ⟨#[]⟩, .slice none 0 0, .int .i64 0] 50) = W2 at HS2 HF2 HR2 ⊢
  clear I x2 f2
  obtain ⟨⟨_, _, _, _, x4, _, _⟩, hf⟩ := bxS HS2.out.box
  have f4 := hf 4
  clear hf
  have hbx := HS2.out.boxed (w' := W2.setCell ⟨P, 4, none⟩ (.int .i64 (n : Int))) (s' := took s t.data.toList) (ow_box _ P 4 _) (by rw [← HN.out]; exact setCell_heap HS2.out.box rfl) rfl rfl
  have HS5 := Lib.hid hbx.1
  have HF5 := Lib.hid (HF2.out.trans hbx.2)
  have HR5 := Lib.hid ((setCell_other (i := 4) (u := .int .i64 (n : Int)) hR).trans HR2.out)
  clear hbx
  go_wp2_with fail
  generalize W2.setCell ⟨P, 4, none⟩ (.int .i64 (n : Int)) = W5 at HS5 HF5 HR5 ⊢
  clear HS2 HF2 HR2 x4 f4
  refine (CK.out _).mono ?_
  rintro r w6 ⟨rfl, hb⟩
  have HS6 := Lib.hid (HS5.out.below hb)
  have HF6 := Lib.hid (HF5.out.trans (Fr.below hb))
  have HR6 := Lib.hid ((hb.block _ (heap_lt HR5.out)).trans HR5.out)
  clear hb CK HS5 HF5 HR5
  obtain ⟨z0, z1, z2, z3, z4, z5, z6⟩ := bx7 HR6.out
  have fz := bx7e HR6.out
  have fz0 := fz 0
  have fz1 := fz 1
  have fz2 := fz 2
  have fz3 := fz 3
  have fz4 := fz 4
  have fz5 := fz 5
  have fz6 := fz 6
  clear fz
  go_wp2_with fail
  refine bodyPost_ret (v := .tuple #[(.agg #[.int .i64 0, .string ⟨#[]⟩, .string ⟨#[]⟩, .slice none 0 0, .string ⟨#[]⟩, .slice none 0 0, .int .i64 0]), .int .i64 61]) (by simp [results, Tryz.results46, go_sem, z0, z1, z2, z3, z4, z5, z6]) rfl ?_
  exact ResP.inn HS.out ((Below.refl _ w).alloc (Nat.le_refl _) _) (Nat.le_refl _) HF6.out (by rw [T.out]; exact ⟨fun _ => HS6.out, fun hc => by have hc : s.over = true := hc; rw [HI.out.over] at hc; cases hc⟩) (by rw [T.out]; exact EvS.zero _ _ 0 0) ((Ow.refl _ _).set7s _ _ _ _ _ _ _) (by rw [T.out]; rfl)
set_option maxRecDepth 100000 in
set_option maxHeartbeats 8000000 in
theorem take_nev2_f (N P : Nat) (v : Vw) (s : St) (t : ByteArray) (w : World) (h : Sc N P v w s) (hi : Iv s) (ht : t.size ≤ 1048576) (htk : Tok t.data.toList) (hb : decide (1 < s.os.length) = false) (h1 : ¬ 16384 < (took s t.data.toList).size) (h2 : isTx t.data.toList = true) {cs : List Nat} (hT : Sg.IsT t.data.toList cs) (h3 : Sg.nb t.data.toList 0 = 60) (h4 : Sg.nb t.data.toList 1 = 63) (h5 : s.begun = true) :
    Calls Tryz.prog 46 #[.pointer (some ⟨P, 0, none⟩), .string t] w (ResP N P v w (Sn.take s t.data.toList)) := by
  have T := Lib.hid (tk_nev h1 h2 h3 h4 (fun hc => by rw [h5] at hc; cases hc.1))
  have CK := Lib.hid (fun W => check_yes t W ht hT)
  have HTS := Lib.hid ht
  have hlz := By.len_size t
  have p0 : 0 < t.size := by
    rw [← hlz]
    exact List.length_pos_iff.2 htk.ne
  have i0 : (0 : Int) < (t.size : Int) := by omega
  have b0 := By.byte_nb t 0 p0
  have k0 : By.nb t.data.toList 0 = Sg.nb t.data.toList 0 := rfl
  rw [k0] at b0
  rw [h3] at b0
  have l2 := (htk.tag h3).1
  have p1 : 1 < t.size := by rw [← hlz]; exact l2
  have i1 : (1 : Int) < (t.size : Int) := by omega
  have b1 := By.byte_nb t 1 p1
  have k1 : By.nb t.data.toList 1 = Sg.nb t.data.toList 1 := rfl
  rw [k1] at b1
  rw [h4] at b1
  have HS := Lib.hid h
  have HI := Lib.hid hi
  have hPl := h.boxlt
  obtain ⟨n, hn⟩ : ∃ n, (took s t.data.toList).size = n := ⟨_, rfl⟩
  have hn2 : n = t.size := by
    rw [← hn]
    show (if 1 < s.os.length then s.size else 0) + t.data.toList.length = _
    rw [By.len_size]
    have hb := hb
    simp only [decide_eq_false_iff_not] at hb
    rw [if_neg hb, Nat.zero_add]
  have hsz := hi.size
  have g1 : IntKind.i64.wrap (0 + (t.size : Int)) = (n : Int) := by rw [IntWalk.i64_in _ (by omega)]; omega
  have g1' : IntKind.i64.wrap (t.size : Int) = (n : Int) := by rw [IntWalk.i64_in _ (by omega)]; omega
  have g6 : ¬ ((16384 : Int) < (n : Int)) := by rw [hn] at h1; omega
  have g7 : decide ((16384 : Int) < (n : Int)) = false := by rw [decide_eq_false_iff_not]; exact g6
  have HN := Lib.hid hn
  have hR : w.heap.size ≠ P := by omega
  obtain ⟨hS1, _⟩ := h.addFar (R := w.heap.size) ((Below.refl _ w).alloc (Nat.le_refl _) (.cells #[.int .i64 0, .string ⟨#[]⟩, .string ⟨#[]⟩, .slice none 0 0, .string ⟨#[]⟩, .slice none 0 0, .int .i64 0] 50)) (Nat.le_refl _) (by simp)
  have e2 := World.setCell_alloc_past (w := w) (.cells #[.int .i64 0, .string ⟨#[]⟩, .string ⟨#[]⟩, .slice none 0 0, .string ⟨#[]⟩, .slice none 0 0, .int .i64 0] 50) P 2 (.bool true) hPl
  obtain ⟨hS2, hF2⟩ := hS1.boxed (s' := { s with begun := true }) (ow_box _ P 2 _) (setCell_heap hS1.box rfl) rfl rfl
  have hr2 := (setCell_other (i := 2) (u := .bool true) hR).trans (box_new w #[.int .i64 0, .string ⟨#[]⟩, .string ⟨#[]⟩, .slice none 0 0, .string ⟨#[]⟩, .slice none 0 0, .int .i64 0] 50)
  rw [e2] at hS2 hF2 hr2
  obtain ⟨⟨_, _, x2, _, _, _, _⟩, hf⟩ := bxS h.box
  have f2 := hf 2
  have HS2 := Lib.hid hS2
  have HF2 := Lib.hid hF2
  have HR2 := Lib.hid hr2
  have I := Lib.hid (inStanza_any N P (plus v w.heap.size) { s with begun := true } _ hS2 false hb)
  clear h hi hS1 e2 hS2 hF2 hr2 hf hb htk hn hn2 hsz h1 h2 h3 hT hlz k0 l2 k1 h4
  go_enter Tryz.func46, Tryz.ntmps46
  go_wp2_with fail
  refine I.out.mono ?_
  rintro r w1 ⟨rfl, rfl⟩
  generalize (w.setCell ⟨P, 2, none⟩ (.bool true)).alloc (.cells #[.int .i64 0, .string ⟨#[]⟩, .string ⟨#[]⟩, .slice none 0 0, .string ⟨#[]⟩, .slice none 0 0, .int .i64 0] 50) = W2 at HS2 HF2 HR2 ⊢
  clear I x2 f2
  obtain ⟨⟨_, _, _, _, x4, _, _⟩, hf⟩ := bxS HS2.out.box
  have f4 := hf 4
  clear hf
  have hb1 := HS2.out.boxed (w' := W2.setCell ⟨P, 4, none⟩ (.int .i64 0)) (s' := { s with begun := true, size := 0 }) (ow_box _ P 4 _) (setCell_heap HS2.out.box rfl) rfl rfl
  have hbx := hb1.1.boxed (w' := (W2.setCell ⟨P, 4, none⟩ (.int .i64 0)).setCell ⟨P, 4, none⟩ (.int .i64 (n : Int))) (s' := took s t.data.toList) (ow_box _ P 4 _) (by rw [← HN.out]; exact setCell_heap hb1.1.box rfl) rfl rfl
  have HS5 := Lib.hid hbx.1
  have HF5 := Lib.hid ((HF2.out.trans hb1.2).trans hbx.2)
  have HR5 := Lib.hid ((setCell_other (i := 4) (u := .int .i64 (n : Int)) hR).trans ((setCell_other (i := 4) (u := .int .i64 0) hR).trans HR2.out))
  clear hbx hb1
  go_wp2_with fail
  generalize (W2.setCell ⟨P, 4, none⟩ (.int .i64 0)).setCell ⟨P, 4, none⟩ (.int .i64 (n : Int)) = W5 at HS5 HF5 HR5 ⊢
  clear HS2 HF2 HR2 x4 f4
  refine (CK.out _).mono ?_
  rintro r w6 ⟨rfl, hb⟩
  have HS6 := Lib.hid (HS5.out.below hb)
  have HF6 := Lib.hid (HF5.out.trans (Fr.below hb))
  have HR6 := Lib.hid ((hb.block _ (heap_lt HR5.out)).trans HR5.out)
  clear hb CK HS5 HF5 HR5
  obtain ⟨z0, z1, z2, z3, z4, z5, z6⟩ := bx7 HR6.out
  have fz := bx7e HR6.out
  have fz0 := fz 0
  have fz1 := fz 1
  have fz2 := fz 2
  have fz3 := fz 3
  have fz4 := fz 4
  have fz5 := fz 5
  have fz6 := fz 6
  clear fz
  go_wp2_with fail
  refine bodyPost_ret (v := .tuple #[(.agg #[.int .i64 0, .string ⟨#[]⟩, .string ⟨#[]⟩, .slice none 0 0, .string ⟨#[]⟩, .slice none 0 0, .int .i64 0]), .int .i64 61]) (by simp [results, Tryz.results46, go_sem, z0, z1, z2, z3, z4, z5, z6]) rfl ?_
  exact ResP.inn HS.out ((Below.refl _ w).alloc (Nat.le_refl _) _) (Nat.le_refl _) HF6.out (by rw [T.out]; exact ⟨fun _ => HS6.out, fun hc => by have hc : s.over = true := hc; rw [HI.out.over] at hc; cases hc⟩) (by rw [T.out]; exact EvS.zero _ _ 0 0) ((Ow.refl _ _).set7s _ _ _ _ _ _ _) (by rw [T.out]; rfl)
set_option maxRecDepth 100000 in
set_option maxHeartbeats 8000000 in
theorem take_exc_t (N P : Nat) (v : Vw) (s : St) (t : ByteArray) (w : World) (h : Sc N P v w s) (hi : Iv s) (ht : t.size ≤ 1048576) (htk : Tok t.data.toList) (hb : decide (1 < s.os.length) = true) (h1 : ¬ 16384 < (took s t.data.toList).size) (h2 : isTx t.data.toList = true) {cs : List Nat} (hT : Sg.IsT t.data.toList cs) (h3 : Sg.nb t.data.toList 0 = 60) (h4 : Sg.nb t.data.toList 1 = 33) :
    Calls Tryz.prog 46 #[.pointer (some ⟨P, 0, none⟩), .string t] w (ResP N P v w (Sn.take s t.data.toList)) := by
  have T := Lib.hid (tk_exc h1 h2 h3 h4)
  have CK := Lib.hid (fun W => check_yes t W ht hT)
  have HTS := Lib.hid ht
  have hlz := By.len_size t
  have p0 : 0 < t.size := by
    rw [← hlz]
    exact List.length_pos_iff.2 htk.ne
  have i0 : (0 : Int) < (t.size : Int) := by omega
  have b0 := By.byte_nb t 0 p0
  have k0 : By.nb t.data.toList 0 = Sg.nb t.data.toList 0 := rfl
  rw [k0] at b0
  rw [h3] at b0
  have l2 := (htk.tag h3).1
  have p1 : 1 < t.size := by rw [← hlz]; exact l2
  have i1 : (1 : Int) < (t.size : Int) := by omega
  have b1 := By.byte_nb t 1 p1
  have k1 : By.nb t.data.toList 1 = Sg.nb t.data.toList 1 := rfl
  rw [k1] at b1
  rw [h4] at b1
  have HS := Lib.hid h
  have HI := Lib.hid hi
  have hPl := h.boxlt
  obtain ⟨n, hn⟩ : ∃ n, (took s t.data.toList).size = n := ⟨_, rfl⟩
  have hn2 : n = s.size + t.size := by
    rw [← hn]
    show (if 1 < s.os.length then s.size else 0) + t.data.toList.length = _
    rw [By.len_size]
    have hb := hb
    simp only [decide_eq_true_eq] at hb
    rw [if_pos hb]
  have hsz := hi.size
  have g1 : IntKind.i64.wrap ((s.size : Int) + (t.size : Int)) = (n : Int) := by rw [IntWalk.i64_in _ (by omega)]; omega
  have g6 : ¬ ((16384 : Int) < (n : Int)) := by rw [hn] at h1; omega
  have g7 : decide ((16384 : Int) < (n : Int)) = false := by rw [decide_eq_false_iff_not]; exact g6
  have HN := Lib.hid hn
  have hR : w.heap.size ≠ P := by omega
  obtain ⟨hS1, _⟩ := h.addFar (R := w.heap.size) ((Below.refl _ w).alloc (Nat.le_refl _) (.cells #[.int .i64 0, .string ⟨#[]⟩, .string ⟨#[]⟩, .slice none 0 0, .string ⟨#[]⟩, .slice none 0 0, .int .i64 0] 50)) (Nat.le_refl _) (by simp)
  have e2 := World.setCell_alloc_past (w := w) (.cells #[.int .i64 0, .string ⟨#[]⟩, .string ⟨#[]⟩, .slice none 0 0, .string ⟨#[]⟩, .slice none 0 0, .int .i64 0] 50) P 2 (.bool true) hPl
  obtain ⟨hS2, hF2⟩ := hS1.boxed (s' := { s with begun := true }) (ow_box _ P 2 _) (setCell_heap hS1.box rfl) rfl rfl
  have hr2 := (setCell_other (i := 2) (u := .bool true) hR).trans (box_new w #[.int .i64 0, .string ⟨#[]⟩, .string ⟨#[]⟩, .slice none 0 0, .string ⟨#[]⟩, .slice none 0 0, .int .i64 0] 50)
  rw [e2] at hS2 hF2 hr2
  obtain ⟨⟨_, _, x2, _, _, _, _⟩, hf⟩ := bxS h.box
  have f2 := hf 2
  have HS2 := Lib.hid hS2
  have HF2 := Lib.hid hF2
  have HR2 := Lib.hid hr2
  have I := Lib.hid (inStanza_any N P (plus v w.heap.size) { s with begun := true } _ hS2 true hb)
  clear h hi hS1 e2 hS2 hF2 hr2 hf hb htk hn hn2 hsz h1 h2 h3 hT hlz k0 l2 k1 h4
  go_enter Tryz.func46, Tryz.ntmps46
  go_wp2_with fail
  refine I.out.mono ?_
  rintro r w1 ⟨rfl, rfl⟩
  generalize (w.setCell ⟨P, 2, none⟩ (.bool true)).alloc (.cells #[.int .i64 0, .string ⟨#[]⟩, .string ⟨#[]⟩, .slice none 0 0, .string ⟨#[]⟩, .slice none 0 0, .int .i64 0] 50) = W2 at HS2 HF2 HR2 ⊢
  clear I x2 f2
  obtain ⟨⟨_, _, _, _, x4, _, _⟩, hf⟩ := bxS HS2.out.box
  have f4 := hf 4
  clear hf
  have hbx := HS2.out.boxed (w' := W2.setCell ⟨P, 4, none⟩ (.int .i64 (n : Int))) (s' := took s t.data.toList) (ow_box _ P 4 _) (by rw [← HN.out]; exact setCell_heap HS2.out.box rfl) rfl rfl
  have HS5 := Lib.hid hbx.1
  have HF5 := Lib.hid (HF2.out.trans hbx.2)
  have HR5 := Lib.hid ((setCell_other (i := 4) (u := .int .i64 (n : Int)) hR).trans HR2.out)
  clear hbx
  go_wp2_with fail
  generalize W2.setCell ⟨P, 4, none⟩ (.int .i64 (n : Int)) = W5 at HS5 HF5 HR5 ⊢
  clear HS2 HF2 HR2 x4 f4
  refine (CK.out _).mono ?_
  rintro r w6 ⟨rfl, hb⟩
  have HS6 := Lib.hid (HS5.out.below hb)
  have HF6 := Lib.hid (HF5.out.trans (Fr.below hb))
  have HR6 := Lib.hid ((hb.block _ (heap_lt HR5.out)).trans HR5.out)
  clear hb CK HS5 HF5 HR5
  obtain ⟨z0, z1, z2, z3, z4, z5, z6⟩ := bx7 HR6.out
  have fz := bx7e HR6.out
  have fz0 := fz 0
  have fz1 := fz 1
  have fz2 := fz 2
  have fz3 := fz 3
  have fz4 := fz 4
  have fz5 := fz 5
  have fz6 := fz 6
  clear fz
  go_wp2_with fail
  refine bodyPost_ret (v := .tuple #[(.agg #[.int .i64 0, .string ⟨#[]⟩, .string ⟨#[]⟩, .slice none 0 0, .string ⟨#[]⟩, .slice none 0 0, .int .i64 0]), .int .i64 61]) (by simp [results, Tryz.results46, go_sem, z0, z1, z2, z3, z4, z5, z6]) rfl ?_
  exact ResP.inn HS.out ((Below.refl _ w).alloc (Nat.le_refl _) _) (Nat.le_refl _) HF6.out (by rw [T.out]; exact ⟨fun _ => HS6.out, fun hc => by have hc : s.over = true := hc; rw [HI.out.over] at hc; cases hc⟩) (by rw [T.out]; exact EvS.zero _ _ 0 0) ((Ow.refl _ _).set7s _ _ _ _ _ _ _) (by rw [T.out]; rfl)
set_option maxRecDepth 100000 in
set_option maxHeartbeats 8000000 in
theorem take_exc_f (N P : Nat) (v : Vw) (s : St) (t : ByteArray) (w : World) (h : Sc N P v w s) (hi : Iv s) (ht : t.size ≤ 1048576) (htk : Tok t.data.toList) (hb : decide (1 < s.os.length) = false) (h1 : ¬ 16384 < (took s t.data.toList).size) (h2 : isTx t.data.toList = true) {cs : List Nat} (hT : Sg.IsT t.data.toList cs) (h3 : Sg.nb t.data.toList 0 = 60) (h4 : Sg.nb t.data.toList 1 = 33) :
    Calls Tryz.prog 46 #[.pointer (some ⟨P, 0, none⟩), .string t] w (ResP N P v w (Sn.take s t.data.toList)) := by
  have T := Lib.hid (tk_exc h1 h2 h3 h4)
  have CK := Lib.hid (fun W => check_yes t W ht hT)
  have HTS := Lib.hid ht
  have hlz := By.len_size t
  have p0 : 0 < t.size := by
    rw [← hlz]
    exact List.length_pos_iff.2 htk.ne
  have i0 : (0 : Int) < (t.size : Int) := by omega
  have b0 := By.byte_nb t 0 p0
  have k0 : By.nb t.data.toList 0 = Sg.nb t.data.toList 0 := rfl
  rw [k0] at b0
  rw [h3] at b0
  have l2 := (htk.tag h3).1
  have p1 : 1 < t.size := by rw [← hlz]; exact l2
  have i1 : (1 : Int) < (t.size : Int) := by omega
  have b1 := By.byte_nb t 1 p1
  have k1 : By.nb t.data.toList 1 = Sg.nb t.data.toList 1 := rfl
  rw [k1] at b1
  rw [h4] at b1
  have HS := Lib.hid h
  have HI := Lib.hid hi
  have hPl := h.boxlt
  obtain ⟨n, hn⟩ : ∃ n, (took s t.data.toList).size = n := ⟨_, rfl⟩
  have hn2 : n = t.size := by
    rw [← hn]
    show (if 1 < s.os.length then s.size else 0) + t.data.toList.length = _
    rw [By.len_size]
    have hb := hb
    simp only [decide_eq_false_iff_not] at hb
    rw [if_neg hb, Nat.zero_add]
  have hsz := hi.size
  have g1 : IntKind.i64.wrap (0 + (t.size : Int)) = (n : Int) := by rw [IntWalk.i64_in _ (by omega)]; omega
  have g1' : IntKind.i64.wrap (t.size : Int) = (n : Int) := by rw [IntWalk.i64_in _ (by omega)]; omega
  have g6 : ¬ ((16384 : Int) < (n : Int)) := by rw [hn] at h1; omega
  have g7 : decide ((16384 : Int) < (n : Int)) = false := by rw [decide_eq_false_iff_not]; exact g6
  have HN := Lib.hid hn
  have hR : w.heap.size ≠ P := by omega
  obtain ⟨hS1, _⟩ := h.addFar (R := w.heap.size) ((Below.refl _ w).alloc (Nat.le_refl _) (.cells #[.int .i64 0, .string ⟨#[]⟩, .string ⟨#[]⟩, .slice none 0 0, .string ⟨#[]⟩, .slice none 0 0, .int .i64 0] 50)) (Nat.le_refl _) (by simp)
  have e2 := World.setCell_alloc_past (w := w) (.cells #[.int .i64 0, .string ⟨#[]⟩, .string ⟨#[]⟩, .slice none 0 0, .string ⟨#[]⟩, .slice none 0 0, .int .i64 0] 50) P 2 (.bool true) hPl
  obtain ⟨hS2, hF2⟩ := hS1.boxed (s' := { s with begun := true }) (ow_box _ P 2 _) (setCell_heap hS1.box rfl) rfl rfl
  have hr2 := (setCell_other (i := 2) (u := .bool true) hR).trans (box_new w #[.int .i64 0, .string ⟨#[]⟩, .string ⟨#[]⟩, .slice none 0 0, .string ⟨#[]⟩, .slice none 0 0, .int .i64 0] 50)
  rw [e2] at hS2 hF2 hr2
  obtain ⟨⟨_, _, x2, _, _, _, _⟩, hf⟩ := bxS h.box
  have f2 := hf 2
  have HS2 := Lib.hid hS2
  have HF2 := Lib.hid hF2
  have HR2 := Lib.hid hr2
  have I := Lib.hid (inStanza_any N P (plus v w.heap.size) { s with begun := true } _ hS2 false hb)
  clear h hi hS1 e2 hS2 hF2 hr2 hf hb htk hn hn2 hsz h1 h2 h3 hT hlz k0 l2 k1 h4
  go_enter Tryz.func46, Tryz.ntmps46
  go_wp2_with fail
  refine I.out.mono ?_
  rintro r w1 ⟨rfl, rfl⟩
  generalize (w.setCell ⟨P, 2, none⟩ (.bool true)).alloc (.cells #[.int .i64 0, .string ⟨#[]⟩, .string ⟨#[]⟩, .slice none 0 0, .string ⟨#[]⟩, .slice none 0 0, .int .i64 0] 50) = W2 at HS2 HF2 HR2 ⊢
  clear I x2 f2
  obtain ⟨⟨_, _, _, _, x4, _, _⟩, hf⟩ := bxS HS2.out.box
  have f4 := hf 4
  clear hf
  have hb1 := HS2.out.boxed (w' := W2.setCell ⟨P, 4, none⟩ (.int .i64 0)) (s' := { s with begun := true, size := 0 }) (ow_box _ P 4 _) (setCell_heap HS2.out.box rfl) rfl rfl
  have hbx := hb1.1.boxed (w' := (W2.setCell ⟨P, 4, none⟩ (.int .i64 0)).setCell ⟨P, 4, none⟩ (.int .i64 (n : Int))) (s' := took s t.data.toList) (ow_box _ P 4 _) (by rw [← HN.out]; exact setCell_heap hb1.1.box rfl) rfl rfl
  have HS5 := Lib.hid hbx.1
  have HF5 := Lib.hid ((HF2.out.trans hb1.2).trans hbx.2)
  have HR5 := Lib.hid ((setCell_other (i := 4) (u := .int .i64 (n : Int)) hR).trans ((setCell_other (i := 4) (u := .int .i64 0) hR).trans HR2.out))
  clear hbx hb1
  go_wp2_with fail
  generalize (W2.setCell ⟨P, 4, none⟩ (.int .i64 0)).setCell ⟨P, 4, none⟩ (.int .i64 (n : Int)) = W5 at HS5 HF5 HR5 ⊢
  clear HS2 HF2 HR2 x4 f4
  refine (CK.out _).mono ?_
  rintro r w6 ⟨rfl, hb⟩
  have HS6 := Lib.hid (HS5.out.below hb)
  have HF6 := Lib.hid (HF5.out.trans (Fr.below hb))
  have HR6 := Lib.hid ((hb.block _ (heap_lt HR5.out)).trans HR5.out)
  clear hb CK HS5 HF5 HR5
  obtain ⟨z0, z1, z2, z3, z4, z5, z6⟩ := bx7 HR6.out
  have fz := bx7e HR6.out
  have fz0 := fz 0
  have fz1 := fz 1
  have fz2 := fz 2
  have fz3 := fz 3
  have fz4 := fz 4
  have fz5 := fz 5
  have fz6 := fz 6
  clear fz
  go_wp2_with fail
  refine bodyPost_ret (v := .tuple #[(.agg #[.int .i64 0, .string ⟨#[]⟩, .string ⟨#[]⟩, .slice none 0 0, .string ⟨#[]⟩, .slice none 0 0, .int .i64 0]), .int .i64 61]) (by simp [results, Tryz.results46, go_sem, z0, z1, z2, z3, z4, z5, z6]) rfl ?_
  exact ResP.inn HS.out ((Below.refl _ w).alloc (Nat.le_refl _) _) (Nat.le_refl _) HF6.out (by rw [T.out]; exact ⟨fun _ => HS6.out, fun hc => by have hc : s.over = true := hc; rw [HI.out.over] at hc; cases hc⟩) (by rw [T.out]; exact EvS.zero _ _ 0 0) ((Ow.refl _ _).set7s _ _ _ _ _ _ _) (by rw [T.out]; rfl)
end Go.Proofs.YtolnpfcncmcacaaGreatDoor
