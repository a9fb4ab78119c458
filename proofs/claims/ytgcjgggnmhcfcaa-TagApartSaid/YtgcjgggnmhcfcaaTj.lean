/- Plain mathematics of elements: unlike elements whose names are of the bytes of names have unlike texts, for the same space. No condition; nothing of the program stands here. -/
import Derived.Test.YtgcjgggnmhcfcaaTg
namespace Go.Proofs.Ytgcjgggnmhcfcaa.Tg

/-- Two rows, each up to its first byte of another kind. -/
theorem span_eq {p : UInt8 → Prop} : ∀ {a b : List UInt8} {c d : UInt8} {x y : List UInt8}, (∀ z ∈ a, p z) → (∀ z ∈ b, p z) → ¬ p c → ¬ p d → a ++ c :: x = b ++ d :: y → a = b ∧ c :: x = d :: y
  | [], [], _, _, _, _, _, _, _, _, h => ⟨rfl, h⟩
  | [], u :: b, _, _, _, _, _, hb, hc, _, h => by
    simp only [List.nil_append, List.cons_append, List.cons.injEq] at h
    exact absurd (h.1 ▸ hb u (List.mem_cons_self ..)) hc
  | u :: a, [], _, _, _, _, ha, _, _, hd, h => by
    simp only [List.nil_append, List.cons_append, List.cons.injEq] at h
    exact absurd (h.1 ▸ ha u (List.mem_cons_self ..)) hd
  | u :: a, v :: b, _, _, _, _, ha, hb, hc, hd, h => by
    simp only [List.cons_append, List.cons.injEq] at h
    obtain ⟨rfl, h⟩ := h
    obtain ⟨h1, h2⟩ := span_eq (fun z hz => ha z (List.mem_cons_of_mem _ hz)) (fun z hz => hb z (List.mem_cons_of_mem _ hz)) hc hd h
    exact ⟨by rw [h1], h2⟩

/-- The bytes' marks are no front of one another. -/
theorem qb_cancel {c d : UInt8} {x y : List UInt8} (h : qb c ++ x = qb d ++ y) : c = d ∧ x = y := by
  cases hc : sp8 c with
  | false =>
    cases hd : sp8 d with
    | false =>
      rw [qb_plain c hc, qb_plain d hd] at h
      simp only [List.cons_append, List.nil_append, List.cons.injEq] at h
      exact h
    | true =>
      obtain ⟨r, hr, _⟩ := qb_mark hd
      rw [qb_plain c hc, hr] at h
      simp only [List.cons_append, List.nil_append, List.cons.injEq] at h
      obtain ⟨rfl, _⟩ := h
      simp [sp8] at hc
  | true =>
    cases hd : sp8 d with
    | false =>
      obtain ⟨r, hr, _⟩ := qb_mark hc
      rw [qb_plain d hd, hr] at h
      simp only [List.cons_append, List.nil_append, List.cons.injEq] at h
      obtain ⟨rfl, _⟩ := h
      simp [sp8] at hd
    | true =>
      simp only [sp8, Bool.or_eq_true, beq_iff_eq] at hc hd
      rcases hc with ((((((rfl | rfl) | rfl) | rfl) | rfl) | rfl) | rfl) | rfl <;>
        rcases hd with ((((((rfl | rfl) | rfl) | rfl) | rfl) | rfl) | rfl) | rfl <;>
          first | (simp [qb] at h; done) | (exact ⟨rfl, List.append_cancel_left h⟩)
/-- A quote tells its text. -/
theorem q_inj : ∀ {a b : List UInt8}, q a = q b → a = b
  | [], [], _ => rfl
  | [], c :: b, h => by
    have h1 := congrArg List.length h
    have h2 := qb_len c
    rw [q_cons, q_nil, List.length_append, List.length_nil] at h1
    omega
  | c :: a, [], h => by
    have h1 := congrArg List.length h
    have h2 := qb_len c
    rw [q_cons, q_nil, List.length_append, List.length_nil] at h1
    omega
  | c :: a, d :: b, h => by
    rw [q_cons, q_cons] at h
    obtain ⟨h1, h2⟩ := qb_cancel h
    rw [h1, q_inj h2]
theorem bytes_eq {a b : ByteArray} (h : a.data.toList = b.data.toList) : a = b := ByteArray.ext (Array.toList_inj.1 h)
/-- A quote, up to what ends it. -/
theorem q_cut {a b : List UInt8} {c : UInt8} {x y : List UInt8} (hc : c = 60 ∨ c = 39) (h : q a ++ c :: x = q b ++ c :: y) : a = b ∧ x = y := by
  have hn : ¬ (fun z : UInt8 => z ≠ 60 ∧ z ≠ 39) c := by rcases hc with rfl | rfl <;> simp
  obtain ⟨h1, h2⟩ := span_eq (p := fun z => z ≠ 60 ∧ z ≠ 39) (fun z hz => ⟨(q_no hz).1, (q_no hz).2.2.1⟩) (fun z hz => ⟨(q_no hz).1, (q_no hz).2.2.1⟩) hn hn h
  simp only [List.cons.injEq, true_and] at h2
  exact ⟨q_inj h1, h2⟩

/-! ### Marks -/
abbrev Mk := List (List UInt8 × List UInt8)
def mks (l : Mk) : List UInt8 := l.flatMap fun a => mark a.1 a.2
theorem mks_nil : mks [] = [] := rfl
theorem mks_cons (a : List UInt8 × List UInt8) (l : Mk) : mks (a :: l) = 32 :: (a.1 ++ 61 :: 39 :: (q a.2 ++ 39 :: mks l)) := by simp [mks, mark]
/-- Marks, up to what is behind them, if no name has a byte '='. -/
theorem mks_cut : ∀ {l m : Mk} {c d : UInt8} {x y : List UInt8}, (∀ a ∈ l, ∀ z ∈ a.1, z ≠ 61) → (∀ a ∈ m, ∀ z ∈ a.1, z ≠ 61) → c ≠ 32 → d ≠ 32 → mks l ++ c :: x = mks m ++ d :: y → l = m ∧ c :: x = d :: y
  | [], [], _, _, _, _, _, _, _, _, h => ⟨rfl, h⟩
  | [], a :: m, c, _, _, _, _, _, hc, _, h => by
    rw [mks_cons] at h
    simp only [mks_nil, List.nil_append, List.cons_append, List.cons.injEq] at h
    exact absurd h.1 hc
  | a :: l, [], _, d, _, _, _, _, _, hd, h => by
    rw [mks_cons] at h
    simp only [mks_nil, List.nil_append, List.cons_append, List.cons.injEq] at h
    exact absurd h.1.symm hd
  | a :: l, b :: m, c, d, x, y, hl, hm, hc, hd, h => by
    rw [mks_cons, mks_cons] at h
    simp only [List.cons_append, List.append_assoc, List.cons.injEq, true_and] at h
    obtain ⟨h1, h2⟩ := span_eq (p := fun z => z ≠ 61) (hl a (List.mem_cons_self ..)) (hm b (List.mem_cons_self ..)) (by simp) (by simp) h
    simp only [List.cons.injEq, true_and] at h2
    obtain ⟨h3, h4⟩ := q_cut (.inr rfl) h2
    obtain ⟨h5, h6⟩ := mks_cut (fun a ha => hl a (List.mem_cons_of_mem _ ha)) (fun a ha => hm a (List.mem_cons_of_mem _ ha)) hc hd h4
    obtain ⟨a1, a2⟩ := a
    obtain ⟨b1, b2⟩ := b
    simp only at h1 h3
    subst h1; subst h3; subst h5
    exact ⟨rfl, h6⟩

/-! ### Elements whose names are of the bytes of names -/
def nb1 (c : UInt8) : Prop := c ≠ 32 ∧ c ≠ 47 ∧ c ≠ 62 ∧ c ≠ 61
/-- A name: its first byte is none of '/', and no byte ends it. -/
def Nm (l : List UInt8) : Prop := ∀ z ∈ l, nb1 z
mutual
/-- What of an element its text needs. -/
def Wf : El → Prop
  | .mk sp nm atr _ ks => sp.size ≠ 0 ∧ nm.size ≠ 0 ∧ Nm nm.data.toList ∧ (∀ a ∈ atr, Nm a.1.data.toList ∧ a.1.data.toList ≠ xmlns) ∧ Wfs ks
def Wfs : List El → Prop
  | [] => True
  | k :: r => Wf k ∧ Wfs r
end
theorem Wf_eq (e : El) : Wf e ↔ (e.sp.size ≠ 0 ∧ e.nm.size ≠ 0 ∧ Nm e.nm.data.toList ∧ (∀ a ∈ e.atr, Nm a.1.data.toList ∧ a.1.data.toList ≠ xmlns) ∧ Wfs e.ks) := by cases e; rw [Wf]; rfl
theorem Wfs_mem : ∀ {l : List El}, Wfs l ↔ ∀ k ∈ l, Wf k
  | [] => by simp [Wfs]
  | k :: r => by rw [Wfs, Wfs_mem (l := r)]; simp

/-- All that looks like an attribute. -/
def look (e : El) (s : ByteArray) : Mk := (if e.sp = s then [] else [(xmlns, e.sp.data.toList)]) ++ e.atr.map fun a => (a.1.data.toList, a.2.data.toList)
theorem look_eq (e : El) (s : ByteArray) : mks (look e s) = (if e.sp = s then [] else mark xmlns e.sp.data.toList) ++ marks e.atr := by
  unfold look mks marks
  rw [List.flatMap_append]
  congr 1
  · split <;> simp
  · induction e.atr with
    | nil => rfl
    | cons a r ih => simp [ih]
theorem look_ok {e : El} (h : Wf e) (s : ByteArray) : ∀ a ∈ look e s, ∀ z ∈ a.1, z ≠ 61 := by
  obtain ⟨_, _, _, h4, _⟩ := (Wf_eq e).1 h
  intro a ha z hz
  rcases List.mem_append.1 ha with ha | ha
  · split at ha
    · cases ha
    · simp only [List.mem_singleton] at ha
      subst ha
      simp [xmlns] at hz
      rcases hz with rfl | rfl | rfl | rfl | rfl <;> decide
  · obtain ⟨b, hb, rfl⟩ := List.mem_map.1 ha
    exact ((h4 b hb).1 z hz).2.2.2
theorem atr_eq : ∀ {a b : List (ByteArray × ByteArray)}, (a.map fun a => (a.1.data.toList, a.2.data.toList)) = (b.map fun a => (a.1.data.toList, a.2.data.toList)) → a = b
  | [], [], _ => rfl
  | [], _ :: _, h => by simp at h
  | _ :: _, [], h => by simp at h
  | (a1, a2) :: l, (b1, b2) :: m, h => by
    simp only [List.map_cons, List.cons.injEq, Prod.mk.injEq] at h
    rw [bytes_eq h.1.1, bytes_eq h.1.2, atr_eq h.2]
/-- The looks of two tell their spaces and attributes. -/
theorem look_inj {e f : El} (he : Wf e) (hf : Wf f) {s : ByteArray} (h : look e s = look f s) : e.sp = f.sp ∧ e.atr = f.atr := by
  have hx : ∀ {g : El}, Wf g → ∀ a ∈ g.atr.map (fun a => (a.1.data.toList, a.2.data.toList)), a.1 ≠ xmlns := by
    intro g hg a ha
    obtain ⟨b, hb, rfl⟩ := List.mem_map.1 ha
    exact (((Wf_eq g).1 hg).2.2.2.1 b hb).2
  unfold look at h
  by_cases h1 : e.sp = s
  · by_cases h2 : f.sp = s
    · simp only [h1, h2, if_true, List.nil_append] at h
      exact ⟨h1.trans h2.symm, atr_eq h⟩
    · simp only [h1, h2, if_true, if_false, List.nil_append, List.cons_append] at h
      have := hx he (xmlns, f.sp.data.toList) (by rw [h]; exact List.mem_cons_self ..)
      exact absurd rfl this
  · by_cases h2 : f.sp = s
    · simp only [h1, h2, if_true, if_false, List.nil_append, List.cons_append] at h
      have := hx hf (xmlns, e.sp.data.toList) (by rw [← h]; exact List.mem_cons_self ..)
      exact absurd rfl this
    · simp only [h1, h2, if_false, List.nil_append, List.cons_append, List.cons.injEq, Prod.mk.injEq, true_and] at h
      exact ⟨bytes_eq h.1, atr_eq h.2⟩

/-- An element's text, part by part. -/
theorem put_parts (e : El) (s : ByteArray) (x : List UInt8) : put e s ++ x = 60 :: (e.nm.data.toList ++ (mks (look e s) ++
    (if emp e.tx e.ks then 47 :: 62 :: x else 62 :: (q e.tx.data.toList ++ (puts e.ks e.sp ++ 60 :: 47 :: (e.nm.data.toList ++ 62 :: x)))))) := by
  rw [put_eq, look_eq]
  unfold beg fin
  cases h : emp e.tx e.ks with
  | true =>
    have : e.ks = [] := by simp [emp] at h; exact h.2
    rw [this, puts_nil]
    simp
  | false => simp
theorem tail_eq (e : El) (x : List UInt8) : ∃ c y, (if emp e.tx e.ks then 47 :: 62 :: x else 62 :: (q e.tx.data.toList ++ (puts e.ks e.sp ++ 60 :: 47 :: (e.nm.data.toList ++ 62 :: x)))) = c :: y ∧ (c = 47 ∨ c = 62) := by
  split
  · exact ⟨_, _, rfl, .inl rfl⟩
  · exact ⟨_, _, rfl, .inr rfl⟩
theorem head_eq (l : Mk) (c : UInt8) (y : List UInt8) : ∃ d z, mks l ++ c :: y = d :: z ∧ (d = 32 ∨ d = c) := by
  cases l with
  | nil => exact ⟨_, _, rfl, .inr rfl⟩
  | cons a r => rw [mks_cons]; exact ⟨_, _, rfl, .inl rfl⟩
/-- A text of kids begins with '<' and a name's byte, or it is none. -/
theorem puts_head {k : El} (hk : Wf k) (r : List El) (s : ByteArray) (x : List UInt8) : ∃ c z, puts (k :: r) s ++ x = 60 :: c :: z ∧ c ≠ 47 := by
  rw [puts_cons, List.append_assoc, put_parts]
  obtain ⟨_, h2, h3, _⟩ := (Wf_eq k).1 hk
  have : k.nm.data.toList ≠ [] := fun e => h2 (by have := congrArg List.length e; simpa using this)
  cases hn : k.nm.data.toList with
  | nil => exact absurd hn this
  | cons c l => exact ⟨c, _, rfl, (h3 c (by rw [hn]; exact List.mem_cons_self ..)).2.1⟩
theorem puts_inj : ∀ {l m : List El}, (∀ k ∈ l, ∀ f, Wf k → Wf f → ∀ s x y, put k s ++ x = put f s ++ y → k = f ∧ x = y) → Wfs l → Wfs m → ∀ {s : ByteArray} {x y : List UInt8}, puts l s ++ 60 :: 47 :: x = puts m s ++ 60 :: 47 :: y → l = m ∧ x = y
  | [], [], _, _, _, _, _, _, h => by
    simp only [puts_nil, List.nil_append, List.cons.injEq, true_and] at h
    exact ⟨rfl, h⟩
  | [], k :: m, _, _, hm, s, x, y, h => by
    obtain ⟨c, z, hc, hn⟩ := puts_head (Wfs_mem.1 hm k (List.mem_cons_self ..)) m s (60 :: 47 :: y)
    rw [hc] at h
    simp only [puts_nil, List.nil_append, List.cons.injEq, true_and] at h
    exact absurd h.1.symm hn
  | k :: l, [], _, hl, _, s, x, y, h => by
    obtain ⟨c, z, hc, hn⟩ := puts_head (Wfs_mem.1 hl k (List.mem_cons_self ..)) l s (60 :: 47 :: x)
    rw [hc] at h
    simp only [puts_nil, List.nil_append, List.cons.injEq, true_and] at h
    exact absurd h.1 hn
  | k :: l, f :: m, ih, hl, hm, s, x, y, h => by
    rw [puts_cons, puts_cons, List.append_assoc, List.append_assoc] at h
    rw [Wfs] at hl hm
    obtain ⟨h1, h2⟩ := ih k (List.mem_cons_self ..) f hl.1 hm.1 s _ _ h
    obtain ⟨h3, h4⟩ := puts_inj (fun k hk => ih k (List.mem_cons_of_mem _ hk)) hl.2 hm.2 h2
    exact ⟨by rw [h1, h3], h4⟩
/-- Unlike elements have unlike texts, and none is a front of another's. -/
theorem put_inj (e : El) : ∀ f, Wf e → Wf f → ∀ s x y, put e s ++ x = put f s ++ y → e = f ∧ x = y := by
  refine El.ind (P := fun e => ∀ f, Wf e → Wf f → ∀ s x y, put e s ++ x = put f s ++ y → e = f ∧ x = y) (fun sp nm atr tx ks ih => ?_) e
  intro f he hf s x y h
  generalize hE : El.mk sp nm atr tx ks = E at he h
  have hks : E.ks = ks := by rw [← hE]; rfl
  rw [← hks] at ih
  clear hE hks
  have he' := (Wf_eq E).1 he
  have hf' := (Wf_eq f).1 hf
  rw [put_parts, put_parts] at h
  simp only [List.cons.injEq, true_and] at h
  obtain ⟨c1, y1, e1, hc1⟩ := tail_eq E x
  obtain ⟨c2, y2, e2, hc2⟩ := tail_eq f y
  rw [e1, e2] at h
  obtain ⟨d1, z1, g1, hd1⟩ := head_eq (look E s) c1 y1
  obtain ⟨d2, z2, g2, hd2⟩ := head_eq (look f s) c2 y2
  have n1 : ¬ nb1 d1 := by
    rintro ⟨a, b, c, _⟩
    rcases hd1 with rfl | rfl
    · exact a rfl
    · rcases hc1 with rfl | rfl
      · exact b rfl
      · exact c rfl
  have n2 : ¬ nb1 d2 := by
    rintro ⟨a, b, c, _⟩
    rcases hd2 with rfl | rfl
    · exact a rfl
    · rcases hc2 with rfl | rfl
      · exact b rfl
      · exact c rfl
  rw [g1, g2] at h
  obtain ⟨hnm, h⟩ := span_eq (p := nb1) he'.2.2.1 hf'.2.2.1 n1 n2 h
  rw [← g1, ← g2] at h
  obtain ⟨hlk, h⟩ := mks_cut (look_ok he s) (look_ok hf s) (by rcases hc1 with rfl | rfl <;> decide) (by rcases hc2 with rfl | rfl <;> decide) h
  obtain ⟨hsp, hat⟩ := look_inj he hf hlk
  rw [← e1, ← e2] at h
  have hn := bytes_eq hnm
  cases hm1 : emp E.tx E.ks with
  | true =>
    cases hm2 : emp f.tx f.ks with
    | true =>
      rw [hm1, hm2] at h
      simp only [if_true, List.cons.injEq, true_and] at h
      simp only [emp, Bool.and_eq_true, List.isEmpty_iff] at hm1 hm2
      refine ⟨?_, h⟩
      rw [El.eta E, El.eta f, hsp, hn, hat, bytes_eq (hm1.1.trans hm2.1.symm), hm1.2, hm2.2]
    | false =>
      rw [hm1, hm2] at h
      simp at h
  | false =>
    cases hm2 : emp f.tx f.ks with
    | true =>
      rw [hm1, hm2] at h
      simp at h
    | false =>
      rw [hm1, hm2] at h
      simp only [Bool.false_eq_true, if_false, List.cons.injEq, true_and] at h
      obtain ⟨p1, q1, r1⟩ : ∃ p r, puts E.ks E.sp ++ 60 :: 47 :: (E.nm.data.toList ++ 62 :: x) = 60 :: p ∧ p = r := by
        cases hk : E.ks with
        | nil => exact ⟨_, _, by rw [puts_nil]; rfl, rfl⟩
        | cons k r =>
          obtain ⟨c, z, hc, _⟩ := puts_head (Wfs_mem.1 he'.2.2.2.2 k (by rw [hk]; exact List.mem_cons_self ..)) r E.sp (60 :: 47 :: (E.nm.data.toList ++ 62 :: x))
          exact ⟨_, _, hc, rfl⟩
      obtain ⟨p2, q2, r2⟩ : ∃ p r, puts f.ks f.sp ++ 60 :: 47 :: (f.nm.data.toList ++ 62 :: y) = 60 :: p ∧ p = r := by
        cases hk : f.ks with
        | nil => exact ⟨_, _, by rw [puts_nil]; rfl, rfl⟩
        | cons k r =>
          obtain ⟨c, z, hc, _⟩ := puts_head (Wfs_mem.1 hf'.2.2.2.2 k (by rw [hk]; exact List.mem_cons_self ..)) r f.sp (60 :: 47 :: (f.nm.data.toList ++ 62 :: y))
          exact ⟨_, _, hc, rfl⟩
      rw [r1.1, r2.1] at h
      obtain ⟨htx, h⟩ := q_cut (.inl rfl) h
      have h2 : puts E.ks E.sp ++ 60 :: 47 :: (E.nm.data.toList ++ 62 :: x) = puts f.ks E.sp ++ 60 :: 47 :: (f.nm.data.toList ++ 62 :: y) := by rw [r1.1, hsp, r2.1, h]
      obtain ⟨hks, h3⟩ := puts_inj ih he'.2.2.2.2 hf'.2.2.2.2 h2
      rw [hnm] at h3
      have h4 := List.append_cancel_left h3
      simp only [List.cons.injEq, true_and] at h4
      refine ⟨?_, h4⟩
      rw [El.eta E, El.eta f, hsp, hn, hat, bytes_eq htx, hks]
/-- Unlike elements have unlike texts. -/
theorem put_apart {e f : El} (he : Wf e) (hf : Wf f) {s : ByteArray} (h : put e s = put f s) : e = f :=
  (put_inj e f he hf s [] [] (by rw [h])).1
end Go.Proofs.Ytgcjgggnmhcfcaa.Tg
