/- Plain mathematics of elements: the text of an element, and why unlike elements have unlike texts, if their names are of the bytes of names. No condition; nothing of the program stands here. -/
import Derived.Lib.Strings
namespace Go.Proofs.Ytgcjgggnmhcfcaa.Tg

/-- An element: its space, its name, its attributes, its text, its kids. -/
inductive El where
  | mk (sp nm : ByteArray) (atr : List (ByteArray × ByteArray)) (tx : ByteArray) (ks : List El)

def El.sp : El → ByteArray | .mk s _ _ _ _ => s
def El.nm : El → ByteArray | .mk _ n _ _ _ => n
def El.atr : El → List (ByteArray × ByteArray) | .mk _ _ a _ _ => a
def El.tx : El → ByteArray | .mk _ _ _ t _ => t
def El.ks : El → List El | .mk _ _ _ _ k => k
theorem El.eta (e : El) : e = .mk e.sp e.nm e.atr e.tx e.ks := by cases e; rfl

/-- What holds of an element if it holds of its kids holds of all. -/
theorem El.ind {P : El → Prop} (h : ∀ sp nm atr tx ks, (∀ k ∈ ks, P k) → P (.mk sp nm atr tx ks)) (e : El) : P e :=
  El.rec (motive_1 := P) (motive_2 := fun l => ∀ k ∈ l, P k) (fun sp nm atr tx ks ih => h sp nm atr tx ks ih) (fun _ hk => by cases hk)
    (fun _ _ h1 h2 k hk => by
      cases hk with
      | head => exact h1
      | tail _ hk => exact h2 k hk) e

/-- A byte as it stands in a text. -/
def qb (c : UInt8) : List UInt8 :=
  if c = 38 then [38, 97, 109, 112, 59] else if c = 60 then [38, 108, 116, 59] else if c = 62 then [38, 103, 116, 59] else if c = 39 then [38, 97, 112, 111, 115, 59]
  else if c = 34 then [38, 113, 117, 111, 116, 59] else if c = 9 then [38, 35, 120, 57, 59] else if c = 10 then [38, 35, 120, 65, 59] else if c = 13 then [38, 35, 120, 68, 59] else [c]
def q (l : List UInt8) : List UInt8 := l.flatMap qb
def xmlns : List UInt8 := [120, 109, 108, 110, 115]
def mark (n v : List UInt8) : List UInt8 := [32] ++ n ++ [61, 39] ++ q v ++ [39]
def marks (l : List (ByteArray × ByteArray)) : List UInt8 := l.flatMap fun a => mark a.1.data.toList a.2.data.toList
def emp (tx : ByteArray) (ks : List El) : Bool := tx.data.toList.isEmpty && ks.isEmpty
/-- What stands ahead of the kids. -/
def beg (e : El) (s : ByteArray) : List UInt8 :=
  [60] ++ e.nm.data.toList ++ (if e.sp = s then [] else mark xmlns e.sp.data.toList) ++ marks e.atr ++ (if emp e.tx e.ks then [47, 62] else [62] ++ q e.tx.data.toList)
/-- What stands behind them. -/
def fin (e : El) : List UInt8 := if emp e.tx e.ks then [] else [60, 47] ++ e.nm.data.toList ++ [62]
mutual
/-- An element's text, in an element of that space. -/
def put : El → ByteArray → List UInt8
  | .mk sp nm atr tx ks, s => beg (.mk sp nm atr tx ks) s ++ puts ks sp ++ fin (.mk sp nm atr tx ks)
/-- The texts of some, one behind the other. -/
def puts : List El → ByteArray → List UInt8
  | [], _ => []
  | k :: r, s => put k s ++ puts r s
end
theorem put_eq (e : El) (s : ByteArray) : put e s = beg e s ++ puts e.ks e.sp ++ fin e := by cases e; rw [put]; rfl
theorem puts_nil (s : ByteArray) : puts [] s = [] := by rw [puts]
theorem puts_cons (k : El) (r : List El) (s : ByteArray) : puts (k :: r) s = put k s ++ puts r s := by rw [puts]
theorem puts_append (a b : List El) (s : ByteArray) : puts (a ++ b) s = puts a s ++ puts b s := by
  induction a with
  | nil => simp [puts_nil]
  | cons k r ih => simp [puts_cons, ih]

/-! ### Quotes -/
theorem q_nil : q [] = [] := rfl
theorem q_cons (c : UInt8) (l : List UInt8) : q (c :: l) = qb c ++ q l := by simp [q]
theorem q_append (a b : List UInt8) : q (a ++ b) = q a ++ q b := by simp [q]
/-- Bytes that have a mark in place of them. -/
def sp8 (c : UInt8) : Bool := c == 38 || c == 60 || c == 62 || c == 39 || c == 34 || c == 9 || c == 10 || c == 13
theorem all_bytes {P : UInt8 → Prop} (h : ∀ n : Fin 256, P (UInt8.ofNat n.val)) (c : UInt8) : P c := by
  have := h ⟨c.toNat, c.toNat_lt⟩
  rwa [UInt8.ofNat_toNat] at this
theorem qb_plain : ∀ c, sp8 c = false → qb c = [c] := by
  intro c h
  simp only [sp8, Bool.or_eq_false_iff, beq_eq_false_iff_ne] at h
  obtain ⟨⟨⟨⟨⟨⟨⟨h1, h2⟩, h3⟩, h4⟩, h5⟩, h6⟩, h7⟩, h8⟩ := h
  simp [qb, h1, h2, h3, h4, h5, h6, h7, h8]
theorem qb_mark {c : UInt8} (h : sp8 c = true) : ∃ r, qb c = 38 :: r ∧ 3 ≤ r.length := by
  simp only [sp8, Bool.or_eq_true, beq_iff_eq] at h
  rcases h with ((((((rfl | rfl) | rfl) | rfl) | rfl) | rfl) | rfl) | rfl <;> exact ⟨_, rfl, by decide⟩
theorem qb_len (c : UInt8) : 1 ≤ (qb c).length ∧ (qb c).length ≤ 6 := by
  cases h : sp8 c with
  | false => rw [qb_plain c h]; simp
  | true =>
    simp only [sp8, Bool.or_eq_true, beq_iff_eq] at h
    rcases h with ((((((rfl | rfl) | rfl) | rfl) | rfl) | rfl) | rfl) | rfl <;> decide
theorem q_len (l : List UInt8) : l.length ≤ (q l).length ∧ (q l).length ≤ 6 * l.length := by
  induction l with
  | nil => simp [q]
  | cons c r ih => have := qb_len c; rw [q_cons]; simp; omega
/-- No mark of an element's own stands in a quote. -/
theorem qb_no (c d : UInt8) (h : d ∈ qb c) : d ≠ 60 ∧ d ≠ 62 ∧ d ≠ 39 ∧ d ≠ 34 ∧ d ≠ 9 ∧ d ≠ 10 ∧ d ≠ 13 := by
  cases hs : sp8 c with
  | false =>
    rw [qb_plain c hs] at h
    simp only [List.mem_singleton] at h
    subst h
    simp only [sp8, Bool.or_eq_false_iff, beq_eq_false_iff_ne] at hs
    exact ⟨hs.1.1.1.1.1.1.2, hs.1.1.1.1.1.2, hs.1.1.1.1.2, hs.1.1.1.2, hs.1.1.2, hs.1.2, hs.2⟩
  | true =>
    simp only [sp8, Bool.or_eq_true, beq_iff_eq] at hs
    rcases hs with ((((((rfl | rfl) | rfl) | rfl) | rfl) | rfl) | rfl) | rfl <;>
      (simp [qb] at h; rcases h with rfl | rfl | h <;> first | decide | (rcases h with rfl | rfl | h <;> first | decide | (rcases h with rfl | rfl | h <;> first | decide | (subst h; decide)) | (rcases h with rfl | h <;> first | decide | (subst h; decide)) | (subst h; decide)) | (rcases h with rfl | h <;> first | decide | (subst h; decide)) | (subst h; decide))
theorem q_no {l : List UInt8} {d : UInt8} (h : d ∈ q l) : d ≠ 60 ∧ d ≠ 62 ∧ d ≠ 39 ∧ d ≠ 34 ∧ d ≠ 9 ∧ d ≠ 10 ∧ d ≠ 13 := by
  obtain ⟨c, _, hc⟩ := List.mem_flatMap.1 h
  exact qb_no c d hc
/-- A text stays as it is just if it has no such byte. -/
theorem q_same (l : List UInt8) : q l = l ↔ l.any sp8 = false := by
  constructor
  · intro h
    have hlen : ∀ m : List UInt8, m.any sp8 = true → m.length < (q m).length := by
      intro m
      induction m with
      | nil => intro h; cases h
      | cons c r ih =>
        intro h
        rw [q_cons, List.length_append, List.length_cons]
        have := q_len r
        simp only [List.any_cons, Bool.or_eq_true] at h
        rcases h with h | h
        · obtain ⟨x, hx, hl⟩ := qb_mark h
          rw [hx]; simp; omega
        · have := ih h
          have := qb_len c
          omega
    cases ha : l.any sp8 with
    | false => rfl
    | true => have := hlen l ha; rw [h] at this; omega
  · intro h
    induction l with
    | nil => rfl
    | cons c r ih =>
      simp only [List.any_cons, Bool.or_eq_false_iff] at h
      rw [q_cons, qb_plain c h.1, ih h.2]; rfl
end Go.Proofs.Ytgcjgggnmhcfcaa.Tg
