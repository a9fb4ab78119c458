/- Frames: their bytes, what a reader's bytes begin with, what a reader does byte by byte: plain mathematics. No condition. -/
import Derived.Test.YtpdhjifocdbbdaaTa
namespace Go.Proofs.Ytpdhjifocdbbdaa
open Go Go.Lib By

/-- A frame. -/
structure Fr where
  c : Int
  q : Int
  d : ByteArray
def Fr.cells (f : Fr) : List Value := [.int .i64 f.c, .int .i64 f.q, .string f.d]
/-- May its numbers be put? -/
def Fr.ok (f : Fr) : Bool := decide (1 ≤ f.c) && decide (f.c ≤ 5) && decide (0 ≤ f.q) && decide (f.q ≤ 65535)
theorem Fr.ok_iff {f : Fr} : f.ok = true ↔ 1 ≤ f.c ∧ f.c ≤ 5 ∧ 0 ≤ f.q ∧ f.q ≤ 65535 := by
  unfold Fr.ok
  simp [and_assoc]
def Fr.bytes (f : Fr) : List UInt8 := u 42 :: u f.c.toNat :: (dig f.q.toNat 2 ++ (dig f.d.size 2 ++ f.d.data.toList))
def fputE (f : Fr) : Int := if f.ok = false then 2 else if 8192 < f.d.size then 1 else 0
def fputS (f : Fr) : ByteArray := if fputE f = 0 then mk f.bytes else ⟨#[]⟩
def nxt (q : Int) : Int := if q < 0 ∨ 65535 ≤ q then 0 else q + 1
theorem fputE_zero {f : Fr} (h : fputE f = 0) : f.ok = true ∧ f.d.size ≤ 8192 ∧ fputS f = mk f.bytes := by
  refine ⟨?_, ?_, by unfold fputS; rw [if_pos h]⟩
  · unfold fputE at h
    cases e : f.ok
    · rw [e] at h; simp at h
    · rfl
  · unfold fputE at h
    split at h
    · cases h
    split at h
    · cases h
    omega
theorem fputE_of {f : Fr} (h : f.ok = true) (h2 : f.d.size ≤ 8192) : fputE f = 0 := by
  unfold fputE
  rw [if_neg (by rw [h]; decide), if_neg (by omega)]
theorem fbytes_len (f : Fr) : f.bytes.length = 6 + f.d.size := by
  unfold Fr.bytes
  simp only [List.length_cons, List.length_append, dig_length, By.len_size]
  omega

/-- What the bytes behind a whole frame begin with. -/
inductive Out where
  | part
  | bad (e : Int)
  | frame (f : Fr) (r : List UInt8)
def sq (b : List UInt8) : Nat := numL ((b.take 4).drop 2)
def sz (b : List UInt8) : Nat := numL ((b.take 6).drop 4)
def frOf (b : List UInt8) : Fr := ⟨nb b 1, sq b, mk ((b.take (6 + sz b)).drop 6)⟩
def worst (b : List UInt8) : Prop := (1 ≤ b.length ∧ nb b 0 ≠ 42) ∨ (2 ≤ b.length ∧ (nb b 1 < 1 ∨ 5 < nb b 1))
instance (b : List UInt8) : Decidable (worst b) := by unfold worst; infer_instance
def mis (p : Option Int) (b : List UInt8) : Prop := ∃ q, p = some q ∧ (sq b : Int) ≠ nxt q
instance (p : Option Int) (b : List UInt8) : Decidable (mis p b) :=
  match p with
  | none => isFalse (fun ⟨_, h, _⟩ => by cases h)
  | some q => if h : (sq b : Int) ≠ nxt q then isTrue ⟨q, rfl, h⟩ else isFalse (fun ⟨_, h1, h2⟩ => by cases h1; exact h h2)
def hd (p : Option Int) (b : List UInt8) : Out :=
  if worst b then .bad 120
  else if b.length < 4 then .part
  else if mis p b then .bad 121
  else if b.length < 6 then .part
  else if 8192 < sz b then .bad 1
  else if b.length < 6 + sz b then .part
  else .frame (frOf b) (b.drop (6 + sz b))
theorem hd_nil (p : Option Int) : hd p [] = .part := by
  unfold hd
  rw [if_neg (by simp [worst]), if_pos (by simp)]
theorem nb_app {b : List UInt8} {i : Nat} (h : i < b.length) (x : List UInt8) : nb (b ++ x) i = nb b i := by
  unfold nb
  rw [List.getD_eq_getElem?_getD, List.getD_eq_getElem?_getD, List.getElem?_append_left h]
theorem sq_app {b : List UInt8} (h : 4 ≤ b.length) (x : List UInt8) : sq (b ++ x) = sq b := by
  unfold sq
  rw [List.take_append_of_le_length h]
theorem sz_app {b : List UInt8} (h : 6 ≤ b.length) (x : List UInt8) : sz (b ++ x) = sz b := by
  unfold sz
  rw [List.take_append_of_le_length h]
theorem sq_lt (b : List UInt8) : sq b < 65536 := by
  unfold sq
  have h := numL_lt ((b.take 4).drop 2)
  have h2 : 256 ^ ((b.take 4).drop 2).length ≤ 256 ^ 2 := Nat.pow_le_pow_right (by decide) (by rw [List.length_drop, List.length_take]; omega)
  omega
theorem sz_lt (b : List UInt8) : sz b < 65536 := by
  unfold sz
  have h := numL_lt ((b.take 6).drop 4)
  have h2 : 256 ^ ((b.take 6).drop 4).length ≤ 256 ^ 2 := Nat.pow_le_pow_right (by decide) (by rw [List.length_drop, List.length_take]; omega)
  omega
theorem worst_app {b : List UInt8} (h : worst b) (x : List UInt8) : worst (b ++ x) := by
  unfold worst at h ⊢
  rcases h with ⟨h1, h2⟩ | ⟨h1, h2⟩
  · left
    exact ⟨by rw [List.length_append]; omega, by rw [nb_app (by omega)]; exact h2⟩
  · right
    exact ⟨by rw [List.length_append]; omega, by rw [nb_app (by omega)]; exact h2⟩
theorem not_worst_app {b : List UInt8} (h : ¬ worst b) (h2 : 2 ≤ b.length) (x : List UInt8) : ¬ worst (b ++ x) := by
  intro hw
  apply h
  unfold worst at hw ⊢
  rcases hw with ⟨h3, h4⟩ | ⟨h3, h4⟩
  · left
    exact ⟨by omega, by rw [nb_app (by omega)] at h4; exact h4⟩
  · right
    exact ⟨by omega, by rw [nb_app (by omega)] at h4; exact h4⟩
theorem mis_app {p : Option Int} {b : List UInt8} (h : 4 ≤ b.length) (x : List UInt8) : mis p (b ++ x) ↔ mis p b := by
  unfold mis
  rw [sq_app h]
theorem frOf_app {b : List UInt8} (h : 6 + sz b ≤ b.length) (x : List UInt8) : frOf (b ++ x) = frOf b := by
  unfold frOf
  rw [nb_app (by omega), sq_app (by omega), sz_app (by omega), List.take_append_of_le_length h]
theorem hd_bad_app {p : Option Int} {b : List UInt8} {e : Int} (h : hd p b = .bad e) (x : List UInt8) : hd p (b ++ x) = .bad e := by
  unfold hd at h ⊢
  by_cases h1 : worst b
  · rw [if_pos h1] at h
    rw [if_pos (worst_app h1 x)]
    exact h
  rw [if_neg h1] at h
  by_cases h2 : b.length < 4
  · rw [if_pos h2] at h; cases h
  rw [if_neg h2] at h
  rw [if_neg (not_worst_app h1 (by omega) x), if_neg (by rw [List.length_append]; omega)]
  by_cases h3 : mis p b
  · rw [if_pos h3] at h
    rw [if_pos ((mis_app (by omega) x).2 h3)]
    exact h
  rw [if_neg h3] at h
  rw [if_neg (fun k => h3 ((mis_app (by omega) x).1 k))]
  by_cases h4 : b.length < 6
  · rw [if_pos h4] at h; cases h
  rw [if_neg h4] at h
  rw [if_neg (by rw [List.length_append]; omega), sz_app (by omega)]
  by_cases h5 : 8192 < sz b
  · rw [if_pos h5] at h ⊢
    exact h
  rw [if_neg h5] at h
  split at h <;> cases h
theorem hd_frame {p : Option Int} {b : List UInt8} {f : Fr} {r : List UInt8} (h : hd p b = .frame f r) :
    ¬ worst b ∧ ¬ mis p b ∧ 6 ≤ b.length ∧ sz b ≤ 8192 ∧ 6 + sz b ≤ b.length ∧ f = frOf b ∧ r = b.drop (6 + sz b) := by
  unfold hd at h
  by_cases h1 : worst b
  · rw [if_pos h1] at h; cases h
  rw [if_neg h1] at h
  by_cases h2 : b.length < 4
  · rw [if_pos h2] at h; cases h
  rw [if_neg h2] at h
  by_cases h3 : mis p b
  · rw [if_pos h3] at h; cases h
  rw [if_neg h3] at h
  by_cases h4 : b.length < 6
  · rw [if_pos h4] at h; cases h
  rw [if_neg h4] at h
  by_cases h5 : 8192 < sz b
  · rw [if_pos h5] at h; cases h
  rw [if_neg h5] at h
  by_cases h6 : b.length < 6 + sz b
  · rw [if_pos h6] at h; cases h
  rw [if_neg h6] at h
  injection h with h7 h8
  exact ⟨h1, h3, by omega, by omega, by omega, h7.symm, h8.symm⟩
theorem hd_frame_of {p : Option Int} {b : List UInt8} (h1 : ¬ worst b) (h3 : ¬ mis p b) (h4 : 6 ≤ b.length) (h5 : sz b ≤ 8192) (h6 : 6 + sz b ≤ b.length) : hd p b = .frame (frOf b) (b.drop (6 + sz b)) := by
  unfold hd
  rw [if_neg h1, if_neg (by omega), if_neg h3, if_neg (by omega), if_neg (by omega), if_neg (by omega)]
theorem hd_frame_app {p : Option Int} {b : List UInt8} {f : Fr} {r : List UInt8} (h : hd p b = .frame f r) (x : List UInt8) : hd p (b ++ x) = .frame f (r ++ x) := by
  obtain ⟨h1, h2, h3, h4, h5, rfl, rfl⟩ := hd_frame h
  have hz := sz_app (b := b) (by omega) x
  rw [hd_frame_of (not_worst_app h1 (by omega) x) (fun k => h2 ((mis_app (by omega) x).1 k)) (by rw [List.length_append]; omega) (by rw [hz]; exact h4) (by rw [hz, List.length_append]; omega), frOf_app h5, hz, List.drop_append_of_le_length h5]
/-- What the reader told of the byte that came last. -/
def lookE (p : Option Int) (b : List UInt8) : Int :=
  if b.length = 1 ∧ nb b 0 ≠ 42 then 120 else if b.length = 2 ∧ (nb b 1 < 1 ∨ 5 < nb b 1) then 120 else if b.length = 4 ∧ mis p b then 121 else if b.length = 6 ∧ 8192 < sz b then 1 else 0
/-- The bytes of Data, as the reader keeps them. -/
def szv (b : List UInt8) : Nat := if 6 ≤ b.length then sz b else 0
theorem hd_part_parts {p : Option Int} {b : List UInt8} (h : hd p b = .part) : ¬ worst b ∧ (4 ≤ b.length → ¬ mis p b) ∧ (6 ≤ b.length → sz b ≤ 8192 ∧ b.length < 6 + sz b) := by
  unfold hd at h
  by_cases h1 : worst b
  · rw [if_pos h1] at h; cases h
  rw [if_neg h1] at h
  refine ⟨h1, ?_, ?_⟩
  · intro h2 h3
    rw [if_neg (by omega), if_pos h3] at h
    cases h
  · intro h4
    rw [if_neg (by omega)] at h
    by_cases h3 : mis p b
    · rw [if_pos h3] at h; cases h
    rw [if_neg h3, if_neg (by omega)] at h
    by_cases h5 : 8192 < sz b
    · rw [if_pos h5] at h; cases h
    rw [if_neg h5] at h
    by_cases h6 : b.length < 6 + sz b
    · exact ⟨by omega, h6⟩
    · rw [if_neg h6] at h; cases h
theorem part_len {p : Option Int} {b : List UInt8} (h : hd p b = .part) : b.length ≤ 8197 := by
  have := (hd_part_parts h).2.2
  by_cases h6 : 6 ≤ b.length
  · have := this h6; omega
  · omega
/-- One byte more: what the reader tells is what the bytes begin with. -/
theorem hd_step {p : Option Int} {b : List UInt8} (h : hd p b = .part) (c : UInt8) :
    hd p (b ++ [c]) = if lookE p (b ++ [c]) ≠ 0 then .bad (lookE p (b ++ [c])) else if (b ++ [c]).length = 6 + szv (b ++ [c]) then .frame (frOf (b ++ [c])) [] else .part := by
  obtain ⟨h1, h2, h3⟩ := hd_part_parts h
  have hl : (b ++ [c]).length = b.length + 1 := by simp
  have W : worst (b ++ [c]) ↔ ((b ++ [c]).length = 1 ∧ nb (b ++ [c]) 0 ≠ 42) ∨ ((b ++ [c]).length = 2 ∧ (nb (b ++ [c]) 1 < 1 ∨ 5 < nb (b ++ [c]) 1)) := by
    rw [hl]
    by_cases k : 2 ≤ b.length
    · constructor
      · intro w; exact absurd w (not_worst_app h1 k _)
      · intro w; omega
    · unfold worst
      rw [hl]
      constructor
      · rintro (⟨_, w⟩ | ⟨w0, w⟩)
        · by_cases k0 : b.length = 0
          · exact .inl ⟨by omega, w⟩
          · exfalso
            rw [nb_app (by omega)] at w
            exact h1 (.inl ⟨by omega, w⟩)
        · exact .inr ⟨by omega, w⟩
      · rintro (⟨_, w⟩ | ⟨w0, w⟩)
        · exact .inl ⟨by omega, w⟩
        · exact .inr ⟨by omega, w⟩
  have M : 4 ≤ (b ++ [c]).length → (mis p (b ++ [c]) ↔ (b ++ [c]).length = 4 ∧ mis p (b ++ [c])) := by
    intro k
    rw [hl] at k ⊢
    by_cases k2 : b.length + 1 = 4
    · exact ⟨fun w => ⟨k2, w⟩, fun w => w.2⟩
    · exact ⟨fun w => absurd ((mis_app (by omega) _).1 w) (h2 (by omega)), fun w => w.2⟩
  have Z : 6 ≤ (b ++ [c]).length → (8192 < sz (b ++ [c]) ↔ (b ++ [c]).length = 6 ∧ 8192 < sz (b ++ [c])) := by
    intro k
    rw [hl] at k ⊢
    by_cases k2 : b.length + 1 = 6
    · exact ⟨fun w => ⟨k2, w⟩, fun w => w.2⟩
    · refine ⟨fun w => ?_, fun w => w.2⟩
      rw [sz_app (by omega)] at w
      have := (h3 (by omega)).1
      omega
  have F : 6 ≤ (b ++ [c]).length → (b ++ [c]).length ≤ 6 + sz (b ++ [c]) := by
    intro k
    rw [hl] at k ⊢
    by_cases k2 : b.length + 1 = 6
    · omega
    · rw [sz_app (by omega)]
      have := (h3 (by omega)).2
      omega
  generalize b ++ [c] = d at *
  clear h h1 h2 h3
  unfold hd lookE szv
  by_cases c1 : d.length = 1 ∧ nb d 0 ≠ 42
  · rw [if_pos (W.2 (.inl c1)), if_pos c1]
    simp
  by_cases c2 : d.length = 2 ∧ (nb d 1 < 1 ∨ 5 < nb d 1)
  · rw [if_pos (W.2 (.inr c2)), if_neg c1, if_pos c2]
    simp
  rw [if_neg (fun w => (W.1 w).elim c1 c2), if_neg c1, if_neg c2]
  by_cases c3 : d.length < 4
  · rw [if_pos c3, if_neg (show ¬ (d.length = 4 ∧ mis p d) by omega), if_neg (show ¬ (d.length = 6 ∧ 8192 < sz d) by omega), if_neg (show ¬ ((0 : Int) ≠ 0) by decide), if_neg (show ¬ 6 ≤ d.length by omega), if_neg (by omega)]
  rw [if_neg c3]
  by_cases c4 : mis p d
  · rw [if_pos c4, if_pos ((M (by omega)).1 c4)]
    simp
  rw [if_neg c4, if_neg (show ¬ (d.length = 4 ∧ mis p d) from fun w => c4 w.2)]
  by_cases c5 : d.length < 6
  · rw [if_pos c5, if_neg (show ¬ (d.length = 6 ∧ 8192 < sz d) by omega), if_neg (show ¬ ((0 : Int) ≠ 0) by decide), if_neg (show ¬ 6 ≤ d.length by omega), if_neg (by omega)]
  rw [if_neg c5]
  by_cases c6 : 8192 < sz d
  · rw [if_pos c6, if_pos ((Z (by omega)).1 c6)]
    simp
  rw [if_neg c6, if_neg (show ¬ (d.length = 6 ∧ 8192 < sz d) from fun w => c6 w.2), if_neg (show ¬ ((0 : Int) ≠ 0) by decide), if_pos (show 6 ≤ d.length by omega)]
  have := F (by omega)
  by_cases c7 : d.length < 6 + sz d
  · rw [if_pos c7, if_neg (by omega)]
  · rw [if_neg c7, if_pos (by omega), List.drop_of_length_le (by omega)]

/-- A reader: the Seq of the frame ahead, what was read of the frame under way, what was wrong. -/
structure St where
  p : Option Int
  b : List UInt8
  e : Int
def stp (s : St) (c : UInt8) : St × List Fr :=
  if s.e ≠ 0 then (s, []) else match hd s.p (s.b ++ [c]) with
    | .part => (⟨s.p, s.b ++ [c], 0⟩, [])
    | .bad e => (⟨s.p, [], e⟩, [])
    | .frame f _ => (⟨some f.q, [], 0⟩, [f])
def run : St → List UInt8 → St × List Fr
  | s, [] => (s, [])
  | s, c :: l => ((run (stp s c).1 l).1, (stp s c).2 ++ (run (stp s c).1 l).2)
def st0 : St := ⟨none, [], 0⟩
theorem run_nil (s : St) : run s [] = (s, []) := by rw [run]
theorem run_append : ∀ (s : St) (a b : List UInt8), run s (a ++ b) = ((run (run s a).1 b).1, (run s a).2 ++ (run (run s a).1 b).2)
  | s, [], b => by rw [run_nil]; rfl
  | s, c :: a, b => by
    rw [List.cons_append, run, run, run_append (stp s c).1 a b]
    simp [List.append_assoc]
theorem run_snoc (s : St) (a : List UInt8) (c : UInt8) : run s (a ++ [c]) = ((stp (run s a).1 c).1, (run s a).2 ++ (stp (run s a).1 c).2) := by
  rw [run_append, run, run_nil]
  simp
theorem stp_err {s : St} (h : s.e ≠ 0) (c : UInt8) : stp s c = (s, []) := by unfold stp; rw [if_pos h]
theorem run_err {s : St} (h : s.e ≠ 0) : ∀ l, run s l = (s, [])
  | [] => run_nil s
  | c :: l => by rw [run, stp_err h, run_err h l]; rfl
/-- What holds of a reader. -/
structure Good (s : St) : Prop where
  part : s.e = 0 → hd s.p s.b = .part
  none : s.e ≠ 0 → s.b = []
theorem good0 : Good st0 := ⟨fun _ => hd_nil _, fun h => absurd rfl h⟩
theorem Good.len {s : St} (h : Good s) : s.b.length ≤ 8197 := by
  by_cases e : s.e = 0
  · exact part_len (h.part e)
  · rw [h.none e]; simp
theorem Good.stp {s : St} (h : Good s) (c : UInt8) : Good (stp s c).1 := by
  unfold Go.Proofs.Ytpdhjifocdbbdaa.stp
  split
  · exact h
  rename_i he
  split
  · rename_i e; exact ⟨fun _ => e, fun k => absurd rfl k⟩
  · rename_i e x
    refine ⟨fun k => ?_, fun _ => rfl⟩
    exact hd_nil _
  · exact ⟨fun _ => hd_nil _, fun k => absurd rfl k⟩
theorem Good.run {s : St} (h : Good s) : ∀ l, Good (run s l).1 := by
  intro l
  induction l generalizing s with
  | nil => rw [run_nil]; exact h
  | cons c l ih => rw [Go.Proofs.Ytpdhjifocdbbdaa.run]; exact ih (h.stp c)
theorem lookE_bad {p : Option Int} {b : List UInt8} {e : Int} {c : UInt8} (h : hd p b = .part) (h2 : hd p (b ++ [c]) = .bad e) : e ≠ 0 := by
  rw [hd_step h] at h2
  split at h2
  · rename_i k
    injection h2 with h3
    rw [← h3]
    exact k
  · split at h2 <;> cases h2
theorem frame_rest {p : Option Int} {b : List UInt8} {f : Fr} {r : List UInt8} {c : UInt8} (h : hd p b = .part) (h2 : hd p (b ++ [c]) = .frame f r) : r = [] := by
  rw [hd_step h] at h2
  split at h2
  · cases h2
  · split at h2
    · injection h2 with _ h3; exact h3.symm
    · cases h2
/-- All at once: what the bytes begin with is what the reader comes to. -/
theorem run_part {p : Option Int} : ∀ {l b : List UInt8}, hd p b = .part → hd p (b ++ l) = .part → run ⟨p, b, 0⟩ l = (⟨p, b ++ l, 0⟩, [])
  | [], b, _, _ => by rw [run_nil, List.append_nil]
  | c :: l, b, h, h2 => by
    have e : b ++ c :: l = (b ++ [c]) ++ l := by simp
    rw [e] at h2 ⊢
    have h3 : hd p (b ++ [c]) = .part := by
      cases k : hd p (b ++ [c]) with
      | part => rfl
      | bad e => rw [hd_bad_app k] at h2; cases h2
      | frame f r => rw [hd_frame_app k] at h2; cases h2
    have hs : stp ⟨p, b, 0⟩ c = (⟨p, b ++ [c], 0⟩, []) := by
      unfold stp
      rw [if_neg (by simp)]
      show (match hd p (b ++ [c]) with | .part => _ | .bad e => _ | .frame f _ => _) = _
      rw [h3]
    rw [run, hs, run_part h3 h2]
    rfl
theorem run_bad {p : Option Int} {e : Int} : ∀ {l b : List UInt8}, hd p b = .part → hd p (b ++ l) = .bad e → run ⟨p, b, 0⟩ l = (⟨p, [], e⟩, []) ∧ e ≠ 0
  | [], b, h, h2 => by rw [List.append_nil, h] at h2; cases h2
  | c :: l, b, h, h2 => by
    have e1 : b ++ c :: l = (b ++ [c]) ++ l := by simp
    rw [e1] at h2
    cases k : hd p (b ++ [c]) with
    | part =>
      have hs : stp ⟨p, b, 0⟩ c = (⟨p, b ++ [c], 0⟩, []) := by
        unfold stp
        rw [if_neg (by simp)]
        show (match hd p (b ++ [c]) with | .part => _ | .bad e => _ | .frame f _ => _) = _
        rw [k]
      obtain ⟨i1, i2⟩ := run_bad k h2
      rw [run, hs, i1]
      exact ⟨rfl, i2⟩
    | bad e2 =>
      have h4 := hd_bad_app k l
      rw [h2] at h4
      injection h4 with h4
      subst h4
      have he := lookE_bad h k
      have hs : stp ⟨p, b, 0⟩ c = (⟨p, [], e⟩, []) := by
        unfold stp
        rw [if_neg (by simp)]
        show (match hd p (b ++ [c]) with | .part => _ | .bad e => _ | .frame f _ => _) = _
        rw [k]
      rw [run, hs, run_err he]
      exact ⟨rfl, he⟩
    | frame f r => rw [hd_frame_app k] at h2; cases h2
theorem run_frame {p : Option Int} {f : Fr} {r : List UInt8} : ∀ {l b : List UInt8}, hd p b = .part → hd p (b ++ l) = .frame f r → run ⟨p, b, 0⟩ l = ((run ⟨some f.q, [], 0⟩ r).1, f :: (run ⟨some f.q, [], 0⟩ r).2)
  | [], b, h, h2 => by rw [List.append_nil, h] at h2; cases h2
  | c :: l, b, h, h2 => by
    have e1 : b ++ c :: l = (b ++ [c]) ++ l := by simp
    rw [e1] at h2
    cases k : hd p (b ++ [c]) with
    | part =>
      have hs : stp ⟨p, b, 0⟩ c = (⟨p, b ++ [c], 0⟩, []) := by
        unfold stp
        rw [if_neg (by simp)]
        show (match hd p (b ++ [c]) with | .part => _ | .bad e => _ | .frame f _ => _) = _
        rw [k]
      rw [run, hs, run_frame k h2]
      rfl
    | bad e2 => rw [hd_bad_app k] at h2; cases h2
    | frame f2 r2 =>
      have hr := frame_rest h k
      subst hr
      have h4 := hd_frame_app k l
      rw [h2] at h4
      injection h4 with h5 h6
      subst h5 h6
      have hs : stp ⟨p, b, 0⟩ c = (⟨some f.q, [], 0⟩, [f]) := by
        unfold stp
        rw [if_neg (by simp)]
        show (match hd p (b ++ [c]) with | .part => _ | .bad e => _ | .frame f _ => _) = _
        rw [k]
      rw [run, hs]
      rfl
end Go.Proofs.Ytpdhjifocdbbdaa
