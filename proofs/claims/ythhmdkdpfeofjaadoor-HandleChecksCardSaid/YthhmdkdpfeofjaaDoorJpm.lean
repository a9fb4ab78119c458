/- Plain mathematics of addresses, further: bytes of a text that are among some others; a domain's pieces; the case of letters. No condition; nothing of the program stands here. -/
import Derived.Test.YthhmdkdpfeofjaaDoorJpl
import Derived.Test.YthhmdkdpfeofjaaDoorSame
namespace Go.Proofs.YthhmdkdpfeofjaaDoor.Jd
open Go Go.Lib Sg

theorem enc_any {p : UInt8 → Bool} (hp : ∀ b : UInt8, 128 ≤ b.toNat → p b = false) {c : Nat} (hc : Sg.ok c = true) : (enc c).any p = (decide (c < 128) && p (u c)) := by
  by_cases h : c < 128
  · rw [enc_small h]; simp [h]
  · have hh := enc_high (ok_sg hc) h
    simp only [h, decide_false, Bool.false_and]
    rw [List.any_eq_false]
    intro b hb
    rw [hp b (hh b hb)]
    exact Bool.false_ne_true
theorem bar4_high (b : UInt8) (h : 128 ≤ b.toNat) : bar4 b = false := by
  rw [Bool.eq_false_iff]; unfold bar4
  intro e
  simp only [List.contains_eq_mem, List.mem_cons, List.not_mem_nil, or_false, decide_eq_true_eq] at e
  rcases e with rfl | rfl | rfl | rfl <;> revert h <;> decide
theorem barN_high (b : UInt8) (h : 128 ≤ b.toNat) : barN b = false := by
  rw [Bool.eq_false_iff]; unfold barN
  intro e
  simp only [List.contains_eq_mem, List.mem_cons, List.not_mem_nil, or_false, decide_eq_true_eq] at e
  rcases e with rfl | rfl | rfl | rfl | rfl | rfl | rfl | rfl | rfl <;> revert h <;> decide
theorem bar4_all : ∀ x : Fin 128, (plain x.val = true) → bar4 (u x.val) = (decide (x.val < 32) || decide (x.val = 127)) := by decide +kernel
def low31 (c : Nat) : Bool := decide (c < 32) || decide (c = 127)
theorem enc_bar {c : Nat} (hc : Sg.ok c = true) : (enc c).any bar4 = low31 c := by
  rw [enc_any bar4_high hc]
  unfold low31
  by_cases h : c < 128
  · rw [bar4_all ⟨c, h⟩ (ok_plain hc)]; simp [h]
  · have h1 : ¬ c < 32 := by omega
    have h2 : ¬ c = 127 := by omega
    simp [h, h1, h2]
theorem cat_bar : ∀ {cs : List Nat}, (∀ c ∈ cs, Sg.ok c = true) → (cat cs).any bar4 = cs.any low31
  | [], _ => rfl
  | c :: cs, h => by
    rw [cat_cons, List.any_append, List.any_cons, enc_bar (h c (List.mem_cons_self ..)), cat_bar fun d hd => h d (List.mem_cons_of_mem _ hd)]
theorem okp_text {l : List UInt8} {cs : List Nat} (h : IsT l cs) : okp l = (decide (l.length ≤ 1023) && !cs.any low31) := by
  rw [Bool.eq_iff_iff, okp_iff, Bool.and_eq_true, decide_eq_true_eq, Bool.not_eq_true']
  have e : l.any bar4 = cs.any low31 := by rw [h.2, cat_bar h.1]
  unfold part
  rw [e]
  exact ⟨fun ⟨a, _, c⟩ => ⟨a, c⟩, fun ⟨a, c⟩ => ⟨a, ⟨cs, h⟩, c⟩⟩
theorem okp_none {l : List UInt8} (h : ∀ cs, ¬ IsT l cs) : okp l = false := by
  rw [Bool.eq_false_iff, ne_eq, okp_iff]
  rintro ⟨_, ⟨cs, hc⟩, _⟩
  exact h cs hc

/-! ### A domain's pieces -/
def okPiece (p : List UInt8) : Bool := !p.isEmpty && p.all ld
theorem dm_none : ∀ {p : Bool} {l : List UInt8}, (46 : UInt8) ∉ l → dm p l = ((!l.isEmpty || !p) && l.all ld)
  | p, [], _ => by simp [dm]
  | p, b :: r, h => by
    simp only [List.mem_cons, not_or] at h
    rw [dm, if_neg (fun e => h.1 e.symm), dm_none h.2]
    simp
theorem dm_cut : ∀ {p : Bool} {x : List UInt8} (y : List UInt8), (46 : UInt8) ∉ x → dm p (x ++ 46 :: y) = ((!x.isEmpty || !p) && x.all ld && dm true y)
  | p, [], y, _ => by simp [dm]
  | p, b :: r, y, h => by
    simp only [List.mem_cons, not_or] at h
    rw [List.cons_append, dm, if_neg (fun e => h.1 e.symm), dm_cut y h.2]
    simp [Bool.and_assoc]
theorem split_dm : ∀ (k : Nat) (l : List UInt8), l.count 46 ≤ k → (splitK [46] 0 k l).all okPiece = dm true l
  | 0, l, h => by
    have h0 : (46 : UInt8) ∉ l := List.count_eq_zero.1 (by omega)
    rw [dm_none h0]
    simp [splitK, okPiece]
  | k + 1, l, h => by
    rw [splitK, index_byte, indexByte_cut]
    cases hc : cut1 46 l with
    | none =>
      rw [dm_none (cut1_none hc)]
      simp [okPiece]
    | some p =>
      obtain ⟨x, y⟩ := p
      obtain ⟨rfl, hx⟩ := cut1_some hc
      simp only
      rw [if_neg (by simp), dm_cut y hx, List.all_cons]
      have e1 : (x ++ 46 :: y).take (((x.length : Int)).toNat + 0) = x := by simp
      have e2 : (x ++ 46 :: y).drop (((x.length : Int)).toNat + ([46] : List UInt8).length) = y := by simp [List.drop_append]
      have hy : y.count 46 ≤ k := by
        rw [List.count_append, List.count_cons_self] at h; omega
      rw [e1, e2, split_dm k y hy]
      simp [okPiece]
theorem all_map {α β : Type} (f : α → β) (p : β → Bool) : ∀ l : List α, (l.map f).all p = l.all fun x => p (f x)
  | [] => rfl
  | a :: l => by rw [List.map_cons, List.all_cons, List.all_cons, all_map f p l]
theorem pieces (s : ByteArray) : ((splitB ⟨#[46]⟩ 0 (countB s ⟨#[46]⟩) s).all fun p => okPiece p.data.toList) = dm true s.data.toList := by
  have h := splitB_data ⟨#[46]⟩ 0 (countB s ⟨#[46]⟩) s
  rw [← all_map (fun p : ByteArray => p.data.toList) okPiece, h]
  refine split_dm _ _ ?_
  show _ ≤ count s.data.toList [46]
  rw [count_one]
  exact Nat.le_refl _
theorem trim_empty (l : List UInt8) : Lib.trimS l letters = [] ↔ l.all ld = true := by
  have hp : ∀ m : List UInt8, m.dropWhile (letters.contains ·) = [] ↔ m.all ld = true := by
    intro m
    constructor
    · intro h
      obtain ⟨t, ht, ha⟩ := dropWhile_split (p := (letters.contains ·)) m
      rw [h, List.append_nil] at ht
      subst ht
      exact List.all_eq_true.2 ha
    · intro h
      exact dropWhile_all (List.all_eq_true.1 h)
  unfold Lib.trimS Lib.trimLeftS Lib.trimRightS
  rw [hp, List.all_reverse]
  obtain ⟨t, ht, ha⟩ := dropWhile_split (p := (letters.contains ·)) l.reverse
  have hl : l.all ld = l.reverse.all ld := List.all_reverse.symm
  rw [hl]
  constructor
  · intro h
    rw [ht, List.all_append, h, Bool.and_true]
    exact List.all_eq_true.2 ha
  · intro h
    rw [ht, List.all_append, Bool.and_eq_true] at h
    exact h.2

/-! ### The case of letters -/
theorem low_c : ∀ x : Fin 256, ((low (u x.val) == 47) = (u x.val == 47)) ∧ ((low (u x.val) == 64) = (u x.val == 64)) := by decide +kernel
theorem low47 (a : UInt8) : low a = 47 ↔ a = 47 := by
  have h := (low_c ⟨a.toNat, lt256 a⟩).1
  rw [show u a.toNat = a from u_of rfl] at h
  constructor
  · intro e; rw [e] at h; simpa using h.symm
  · intro e; rw [e]; decide
theorem low64 (a : UInt8) : low a = 64 ↔ a = 64 := by
  have h := (low_c ⟨a.toNat, lt256 a⟩).2
  rw [show u a.toNat = a from u_of rfl] at h
  constructor
  · intro e; rw [e] at h; simpa using h.symm
  · intro e; rw [e]; decide
theorem fold_cons (b : UInt8) (r : List UInt8) : foldL (b :: r) = low b :: foldL r := rfl
theorem fold_append (a b : List UInt8) : foldL (a ++ b) = foldL a ++ foldL b := by simp [foldL]
theorem cut1_fold {c : UInt8} (hc : ∀ a, low a = c ↔ a = c) : ∀ l : List UInt8, cut1 c (foldL l) = (cut1 c l).map fun p => (foldL p.1, foldL p.2)
  | [] => rfl
  | b :: r => by
    rw [fold_cons, cut1, cut1, cut1_fold hc r]
    by_cases e : b = c
    · rw [if_pos e, if_pos ((hc b).2 e)]; rfl
    · rw [if_neg e, if_neg (fun x => e ((hc b).1 x))]
      cases cut1 c r <;> rfl
theorem fold_empty {l : List UInt8} : foldL l = [] ↔ l = [] := by simp [foldL]
theorem norm_fold (n d r : List UInt8) : norm ⟨foldL n, foldL d, r⟩ = norm ⟨n, d, r⟩ := by
  unfold norm; simp only [foldL_foldL]
theorem fin_fold (n d r : List UInt8) : fin ⟨foldL n, foldL d, r⟩ = fin ⟨n, d, r⟩ := by unfold fin; rw [norm_fold]
theorem ps2_low (l r : List UInt8) : ps2 (foldL l) r = ps2 l r := by
  unfold ps2
  rw [cut1_fold low64]
  cases cut1 64 l with
  | none => exact fin_fold [] l r
  | some p =>
    simp only [Option.map_some]
    by_cases e : p.1 = []
    · rw [if_pos e, if_pos (fold_empty.2 e)]
    · rw [if_neg e, if_neg (fun x => e (fold_empty.1 x))]
      exact fin_fold _ _ _
theorem ps2_same {l m : List UInt8} (h : foldL l = foldL m) (r : List UInt8) : ps2 l r = ps2 m r := by
  rw [← ps2_low l, h, ps2_low]
theorem cut1_append {c : UInt8} (y : List UInt8) : ∀ {x : List UInt8}, c ∉ x → cut1 c (x ++ y) = (cut1 c y).map fun p => (x ++ p.1, p.2)
  | [], _ => by simp
  | b :: r, h => by
    simp only [List.mem_cons, not_or] at h
    rw [List.cons_append, cut1, if_neg (fun e => h.1 e.symm), cut1_append y h.2]
    cases cut1 c y <;> rfl
/-- Ahead of the first 47 the case of a letter has no part. -/
theorem case_ahead {a r : List UInt8} {b b' : UInt8} (ha : (47 : UInt8) ∉ a) (h1 : b ≠ 47) (h2 : b' ≠ 47) (hl : low b = low b') : ps (a ++ b :: r) = ps (a ++ b' :: r) := by
  have e : ∀ x, foldL (a ++ b :: x) = foldL (a ++ b' :: x) := fun x => by rw [fold_append, fold_append, fold_cons, fold_cons, hl]
  have m1 : (47 : UInt8) ∉ a ++ [b] := by simp only [List.mem_append, List.mem_singleton, not_or]; exact ⟨ha, fun x => h1 x.symm⟩
  have m2 : (47 : UInt8) ∉ a ++ [b'] := by simp only [List.mem_append, List.mem_singleton, not_or]; exact ⟨ha, fun x => h2 x.symm⟩
  have c1 := cut1_append r m1
  have c2 := cut1_append r m2
  rw [List.append_assoc, List.singleton_append] at c1 c2
  unfold ps
  rw [c1, c2]
  cases cut1 47 r with
  | none => exact ps2_same (e r) []
  | some p =>
    simp only [Option.map_some, List.append_assoc, List.singleton_append]
    split
    · rfl
    · exact ps2_same (e p.1) p.2
theorem fin_res {n d r r' : List UInt8} (h : part r ↔ part r') (hne : r ≠ r') : (fin ⟨n, d, r⟩ = none ∧ fin ⟨n, d, r'⟩ = none) ∨ ∃ j k, fin ⟨n, d, r⟩ = some j ∧ fin ⟨n, d, r'⟩ = some k ∧ j.n = k.n ∧ j.d = k.d ∧ j.r ≠ k.r := by
  have e : ok (norm ⟨n, d, r⟩) = ok (norm ⟨n, d, r'⟩) := by
    rw [Bool.eq_iff_iff, ok_iff, ok_iff]
    unfold Ok norm
    simp only [h]
  unfold fin
  rw [e]
  cases ok (norm ⟨n, d, r'⟩) with
  | false => exact .inl ⟨rfl, rfl⟩
  | true => exact .inr ⟨_, _, rfl, rfl, rfl, rfl, hne⟩
theorem ps2_res {l r r' : List UInt8} (h : part r ↔ part r') (hne : r ≠ r') : (ps2 l r = none ∧ ps2 l r' = none) ∨ ∃ j k, ps2 l r = some j ∧ ps2 l r' = some k ∧ j.n = k.n ∧ j.d = k.d ∧ j.r ≠ k.r := by
  unfold ps2
  cases cut1 64 l with
  | none => exact fin_res h hne
  | some p =>
    simp only
    split
    · exact .inl ⟨rfl, rfl⟩
    · exact fin_res h hne
/-- Behind it the case has a part. -/
theorem case_behind {a r : List UInt8} {b b' : UInt8} (ha : (47 : UInt8) ∈ a) (hne : b ≠ b') (h1 : 65 ≤ b.toNat ∧ b.toNat ≤ 122) (h2 : 65 ≤ b'.toNat ∧ b'.toNat ≤ 122) :
    (ps (a ++ b :: r) = none ∧ ps (a ++ b' :: r) = none) ∨ ∃ j k, ps (a ++ b :: r) = some j ∧ ps (a ++ b' :: r) = some k ∧ j.n = k.n ∧ j.d = k.d ∧ j.r ≠ k.r := by
  cases hc : cut1 47 a with
  | none => exact absurd ha (cut1_none hc)
  | some p =>
    obtain ⟨x, y⟩ := p
    obtain ⟨rfl, hx⟩ := cut1_some hc
    have e : ∀ b : UInt8, x ++ 47 :: y ++ b :: r = x ++ 47 :: (y ++ b :: r) := fun b => by simp
    unfold ps
    rw [e, e, cut1_at _ hx, cut1_at _ hx]
    simp only
    rw [if_neg (by simp), if_neg (by simp)]
    refine ps2_res ?_ (fun x => hne (by have := List.append_cancel_left x; injection this))
    have hb : ∀ c : UInt8, 65 ≤ c.toNat ∧ c.toNat ≤ 122 → bar4 c = false := by
      intro c hc
      rw [Bool.eq_false_iff]; unfold bar4
      intro e
      simp only [List.contains_eq_mem, List.mem_cons, List.not_mem_nil, or_false, decide_eq_true_eq] at e
      rcases e with rfl | rfl | rfl | rfl <;> revert hc <;> decide
    unfold part
    rw [List.length_append, List.length_append, List.length_cons, List.length_cons, List.any_append, List.any_append, List.any_cons, List.any_cons, hb b h1, hb b' h2]
    exact and_congr Iff.rfl (and_congr ⟨fun h => h.put (by omega) (by omega), fun h => h.put (by omega) (by omega)⟩ Iff.rfl)

end Go.Proofs.YthhmdkdpfeofjaaDoor.Jd
