/- Plain mathematics of names on lists of bytes: which may be, their plain form, their address, an address's name; there and back. No condition; nothing of the program stands here. -/
import Derived.Test.YthhmdkdpfeofjaaDoorJpm
import Derived.Test.YthhmdkdpfeofjaaDoorEsc
namespace Go.Proofs.YthhmdkdpfeofjaaDoor.Hd
open Go Go.Lib Sg Jd

def lt (b : Nat) : Bool := (decide (97 ≤ b) && decide (b ≤ 122)) || (decide (65 ≤ b) && decide (b ≤ 90))
def dgt (b : Nat) : Bool := decide (48 ≤ b) && decide (b ≤ 57)
def may (b : Nat) : Bool := lt b || dgt b || b == 32 || b == 46 || b == 64
def numb (l : List UInt8) : Bool := decide (5 ≤ l.length) && decide (l.length ≤ 9) && !(nb l 0 == 48) && l.all (fun b => dgt b.toNat)
def sol (l : List UInt8) : Nat := l.countP (fun b => !(b == 32))
def ats (l : List UInt8) : Nat := l.countP (fun b => b == 64)
def lst (l : List UInt8) : Nat := nb l (l.length - 1)
def scr (l : List UInt8) : Bool := decide (l.length ≤ 16) && lt (nb l 0) && l.all (fun b => may b.toNat) && decide (3 ≤ sol l) && decide (ats l ≤ 1) && !(lst l == 32) && !(lst l == 64)
def nm (l : List UInt8) : Bool := numb l || scr l
/-- Without blanks. -/
def nob (l : List UInt8) : List UInt8 := l.filter fun b => !(b == 32)
/-- The plain form. -/
def nl (l : List UInt8) : List UInt8 := nob (foldL l)

theorem at_nb {l : List UInt8} {k : Nat} (h : k < l.length) : l[k] = u (nb l k) := by
  unfold nb
  rw [List.getD_eq_getElem?_getD, List.getElem?_eq_getElem h]
  exact (u_of rfl).symm
theorem take_step {l : List UInt8} {k : Nat} (h : k < l.length) : l.take (k + 1) = l.take k ++ [u (nb l k)] := by
  rw [List.take_succ_eq_append_getElem h, at_nb h]
theorem u32 {x : Nat} (h : x < 256) : (u x == 32) = (x == 32) := by
  rw [Bool.eq_iff_iff]; simp only [beq_iff_eq]
  constructor
  · intro e; have := congrArg UInt8.toNat e; rwa [u_nat h] at this
  · intro e; subst e; rfl
theorem u64 {x : Nat} (h : x < 256) : (u x == 64) = (x == 64) := by
  rw [Bool.eq_iff_iff]; simp only [beq_iff_eq]
  constructor
  · intro e; have := congrArg UInt8.toNat e; rwa [u_nat h] at this
  · intro e; subst e; rfl
theorem sol_step {l : List UInt8} {k x : Nat} (h : k < l.length) (hx : nb l k = x) : sol (l.take (k + 1)) = sol (l.take k) + if x = 32 then 0 else 1 := by
  have := nb_lt l k
  rw [take_step h, hx]
  unfold sol
  rw [List.countP_append, List.countP_cons, List.countP_nil, u32 (by omega)]
  by_cases e : x = 32 <;> simp [e]
theorem ats_step {l : List UInt8} {k x : Nat} (h : k < l.length) (hx : nb l k = x) : ats (l.take (k + 1)) = ats (l.take k) + if x = 64 then 1 else 0 := by
  have := nb_lt l k
  rw [take_step h, hx]
  unfold ats
  rw [List.countP_append, List.countP_cons, List.countP_nil, u64 (by omega)]
  by_cases e : x = 64 <;> simp [e]
theorem all_step {p : Nat → Bool} {l : List UInt8} {k x : Nat} (h : k < l.length) (hx : nb l k = x) (ha : (l.take k).all (fun b => p b.toNat) = true) (hp : p x = true) : (l.take (k + 1)).all (fun b => p b.toNat) = true := by
  have := nb_lt l k
  rw [take_step h, hx, List.all_append, ha]
  simp [u_nat (show x < 256 by omega), hp]
theorem all_not {p : Nat → Bool} {l : List UInt8} {k x : Nat} (h : k < l.length) (hx : nb l k = x) (hp : p x = false) : l.all (fun b => p b.toNat) = false := by
  have := nb_lt l k
  rw [Bool.eq_false_iff]
  intro e
  rw [List.all_eq_true] at e
  have h1 := e l[k] (List.getElem_mem h)
  rw [at_nb h, hx, u_nat (by omega), hp] at h1
  cases h1
theorem numb_no {l : List UInt8} {k x : Nat} (h : k < l.length) (hx : nb l k = x) (hp : dgt x = false) : numb l = false := by
  unfold numb; rw [all_not h hx hp, Bool.and_false]
theorem scr_no {l : List UInt8} {k x : Nat} (h : k < l.length) (hx : nb l k = x) (hp : may x = false) : scr l = false := by
  unfold scr; rw [all_not h hx hp]; simp
theorem scr_first {l : List UInt8} (hp : lt (nb l 0) = false) : scr l = false := by unfold scr; rw [hp]; simp
theorem scr_long {l : List UInt8} (h : 16 < l.length) : scr l = false := by unfold scr; simp; omega
theorem numb_yes {l : List UInt8} (h5 : 5 ≤ l.length) (h9 : l.length ≤ 9) (h0 : nb l 0 ≠ 48) (ha : (l.take l.length).all (fun b => dgt b.toNat) = true) : numb l = true := by
  rw [List.take_length] at ha
  unfold numb; rw [ha]; simp [h5, h9, h0]

/-! ### The plain form -/
theorem low_32 : ∀ x : Fin 256, (low (u x.val) == 32) = (u x.val == 32) := by decide +kernel
theorem low32 (a : UInt8) : (low a == 32) = (a == 32) := by
  have := low_32 ⟨a.toNat, UInt8.toNat_lt a⟩
  rwa [show u (⟨a.toNat, UInt8.toNat_lt a⟩ : Fin 256).val = a from u_of rfl] at this
theorem low_64 : ∀ x : Fin 256, (low (u x.val) == 64) = (u x.val == 64) := by decide +kernel
theorem lowAt (a : UInt8) : (low a == 64) = (a == 64) := by
  have := low_64 ⟨a.toNat, UInt8.toNat_lt a⟩
  rwa [show u (⟨a.toNat, UInt8.toNat_lt a⟩ : Fin 256).val = a from u_of rfl] at this
theorem low_low (a : UInt8) : low (low a) = low a := by
  refine UInt8.toNat_inj.1 ?_
  rw [low_nat, low_nat, lowN_low]
theorem fold_nob (l : List UInt8) : foldL (nob l) = nob (foldL l) := by
  unfold foldL nob
  rw [List.filter_map]
  congr 1
  refine List.filter_congr fun a _ => ?_
  simp only [Function.comp]
  rw [low32]
theorem nob_nob (l : List UInt8) : nob (nob l) = nob l := by unfold nob; rw [List.filter_filter]; simp
theorem nl_nl (l : List UInt8) : nl (nl l) = nl l := by
  unfold nl
  rw [fold_nob, nob_nob, foldL_foldL]
theorem nob_id {l : List UInt8} (h : ∀ b ∈ l, (b == 32) = false) : nob l = l := by
  unfold nob; rw [List.filter_eq_self]; intro b hb; rw [h b hb]; rfl
theorem nl_len (l : List UInt8) : (nl l).length = sol l := by
  unfold nl nob sol foldL
  rw [← List.countP_eq_length_filter, List.countP_map]
  refine List.countP_congr fun a _ => ?_
  simp only [Function.comp]
  rw [low32]
theorem nl_le (l : List UInt8) : (nl l).length ≤ l.length := by
  unfold nl nob
  have := List.length_filter_le (fun b : UInt8 => !(b == 32)) (foldL l)
  rwa [foldL_len] at this
/-- What stands in a plain form. -/
theorem nl_mem {l : List UInt8} {b : UInt8} (h : b ∈ nl l) : (b == 32) = false ∧ low b = b := by
  unfold nl nob at h
  obtain ⟨h1, h2⟩ := List.mem_filter.1 h
  refine ⟨by simpa using h2, ?_⟩
  unfold foldL at h1
  obtain ⟨a, _, rfl⟩ := List.mem_map.1 h1
  exact low_low a
theorem low_small {b : UInt8} (h : low b = b) : ¬ (65 ≤ b.toNat ∧ b.toNat ≤ 90) := by
  intro e
  have h1 := congrArg UInt8.toNat h
  rw [low_nat] at h1
  unfold lowN at h1
  rw [if_pos e] at h1
  omega
theorem nl_append (a b : List UInt8) : nl (a ++ b) = nl a ++ nl b := by unfold nl nob foldL; simp
theorem nl_blank : nl [32] = [] := by decide
/-- A blank more or less has no part. -/
theorem nl_more (s : List UInt8) (k : Nat) : nl (s.take k ++ [32] ++ s.drop k) = nl s := by
  rw [nl_append, nl_append, nl_blank, List.append_nil, ← nl_append, List.take_append_drop]
theorem lt_low {x : Nat} (hx : lt x = true) : lt (lowN x) = true := by
  unfold lt at hx ⊢; unfold lowN
  simp at hx ⊢
  split <;> omega
theorem may_low {x : Nat} (hx : may x = true) : may (lowN x) = true := by
  unfold may lt dgt at hx ⊢; unfold lowN
  simp at hx ⊢
  split <;> omega
theorem dgt_low {x : Nat} (hx : dgt x = true) : lowN x = x ∧ x ≠ 32 := by
  unfold dgt at hx; unfold lowN
  simp at hx
  constructor
  · rw [if_neg (by omega)]
  · omega
theorem numb_nl {l : List UInt8} (h : numb l = true) : nl l = l := by
  unfold numb at h
  simp only [Bool.and_eq_true] at h
  obtain ⟨_, ha⟩ := h
  rw [List.all_eq_true] at ha
  unfold nl
  have e : foldL l = l := by
    unfold foldL
    rw [List.map_congr_left (g := id) (fun a hm => UInt8.toNat_inj.1 (by rw [low_nat]; exact (dgt_low (ha a hm)).1)), List.map_id]
  rw [e]
  exact nob_id fun b hb => by
    have := (dgt_low (ha b hb)).2
    rw [beq_eq_false_iff_ne]
    intro e
    subst e
    exact this rfl
theorem lst_last {l : List UInt8} (h : l ≠ []) : lst l = (l.getLast h).toNat := by
  have hl : 0 < l.length := List.length_pos_iff.2 h
  unfold lst nb
  rw [List.getLast_eq_getElem, List.getD_eq_getElem?_getD, List.getElem?_eq_getElem (by omega)]
  rfl
theorem nb_zero {a : UInt8} {r : List UInt8} : nb (a :: r) 0 = a.toNat := rfl
/-- The plain form of a screen name is one. -/
theorem scr_nl {l : List UInt8} (h : scr l = true) : scr (nl l) = true := by
  have hlen := nl_len l
  have hle := nl_le l
  unfold scr at h
  simp only [Bool.and_eq_true, decide_eq_true_eq, Bool.not_eq_true'] at h
  obtain ⟨⟨⟨⟨⟨⟨h16, hf⟩, ha⟩, h3⟩, h1⟩, hb⟩, hc⟩ := h
  have hne : l ≠ [] := fun e => by subst e; simp [sol] at h3
  have hsol : sol (nl l) = sol l := by rw [← nl_len, nl_nl, hlen]
  have hats : ats (nl l) = ats l := by
    unfold ats nl nob foldL
    rw [List.countP_filter, List.countP_map]
    refine List.countP_congr fun a _ => ?_
    simp only [Function.comp]
    rw [lowAt, low32]
    by_cases e : a = 64
    · subst e; simp
    · have : (a == 64) = false := by simpa using e
      simp [this]
  have hall : (nl l).all (fun b => may b.toNat) = true := by
    rw [List.all_eq_true] at ha ⊢
    intro b hbm
    unfold nl nob foldL at hbm
    obtain ⟨hm, _⟩ := List.mem_filter.1 hbm
    obtain ⟨a, ham, rfl⟩ := List.mem_map.1 hm
    rw [low_nat]
    exact may_low (ha a ham)
  have hfirst : lt (nb (nl l) 0) = true := by
    cases l with
    | nil => exact absurd rfl hne
    | cons a r =>
      rw [nb_zero] at hf
      have e32 : (low a == 32) = false := by
        rw [beq_eq_false_iff_ne]
        intro e
        have := lt_low hf
        rw [← low_nat, e] at this
        revert this; decide
      have : nl (a :: r) = low a :: nl r := by
        unfold nl nob
        rw [show foldL (a :: r) = low a :: foldL r from rfl, List.filter_cons, e32]
        rfl
      rw [this, nb_zero, low_nat]
      exact lt_low hf
  have hlast : lst (nl l) = lowN (lst l) := by
    have e := List.dropLast_concat_getLast hne
    have e32 : (low (l.getLast hne) == 32) = false := by
      rw [low32, beq_eq_false_iff_ne]
      intro e2
      rw [lst_last hne, e2] at hb
      revert hb; decide
    have e2 : nl l = nl l.dropLast ++ [low (l.getLast hne)] := by
      conv => lhs; rw [← e]
      rw [nl_append]
      congr 1
      unfold nl nob
      rw [show foldL [l.getLast hne] = [low (l.getLast hne)] from rfl, List.filter_cons, e32]
      rfl
    rw [lst_last hne, e2, lst_last (by simp)]
    rw [List.getLast_concat, low_nat]
  unfold scr
  rw [hfirst, hall, hsol, hats, hlast]
  have hx : lowN (lst l) ≠ 32 ∧ lowN (lst l) ≠ 64 := by
    simp only [beq_eq_false_iff_ne] at hb hc
    unfold lowN
    split <;> omega
  have g : (nl l).length ≤ 16 := by omega
  simp [h3, h1, hx, g]
theorem nm_nl {l : List UInt8} (h : nm l = true) : nm (nl l) = true := by
  unfold nm at h ⊢
  rw [Bool.or_eq_true] at h ⊢
  rcases h with h | h
  · left; rw [numb_nl h]; exact h
  · right; exact scr_nl h
theorem nm_len {l : List UInt8} (h : nm l = true) : 3 ≤ (nl l).length ∧ l.length ≤ 16 := by
  unfold nm at h
  rw [Bool.or_eq_true] at h
  rcases h with h | h
  · have e := numb_nl h
    unfold numb at h
    simp only [Bool.and_eq_true, decide_eq_true_eq] at h
    rw [e]
    omega
  · unfold scr at h
    simp only [Bool.and_eq_true, decide_eq_true_eq] at h
    rw [nl_len]
    omega
/-- A plain form that is not empty may be escaped. -/
theorem nl_good {l : List UInt8} (h : nl l ≠ []) : Esc.bad (nl l) = false := by
  have key : ∀ k, k < (nl l).length → nb (nl l) k ≠ 32 := by
    intro k hk e
    have hm : (nl l)[k] ∈ nl l := List.getElem_mem hk
    have := (nl_mem hm).1
    rw [at_nb hk, e] at this
    revert this; decide
  have hl : 0 < (nl l).length := List.length_pos_iff.2 h
  unfold Esc.bad
  have e1 : (nl l).isEmpty = false := by simpa using h
  have e2 : (By.nb (nl l) 0 == 32) = false := beq_eq_false_iff_ne.2 (key 0 hl)
  have e3 : (By.nb (nl l) ((nl l).length - 1) == 32) = false := beq_eq_false_iff_ne.2 (key _ (by omega))
  rw [e1, e2, e3]
  rfl
theorem nm_good {l : List UInt8} (h : nm l = true) : Esc.bad (nl l) = false := nl_good fun e => by
  have := (nm_len h).1
  rw [e] at this
  simp at this
theorem back {l : List UInt8} (h : nm l = true) : Esc.U true (Esc.E (nl l)) = nl l := Esc.back (nm_good h)

/-! ### Addresses -/
/-- The address of a name. -/
noncomputable def toj (s d : List UInt8) : Option J := if nm s = true ∧ ok ⟨Esc.E (nl s), d, []⟩ = true then some ⟨Esc.E (nl s), d, []⟩ else none
/-- The name of an address. -/
def frj (j : J) (d : List UInt8) : Option (List UInt8) := if j.d = d ∧ nm (Esc.U true j.n) = true ∧ nl (Esc.U true j.n) = Esc.U true j.n then some (Esc.U true j.n) else none
theorem toj_some {s d : List UInt8} {j : J} (h : toj s d = some j) : nm s = true ∧ ok j = true ∧ j = ⟨Esc.E (nl s), d, []⟩ := by
  unfold toj at h
  split at h
  · next hc => injection h with h; subst h; exact ⟨hc.1, hc.2, rfl⟩
  · cases h
theorem frj_back {s d : List UInt8} {j : J} (h : toj s d = some j) : frj j d = some (nl s) := by
  obtain ⟨h1, h2, rfl⟩ := toj_some h
  unfold frj
  simp only
  rw [back h1, if_pos ⟨trivial, nm_nl h1, nl_nl s⟩]
/-- Two names have one address just if they are the same. -/
theorem toj_apart {s t d : List UInt8} {j k : J} (h : toj s d = some j) (h2 : toj t d = some k) : j = k ↔ nl s = nl t := by
  constructor
  · intro e
    subst e
    have := (frj_back h).symm.trans (frj_back h2)
    injection this
  · intro e
    obtain ⟨_, _, rfl⟩ := toj_some h
    obtain ⟨_, _, rfl⟩ := toj_some h2
    rw [e]
theorem toj_same {s t d : List UInt8} {j : J} (h : toj s d = some j) (ht : nm t = true) (e : nl t = nl s) : toj t d = some j := by
  obtain ⟨_, h2, rfl⟩ := toj_some h
  unfold toj
  rw [e, if_pos ⟨ht, h2⟩]
theorem E_small {s : List UInt8} : (Esc.E (nl s)).length ≤ 3 * s.length := by
  have := (Esc.E_len (nl s)).2
  have := nl_le s
  omega
end Go.Proofs.YthhmdkdpfeofjaaDoor.Hd
