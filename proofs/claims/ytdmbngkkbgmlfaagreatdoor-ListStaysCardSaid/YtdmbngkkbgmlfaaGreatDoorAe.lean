/- The document's own First, Signs. Conditions: those of each theorem's head. -/
import Derived.Test.YtdmbngkkbgmlfaaGreatDoorAd

set_option maxRecDepth 100000
set_option maxHeartbeats 2000000
namespace Go.Proofs.YtdmbngkkbgmlfaaGreatDoor
open Go.RowKit Go.Lib Sg
/-- How many bytes a sign has whose first byte is a, and what that byte says of it. -/
def lead (a : Nat) : Option (Nat × Nat) :=
  if a < 128 then some (1, a) else if 192 ≤ a ∧ a < 224 then some (2, a - 192) else if 224 ≤ a ∧ a < 240 then some (3, a - 224) else if 240 ≤ a ∧ a < 248 then some (4, a - 240) else none
/-- What the first k bytes say, the first one saying a. -/
def acc (l : List UInt8) (a : Nat) : Nat → Nat
  | 0 => a
  | 1 => a
  | k + 2 => 64 * acc l a (k + 1) + (nb l (k + 1) - 128)
theorem acc_one (l : List UInt8) (a : Nat) : acc l a 1 = a := rfl
theorem acc_succ (l : List UInt8) (a k : Nat) (hk : 1 ≤ k) : acc l a (k + 1) = 64 * acc l a k + (nb l k - 128) := by
  obtain ⟨j, rfl⟩ : ∃ j, k = j + 1 := ⟨k - 1, by omega⟩
  rfl
theorem acc_two (l : List UInt8) (a : Nat) : acc l a 2 = 64 * a + (nb l 1 - 128) := rfl
theorem acc_three (l : List UInt8) (a : Nat) : acc l a 3 = 64 * (64 * a + (nb l 1 - 128)) + (nb l 2 - 128) := rfl
theorem acc_four (l : List UInt8) (a : Nat) : acc l a 4 = 64 * (64 * (64 * a + (nb l 1 - 128)) + (nb l 2 - 128)) + (nb l 3 - 128) := rfl
theorem lead_enc {c : Nat} (h : isSg c = true) (r : List UInt8) : ∃ a, lead (nb (enc c ++ r) 0) = some ((enc c).length, a) ∧ acc (enc c ++ r) a (enc c).length = c := by
  have h1 := (isSg_iff c).1 h
  have hp := (enc_len_le c).1
  rw [enc_len]
  by_cases a1 : c < 128
  · rw [if_pos a1]
    refine ⟨c, ?_, rfl⟩
    rw [enc_small a1, List.singleton_append, nb_u0 _ _ (by omega)]; unfold lead; rw [if_pos a1]
  · rw [if_neg a1]
    by_cases a2 : c < 2048
    · rw [if_pos a2]
      unfold enc
      rw [if_neg a1, if_pos a2]
      refine ⟨c / 64, ?_, ?_⟩
      · rw [List.cons_append, nb_u0 _ _ (by omega)]; unfold lead; rw [if_neg (by omega), if_pos (by omega)]; rw [show 192 + c / 64 - 192 = c / 64 from by omega]
      · rw [acc_two, List.cons_append, List.cons_append, nb_u1 _ _ _ (by omega)]; omega
    · rw [if_neg a2]
      by_cases a3 : c < 65536
      · rw [if_pos a3]
        unfold enc
        rw [if_neg a1, if_neg a2, if_pos a3]
        refine ⟨c / 4096, ?_, ?_⟩
        · rw [List.cons_append, nb_u0 _ _ (by omega)]; unfold lead; rw [if_neg (by omega), if_neg (by omega), if_pos (by omega)]; rw [show 224 + c / 4096 - 224 = c / 4096 from by omega]
        · rw [acc_three, List.cons_append, List.cons_append, List.cons_append, nb_u1 _ _ _ (by omega), nb_u2 _ _ _ _ (by omega)]; omega
      · rw [if_neg a3]
        unfold enc
        rw [if_neg a1, if_neg a2, if_neg a3]
        refine ⟨c / 262144, ?_, ?_⟩
        · rw [List.cons_append, nb_u0 _ _ (by omega)]; unfold lead; rw [if_neg (by omega), if_neg (by omega), if_neg (by omega), if_pos (by omega)]; rw [show 240 + c / 262144 - 240 = c / 262144 from by omega]
        · rw [acc_four, List.cons_append, List.cons_append, List.cons_append, List.cons_append, nb_u1 _ _ _ (by omega), nb_u2 _ _ _ _ (by omega), nb_u3 _ _ _ _ _ (by omega)]; omega
/-- What a sign at the front says of the bytes. -/
theorem front_lead {l : List UInt8} {c n : Nat} (h : front l = some (c, n)) : ∃ a, lead (nb l 0) = some (n, a) ∧ n ≤ l.length ∧ (∀ i, 1 ≤ i → i < n → 128 ≤ nb l i ∧ nb l i < 192) ∧ acc l a n = c ∧ isSg c = true ∧ l.take n = enc c := by
  obtain ⟨hs, hn, r, hr⟩ := front_some h
  subst hn
  subst hr
  obtain ⟨a, h1, h2⟩ := lead_enc hs r
  refine ⟨a, h1, by rw [List.length_append]; omega, fun i hi1 hi2 => ?_, h2, hs, by rw [List.take_left]⟩
  rw [nb_append_left _ _ _ hi2]
  exact (inner_iff _).1 (enc_rest hs i (by omega) hi2)
/-- What First finds. -/
def FirstP (l : List UInt8) (w : World) (e : Ending) (w' : World) : Prop :=
  ((∃ c n, front l = some (c, n) ∧ e = .returned (.tuple #[.int .i64 (c : Nat), .int .i64 (n : Nat), .int .i64 0])) ∨ (front l = none ∧ e = .returned (.tuple #[.int .i64 0, .int .i64 0, .int .i64 10]))) ∧ Below w.heap.size w w'
theorem FirstP.no {l : List UInt8} {w w' : World} {e : Ending} (h : ∀ c n, front l ≠ some (c, n)) (he : e = .returned (.tuple #[.int .i64 0, .int .i64 0, .int .i64 10])) (hb : Below w.heap.size w w') : FirstP l w e w' :=
  ⟨.inr ⟨by
    cases hf : front l with
    | none => rfl
    | some p => exact absurd hf (h p.1 p.2), he⟩, hb⟩
theorem FirstP.yes {l : List UInt8} {w w' : World} {e : Ending} {c n : Nat} (h : front l = some (c, n)) (he : e = .returned (.tuple #[.int .i64 c, .int .i64 n, .int .i64 0])) (hb : Below w.heap.size w w') : FirstP l w e w' :=
  ⟨.inl ⟨c, n, h, he⟩, hb⟩
theorem no_lead {l : List UInt8} (h : lead (nb l 0) = none) (c n : Nat) : front l ≠ some (c, n) := fun e => by
  obtain ⟨a, h1, _⟩ := front_lead e
  rw [h] at h1; cases h1
theorem no_short {l : List UInt8} {m a : Nat} (h : lead (nb l 0) = some (m, a)) (hl : l.length < m) (c n : Nat) : front l ≠ some (c, n) := fun e => by
  obtain ⟨a', h1, h2, _⟩ := front_lead e
  rw [h] at h1
  simp only [Option.some.injEq, Prod.mk.injEq] at h1
  omega
theorem no_cont {l : List UInt8} {m a i : Nat} (h : lead (nb l 0) = some (m, a)) (h1 : 1 ≤ i) (hi : i < m) (hb : ¬ (128 ≤ nb l i ∧ nb l i < 192)) (c n : Nat) : front l ≠ some (c, n) := fun e => by
  obtain ⟨a', h2, _, h3, _⟩ := front_lead e
  rw [h] at h2
  simp only [Option.some.injEq, Prod.mk.injEq] at h2
  exact hb (h3 i h1 (by omega))
theorem no_sign {l : List UInt8} {m a : Nat} (h : lead (nb l 0) = some (m, a)) (hb : isSg (acc l a m) = false ∨ l.take m ≠ enc (acc l a m)) (c n : Nat) : front l ≠ some (c, n) := fun e => by
  obtain ⟨a', h2, _, _, h4, h5, h6⟩ := front_lead e
  rw [h] at h2
  simp only [Option.some.injEq, Prod.mk.injEq] at h2
  obtain ⟨rfl, rfl⟩ := h2
  rw [h4] at hb
  rcases hb with hb | hb
  · rw [h5] at hb; cases hb
  · exact hb h6
theorem yes_sign {l : List UInt8} {m a : Nat} (hs : isSg (acc l a m) = true) (ht : l.take m = enc (acc l a m)) (hm : m ≤ l.length) : front l = some (acc l a m, m) := by
  have := front_enc hs (l.drop m)
  rw [← ht, List.take_append_drop, List.length_take, Nat.min_eq_left hm] at this
  exact this
theorem acc_lt (l : List UInt8) (a : Nat) (ha : a < 128) : acc l a 1 < 128 ∧ acc l a 2 < 65536 ∧ acc l a 3 < 5000000 ∧ acc l a 4 < 500000000 := by
  have h1 := nb_lt l 1
  have h2 := nb_lt l 2
  have h3 := nb_lt l 3
  have e1 := acc_one l a
  have e2 : acc l a 2 = 64 * acc l a 1 + (nb l 1 - 128) := acc_succ l a 1 (by omega)
  have e3 : acc l a 3 = 64 * acc l a 2 + (nb l 2 - 128) := acc_succ l a 2 (by omega)
  have e4 : acc l a 4 = 64 * acc l a 3 + (nb l 3 - 128) := acc_succ l a 3 (by omega)
  omega
theorem int_eq {a b : Int} (h : a = b) : Value.int .i64 a = .int .i64 b := by rw [h]
end Go.Proofs.YtdmbngkkbgmlfaaGreatDoor

namespace Go.Proofs.YtdmbngkkbgmlfaaGreatDoor
open Go.RowKit Go.Lib Sg
/-! ### Signs -/
theorem own_below {w w' : World} {base : Nat} {e : TypeId} {size : Nat} {v : Value} {n : Nat} {xs : List Value} (h : w.ownsRow base e size v n xs) (hb : Below w.heap.size w w') : w'.ownsRow base e size v n xs := by
  have hg : w.grownBy w' none := ⟨hb.os, hb.tape, hb.output, hb.size, fun k hk _ => hb.block k hk⟩
  refine h.kept hg ?_
  cases hv : v.ownBlock with
  | none => exact .inl rfl
  | some k => exact .inr (by simp)
theorem intInfo : (Tryz.prog.info? 3).map (fun i => (i.zero, i.size, i.bytes)) = some (some (.int .i64 0), 1, 8) := by kernel_rfl
def sgnVals (cs : List Nat) : List Value := cs.map fun (c : Nat) => Value.int .i64 (c : Int)
/-- What Signs finds of a text: its signs, in a new list; or that it is none. -/
def SignsP (l : List UInt8) (w : World) (e : Ending) (w' : World) : Prop :=
  ((∃ cs v, IsT l cs ∧ e = .returned (.tuple #[v, .bool true]) ∧ w'.ownsRow w.heap.size 3 1 v cs.length (sgnVals cs)) ∨ ((∀ cs, ¬ IsT l cs) ∧ e = .returned (.tuple #[.slice none 0 0, .bool false]))) ∧ Below w.heap.size w w'
theorem SignsP.no {l : List UInt8} {w w' : World} {e : Ending} (h : ∀ cs, ¬ IsT l cs) (he : e = .returned (.tuple #[.slice none 0 0, .bool false])) (hb : Below w.heap.size w w') : SignsP l w e w' := ⟨.inr ⟨h, he⟩, hb⟩
theorem SignsP.yes {l : List UInt8} {w w' : World} {e : Ending} {cs : List Nat} {v : Value} (h : IsT l cs) (he : e = .returned (.tuple #[v, .bool true])) (ho : w'.ownsRow w.heap.size 3 1 v cs.length (sgnVals cs)) (hb : Below w.heap.size w w') : SignsP l w e w' :=
  ⟨.inl ⟨cs, v, h, he, ho⟩, hb⟩
end Go.Proofs.YtdmbngkkbgmlfaaGreatDoor
