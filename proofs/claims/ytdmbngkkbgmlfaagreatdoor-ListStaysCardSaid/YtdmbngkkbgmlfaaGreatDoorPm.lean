/- Free numbers, titles, who is called so: plain mathematics. No condition. -/
import Derived.Test.YtdmbngkkbgmlfaaGreatDoorPl
namespace Go.Proofs.YtdmbngkkbgmlfaaGreatDoor.T
open Go Go.Lib By

/-! ### The least number that is free -/
structure Fre (ks : List Int) (n : Nat) : Prop where
  pos : 1 ≤ n
  le : n ≤ ks.length + 1
  no : (n : Int) ∉ ks
  all : ∀ m : Nat, 1 ≤ m → m < n → (m : Int) ∈ ks
theorem fill_le : ∀ (k : Nat) (ks : List Int), (∀ m : Nat, 1 ≤ m → m ≤ k → (m : Int) ∈ ks) → k ≤ ks.length
  | 0, _, _ => Nat.zero_le _
  | k + 1, ks, h => by
    have h1 := h (k + 1) (by omega) (Nat.le_refl _)
    have ih := fill_le k (ks.erase ((k + 1 : Nat) : Int)) fun m hm hk => (List.mem_erase_of_ne (by omega)).2 (h m hm (by omega))
    rw [List.length_erase_of_mem h1] at ih
    have := List.length_pos_of_mem h1
    omega
theorem fre_or (ks : List Int) : ∀ k : Nat, (∃ n, n ≤ k ∧ 1 ≤ n ∧ (n : Int) ∉ ks ∧ ∀ m : Nat, 1 ≤ m → m < n → (m : Int) ∈ ks) ∨ (∀ m : Nat, 1 ≤ m → m ≤ k → (m : Int) ∈ ks)
  | 0 => .inr fun m h1 h2 => absurd h1 (by omega)
  | k + 1 => by
    rcases fre_or ks k with ⟨n, h1, h2⟩ | h
    · exact .inl ⟨n, by omega, h2⟩
    · by_cases hm : ((k + 1 : Nat) : Int) ∈ ks
      · exact .inr fun m h1 h2 => by
          by_cases e : m = k + 1
          · subst e; exact hm
          · exact h m h1 (by omega)
      · exact .inl ⟨k + 1, Nat.le_refl _, by omega, hm, fun m h1 h2 => h m h1 (by omega)⟩
theorem fre_ex (ks : List Int) : ∃ n, Fre ks n := by
  rcases fre_or ks (ks.length + 1) with ⟨n, h1, h2, h3, h4⟩ | h
  · exact ⟨n, h2, h1, h3, h4⟩
  · have := fill_le _ _ h
    omega
theorem Fre.one {ks : List Int} {m n : Nat} (h : Fre ks m) (k : Fre ks n) : m = n := by
  by_cases h1 : m < n
  · exact absurd (k.all m h.pos h1) h.no
  by_cases h2 : n < m
  · exact absurd (h.all n k.pos h2) k.no
  omega
/-- The numbers of those of whom p holds. -/
def pick (p : It → Bool) (f : It → Int) (l : List It) : List Int := (l.filter p).map f
def pB (g : Int) (y : It) : Bool := decide (y.t = 0 ∧ y.g = g)
def pG (y : It) : Bool := decide (y.t = 1)
def ids (l : List It) (g : Int) : List Int := pick (pB g) It.i l
def gps (l : List It) : List Int := pick pG It.g l
theorem pick_len (p : It → Bool) (f : It → Int) (l : List It) : (pick p f l).length ≤ l.length := by
  unfold pick
  rw [List.length_map]
  exact List.length_filter_le _ _
theorem pick_mem {p : It → Bool} {f : It → Int} {l : List It} {n : Int} : n ∈ pick p f l ↔ ∃ y ∈ l, p y = true ∧ f y = n := by
  unfold pick
  rw [List.mem_map]
  simp only [List.mem_filter, and_assoc]
theorem pick_yes {p : It → Bool} {f : It → Int} {l : List It} {j : Nat} (hj : j < l.length) (h : p l[j] = true) : pick p f (l.take (j + 1)) = pick p f (l.take j) ++ [f l[j]] := by
  unfold pick
  rw [List.take_succ_eq_append_getElem hj, List.filter_append, List.map_append]
  simp [h]
theorem pick_no {p : It → Bool} {f : It → Int} {l : List It} {j : Nat} (hj : j < l.length) (h : p l[j] = false) : pick p f (l.take (j + 1)) = pick p f (l.take j) := by
  unfold pick
  rw [List.take_succ_eq_append_getElem hj, List.filter_append]
  simp [h]

/-! ### Who is called so -/
def tit (l : List It) (g : Int) : ByteArray := match l.find? (fun y => decide (y.t = 1 ∧ y.g = g)) with
  | some y => y.n
  | none => ⟨#[]⟩
def cal (l : List It) (p : Int × ByteArray) : Option It := l.find? fun y => decide (ttl y = p)
theorem find_hit {α : Type} {p : α → Bool} {l : List α} {j : Nat} (hj : j < l.length) (h : p l[j] = true) (hn : ∀ i (hi : i < l.length), i < j → p l[i] = false) : l.find? p = some l[j] := by
  rw [List.find?_eq_some_iff_getElem]
  exact ⟨h, j, hj, rfl, fun i hi => by rw [hn i (by omega) hi]; rfl⟩
theorem find_miss {α : Type} {p : α → Bool} {l : List α} (hn : ∀ i (hi : i < l.length), p l[i] = false) : l.find? p = none := by
  rw [List.find?_eq_none]
  intro x hx
  obtain ⟨i, hi, rfl⟩ := List.getElem_of_mem hx
  rw [hn i hi]
  simp
theorem tit_hit {l : List It} {g : Int} {j : Nat} (hj : j < l.length) (h : l[j].t = 1 ∧ l[j].g = g) (hn : ∀ i (hi : i < l.length), i < j → decide (l[i].t = 1 ∧ l[i].g = g) = false) : tit l g = l[j].n := by
  unfold tit
  rw [find_hit hj (decide_eq_true h) hn]
theorem tit_miss {l : List It} {g : Int} (hn : ∀ i (hi : i < l.length), decide (l[i].t = 1 ∧ l[i].g = g) = false) : tit l g = ⟨#[]⟩ := by
  unfold tit
  rw [find_miss hn]
theorem cal_hit {l : List It} {p : Int × ByteArray} {j : Nat} (hj : j < l.length) (h : ttl l[j] = p) (hn : ∀ i (hi : i < l.length), i < j → decide (ttl l[i] = p) = false) : cal l p = some l[j] := find_hit hj (decide_eq_true h) hn
theorem cal_miss {l : List It} {p : Int × ByteArray} (hn : ∀ i (hi : i < l.length), decide (ttl l[i] = p) = false) : cal l p = none := find_miss hn
/-- In a list that may be, who is called so is the one. -/
theorem cal_one {l : List It} {t : Int} {x : It} (h : Lk l t) (hx : x ∈ l) : cal l (ttl x) = some x := by
  obtain ⟨j, hj, rfl⟩ := List.getElem_of_mem hx
  refine cal_hit hj rfl fun i hi hij => decide_eq_false fun e => ?_
  exact (List.pairwise_iff_getElem.1 h.dif) i j hi hj hij e
theorem tit_one {l : List It} {t : Int} {x : It} (h : Lk l t) (hx : x ∈ l) (h1 : x.t = 1) : tit l x.g = x.n := by
  obtain ⟨j, hj, rfl⟩ := List.getElem_of_mem hx
  refine tit_hit hj ⟨h1, rfl⟩ fun i hi hij => decide_eq_false fun e => ?_
  have hg : ∀ y ∈ l, y.t = 1 → y.i = 0 := fun y hy e => by
    rcases h.fit y hy with k | k
    · exact (grp_iff.1 k).2.2.1
    · have := (bud_iff.1 k).1
      omega
  have a := hg _ (List.getElem_mem hi) e.1
  have b := hg _ (List.getElem_mem hj) h1
  exact (ris_at h.ris hj hij).irr ⟨e.2, by rw [a, b]⟩
theorem tit_none {l : List It} {g : Int} (h : g ∉ gps l) : tit l g = ⟨#[]⟩ := by
  refine tit_miss fun i hi => decide_eq_false fun e => h ?_
  exact pick_mem.2 ⟨l[i], List.getElem_mem hi, decide_eq_true e.1, e.2⟩
theorem tit_some {l : List It} {t : Int} (h : Lk l t) {g : Int} (hg : hasK l 1 g = true) : (tit l g).size ≠ 0 := by
  obtain ⟨y, hy, e1, rfl⟩ := hasK_iff.1 hg
  rw [tit_one h hy e1]
  rcases h.fit y hy with k | k
  · exact (grp_iff.1 k).2.2.2
  · have := (bud_iff.1 k).1
    omega
theorem it_nums {x : It} (h : itB x = true) : 0 ≤ x.g ∧ x.g ≤ 65535 ∧ 0 ≤ x.i ∧ x.i ≤ 65535 ∧ (x.t = 0 ∨ x.t = 1) := by
  unfold itB at h
  simp only [Bool.and_eq_true, inB_iff] at h
  refine ⟨h.1.1.1, h.1.1.2, h.1.2.1, h.1.2.2, ?_⟩
  have := h.2
  split at this
  · exact .inl (by assumption)
  · split at this
    · exact .inr (by assumption)
    · cases this

/-! ### Added, and taken away again -/
theorem add_back {l : List It} {x : It} {q q' : Nat} (s : Srch l x q) {x' : It} (hs : Sp x' x) (s' : Srch (l.take q ++ x :: l.drop q) x' q') (hr : (l.take q ++ x :: l.drop q).Pairwise Lt) :
    q' = q ∧ (l.take q ++ x :: l.drop q)[q]? = some x ∧ (l.take q ++ x :: l.drop q).take q ++ (l.take q ++ x :: l.drop q).drop (q + 1) = l := by
  have hle := s.le
  have htl : (l.take q).length = q := by rw [List.length_take]; omega
  have hx : (l.take q ++ x :: l.drop q)[q]? = some x := by
    rw [List.getElem?_append_right (by omega), htl]; simp
  obtain ⟨hq, hqe⟩ := List.getElem?_eq_some_iff.1 hx
  refine ⟨?_, hx, ?_⟩
  · refine Srch.one s' ⟨Nat.le_of_lt hq, fun k hk hkq => ?_, fun k hk hkq => ?_⟩
    · have := ris_at hr hq hkq
      rw [hqe] at this
      unfold Lt at this ⊢
      unfold Sp at hs
      omega
    · intro hlt
      by_cases e : k = q
      · subst e
        rw [hqe] at hlt
        exact hlt.irr ⟨hs.1.symm, hs.2.symm⟩
      · have := ris_at hr hk (show q < k by omega)
        rw [hqe] at this
        unfold Lt at this hlt
        unfold Sp at hs
        omega
  · rw [List.take_append_of_le_length (by omega), List.take_of_length_le (by omega)]
    rw [List.drop_append, htl]
    rw [List.drop_of_length_le (by omega), List.nil_append]
    rw [show q + 1 - q = 1 by omega]
    rw [List.drop_succ_cons, List.drop_zero, List.take_append_drop]
end Go.Proofs.YtdmbngkkbgmlfaaGreatDoor.T
