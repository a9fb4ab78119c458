/- What is read has not more than was there; what may be is small: plain mathematics. No condition. -/
import Derived.Test.YtiodjaeonoheiaaGreatDoorXe
namespace Go.Proofs.YtiodjaeonoheiaaGreatDoor.T
open Go Go.Lib By
theorem rtxt_size (k : Nat) (l : List UInt8) : (rtxt k l).size ≤ l.length := by
  unfold rtxt
  rw [mk_size, List.length_take, List.length_drop]; omega
theorem rval_size (k : Int) (l : List UInt8) : (rval k l).size ≤ l.length := by
  unfold rval
  split
  · have := rtxt_size 2 (l.drop 2)
    rw [List.length_drop] at this; omega
  · exact Nat.zero_le _
theorem take_size (k : Nat) (l : List UInt8) : (mk (l.take k)).size ≤ l.length := by
  rw [mk_size, List.length_take]; omega
structure Sm (M : Nat) (n : Nt) : Prop where
  hn : n.n.size ≤ M
  hx : n.x.size ≤ M
  hd : n.d.size ≤ M
  hin : n.l.length ≤ M
  hiz : ∀ y ∈ n.l, y.n.size ≤ M ∧ y.a.size ≤ M
  hzn : n.z.length ≤ M
theorem rdIt_small (l : List UInt8) : (rdIt l).n.size ≤ l.length ∧ (rdIt l).a.size ≤ l.length :=
  ⟨rtxt_size 2 l, Nat.le_trans (rval_size 305 _) (rdItM_len l)⟩
theorem rdIts_small : ∀ (f : Nat) (l : List UInt8), (rdIts f l).length ≤ l.length ∧ ∀ y ∈ rdIts f l, y.n.size ≤ l.length ∧ y.a.size ≤ l.length
  | 0, l => ⟨Nat.zero_le _, fun y h => by cases h⟩
  | f + 1, l => by
    unfold rdIts
    split
    · exact ⟨Nat.zero_le _, fun y h => by cases h⟩
    · rename_i hne
      have h0 : l.length ≠ 0 := fun q => hne (List.length_eq_zero_iff.1 q)
      have h1 := rdIts_small f (rdItR l)
      have h2 := rdItR_len l
      refine ⟨by rw [List.length_cons]; omega, fun y hy => ?_⟩
      rcases List.mem_cons.1 hy with rfl | hy
      · exact rdIt_small l
      · have := h1.2 y hy
        omega
theorem rdCds_small : ∀ (f : Nat) (l : List UInt8), (rdCds f l).length ≤ l.length
  | 0, l => Nat.zero_le _
  | f + 1, l => by
    unfold rdCds
    split
    · exact Nat.zero_le _
    · rename_i hne
      have h0 : l.length ≠ 0 := fun q => hne (List.length_eq_zero_iff.1 q)
      have h1 := rdCds_small f (l.drop 2)
      rw [List.length_drop] at h1
      rw [List.length_cons]; omega
theorem nK_small (k : Int) (M : Nat) : Sm M (nK k) := ⟨Nat.zero_le _, Nat.zero_le _, Nat.zero_le _, Nat.zero_le _, (fun y h => by cases h), Nat.zero_le _⟩
theorem le_of {a b c : Nat} (h : a ≤ b) (h2 : b ≤ c) : a ≤ c := Nat.le_trans h h2
theorem rtxR_le (k : Nat) (l : List UInt8) : (rtxR k l).length ≤ l.length := by
  unfold rtxR
  rw [List.length_drop, List.length_drop]; omega
theorem drop_le (k : Nat) (l : List UInt8) : (l.drop k).length ≤ l.length := by rw [List.length_drop]; omega
theorem rvlR_le (k : Int) (l : List UInt8) : (rvlR k l).length ≤ l.length := rvlR_len k l
theorem rd_small (k : Int) (l : List UInt8) : Sm l.length (rd k l) := by
  by_cases h : 1 ≤ k ∧ k ≤ 29
  · obtain ⟨K, rfl⟩ : ∃ K : Nat, k = K := ⟨k.toNat, by omega⟩
    have h1 : 1 ≤ K := by omega
    have h2 : K ≤ 29 := by omega
    rw [rd_of K l K rfl h1 h2]
    have z : ∀ M, (⟨#[]⟩ : ByteArray).size ≤ M := fun M => Nat.zero_le _
    have hv : ∀ t, (rval t l).size ≤ l.length := fun t => rval_size t l
    have nilI : ∀ y ∈ ([] : List It), y.n.size ≤ l.length ∧ y.a.size ≤ l.length := fun y h => by cases h
    have hK : K = 1 ∨ K = 2 ∨ K = 3 ∨ K = 4 ∨ K = 5 ∨ K = 6 ∨ K = 7 ∨ K = 8 ∨ K = 9 ∨ K = 10 ∨ K = 11 ∨ K = 12 ∨ K = 13 ∨ K = 14 ∨ K = 15 ∨ K = 16 ∨ K = 17 ∨ K = 18 ∨ K = 19 ∨ K = 20 ∨ K = 21 ∨ K = 22 ∨ K = 23 ∨ K = 24 ∨ K = 25 ∨ K = 26 ∨ K = 27 ∨ K = 28 ∨ K = 29 := by omega
    rcases hK with rfl | rfl | rfl | rfl | rfl | rfl | rfl | rfl | rfl | rfl | rfl | rfl | rfl | rfl | rfl | rfl | rfl | rfl | rfl | rfl | rfl | rfl | rfl | rfl | rfl | rfl | rfl | rfl | rfl
    · exact ⟨z _, z _, z _, Nat.zero_le _, nilI, Nat.zero_le _⟩
    · exact ⟨z _, z _, le_of (rval_size 6 _) (drop_le 4 l), Nat.zero_le _, nilI, Nat.zero_le _⟩
    · exact ⟨z _, z _, z _, Nat.zero_le _, nilI, Nat.zero_le _⟩
    · exact ⟨z _, z _, z _, Nat.zero_le _, nilI, Nat.zero_le _⟩
    · exact ⟨hv 1, z _, z _, Nat.zero_le _, nilI, Nat.zero_le _⟩
    · exact ⟨z _, z _, rtxt_size 2 l, Nat.zero_le _, nilI, Nat.zero_le _⟩
    · exact ⟨hv 1, z _, le_of (rval_size 37 _) (rvlR_le 1 l), Nat.zero_le _, nilI, Nat.zero_le _⟩
    · exact ⟨hv 1, z _, le_of (rval_size 6 _) (rvlR_le 1 l), Nat.zero_le _, nilI, Nat.zero_le _⟩
    · exact ⟨z _, z _, z _, Nat.zero_le _, nilI, Nat.zero_le _⟩
    · exact ⟨z _, z _, z _, Nat.zero_le _, nilI, Nat.zero_le _⟩
    · exact ⟨z _, z _, z _, Nat.zero_le _, nilI, Nat.zero_le _⟩
    · exact ⟨z _, z _, z _, Nat.zero_le _, nilI, Nat.zero_le _⟩
    · exact ⟨rtxt_size 1 l, z _, z _, Nat.zero_le _, nilI, Nat.zero_le _⟩
    · exact ⟨rtxt_size 1 l, z _, z _, Nat.zero_le _, nilI, Nat.zero_le _⟩
    · exact ⟨le_of (rtxt_size 1 _) (drop_le 8 l), le_of (rval_size 2 _) (le_of (rtxR_le 1 _) (drop_le 8 l)), take_size 8 l, Nat.zero_le _, nilI, Nat.zero_le _⟩
    · exact ⟨le_of (rtxt_size 1 _) (drop_le 8 l), le_of (rval_size 2 _) (le_of (rtxR_le 1 _) (drop_le 8 l)), take_size 8 l, Nat.zero_le _, nilI, Nat.zero_le _⟩
    · exact ⟨z _, z _, z _, Nat.zero_le _, nilI, Nat.zero_le _⟩
    · exact ⟨z _, z _, z _, le_of (rdIts_small _ _).1 (drop_le 2 l), fun y hy => ⟨le_of ((rdIts_small _ _).2 y hy).1 (drop_le 2 l), le_of ((rdIts_small _ _).2 y hy).2 (drop_le 2 l)⟩, Nat.zero_le _⟩
    · exact ⟨z _, z _, z _, Nat.zero_le _, nilI, Nat.zero_le _⟩
    · exact ⟨z _, z _, z _, (rdIts_small 100 l).1, (rdIts_small 100 l).2, Nat.zero_le _⟩
    · exact ⟨z _, z _, z _, (rdIts_small 100 l).1, (rdIts_small 100 l).2, Nat.zero_le _⟩
    · exact ⟨z _, z _, z _, (rdIts_small 100 l).1, (rdIts_small 100 l).2, Nat.zero_le _⟩
    · exact ⟨z _, z _, z _, Nat.zero_le _, nilI, Nat.zero_le _⟩
    · exact ⟨z _, z _, z _, Nat.zero_le _, nilI, Nat.zero_le _⟩
    · exact ⟨z _, z _, z _, Nat.zero_le _, nilI, rdCds_small _ l⟩
    · exact ⟨rtxt_size 1 l, le_of (rtxt_size 2 _) (rtxR_le 1 l), z _, Nat.zero_le _, nilI, Nat.zero_le _⟩
    · exact ⟨rtxt_size 1 l, le_of (rtxt_size 2 _) (rtxR_le 1 l), z _, Nat.zero_le _, nilI, Nat.zero_le _⟩
    · exact ⟨rtxt_size 1 l, le_of (rtxt_size 2 _) (le_of (drop_le 1 _) (rtxR_le 1 l)), z _, Nat.zero_le _, nilI, Nat.zero_le _⟩
    · exact ⟨rtxt_size 1 l, le_of (rtxt_size 2 _) (le_of (drop_le 1 _) (rtxR_le 1 l)), z _, Nat.zero_le _, nilI, Nat.zero_le _⟩
  · rw [rd_no k l h]
    exact nK_small k _
theorem bndN_small (K : Nat) : (bndN K).i ≤ 100 ∧ (bndN K).z ≤ 100 ∧ (bndN K).tx ≤ 2000 ∧ (bndN K).d ≤ 256 := by
  unfold bndN
  split <;> decide
theorem may_iff {n : Nt} : may n = true ↔ isK n.k = true ∧ hold (bnd n.k) n = true ∧ (n.k = 8 → letB n = true) := by
  unfold may
  simp only [Bool.and_eq_true, Bool.or_eq_true, Bool.not_eq_true', decide_eq_false_iff_not]
  constructor
  · rintro ⟨⟨a, b⟩, c⟩
    exact ⟨a, b, fun h => c.resolve_left (fun q => q h)⟩
  · rintro ⟨a, b, c⟩
    refine ⟨⟨a, b⟩, ?_⟩
    by_cases h : n.k = 8
    · exact .inr (c h)
    · exact .inl h
theorem bnd_small (k : Int) : (bnd k).i ≤ 100 ∧ (bnd k).z ≤ 100 ∧ (bnd k).tx ≤ 2000 ∧ (bnd k).d ≤ 256 := by
  unfold bnd
  split
  · exact bndN_small _
  · decide
theorem inB_iff {x lo hi : Int} : inB x lo hi = true ↔ lo ≤ x ∧ x ≤ hi := by
  unfold inB
  rw [Bool.and_eq_true, decide_eq_true_eq, decide_eq_true_eq]
theorem hold_iff {b : Bn} {n : Nt} : hold b n = true ↔ nmB n.n b.nm = true ∧ txB n.x b.tx = true ∧ (b.fd ≤ n.d.size ∧ n.d.size ≤ b.d) ∧ (0 ≤ n.c ∧ n.c ≤ b.c) ∧ (0 ≤ n.s ∧ n.s ≤ b.s) ∧ (0 ≤ n.e ∧ n.e ≤ b.e) ∧ (0 ≤ n.t ∧ n.t ≤ b.t) ∧ (b.o = true ∨ n.o = false) ∧ (b.fi ≤ n.l.length ∧ n.l.length ≤ b.i) ∧ n.l.all itB = true ∧ (b.fz ≤ n.z.length ∧ n.z.length ≤ b.z) ∧ n.z.all (fun c => inB c 0 65535) = true := by
  unfold hold
  simp only [Bool.and_eq_true, inB_iff, Bool.or_eq_true, Bool.not_eq_true', and_assoc]
theorem may_small {n : Nt} (h : may n = true) : n.l.length ≤ 100 ∧ n.z.length ≤ 100 := by
  have h1 := hold_iff.1 (may_iff.1 h).2.1
  have h2 := bnd_small n.k
  omega
end Go.Proofs.YtiodjaeonoheiaaGreatDoor.T
