/- Contracts: fields of package legacy's note reader, whatever the kind; read. Conditions: those of each theorem's head. -/
import Derived.Test.YtiodjaeonoheiaaGreatDoorXd
set_option maxRecDepth 100000
set_option maxHeartbeats 4000000
namespace Go.Proofs.YtiodjaeonoheiaaGreatDoor.T
open Go.RowKit Go.Lib
theorem rd_of (k : Int) (l : List UInt8) (K : Nat) (h : k = K) (h1 : 1 ≤ K) (h2 : K ≤ 29) : rd k l = rdN k l K := by
  unfold rd isK
  rw [h, decide_eq_true (by omega), decide_eq_true (by omega), Int.toNat_natCast]
  rfl
theorem rd_no (k : Int) (l : List UInt8) (h : ¬ (1 ≤ k ∧ k ≤ 29)) : rd k l = nK k := by
  unfold rd isK
  rw [if_neg]
  simp only [Bool.and_eq_true, decide_eq_true_eq]
  exact h
section
variable {N P : Nat} {w w' w1 w2 : World} {l m : List UInt8}
theorem gfields_any (k : Int) (h : Rr P 107 (nR k ⟨#[]⟩ ⟨#[]⟩ ⟨#[]⟩ 0 0 0 0 false (.slice none 0 0) (.slice none 0 0)) w l) (hl : l.length ≤ 1000000) :
    Calls Tryz.prog 66 #[.pointer (some ⟨P, 0, none⟩)] w (FrP P (rd k l) w) := by
  by_cases e2 : k = 2
  · subst e2
    rw [rd_of 2 l 2 rfl (by decide) (by decide)]
    exact gfld_2 h hl
  by_cases e3 : k = 3
  · subst e3
    rw [rd_of 3 l 3 rfl (by decide) (by decide)]
    exact gfld_3 h hl
  by_cases e5 : k = 5
  · subst e5
    rw [rd_of 5 l 5 rfl (by decide) (by decide)]
    exact gfld_5 h hl
  by_cases e6 : k = 6
  · subst e6
    rw [rd_of 6 l 6 rfl (by decide) (by decide)]
    exact gfld_6 h hl
  by_cases e7 : k = 7
  · subst e7
    rw [rd_of 7 l 7 rfl (by decide) (by decide)]
    exact gfld_7 h hl
  by_cases e8 : k = 8
  · subst e8
    rw [rd_of 8 l 8 rfl (by decide) (by decide)]
    exact gfld_8 h hl
  by_cases e11 : k = 11
  · subst e11
    rw [rd_of 11 l 11 rfl (by decide) (by decide)]
    exact gfld_11 h hl
  by_cases e12 : k = 12
  · subst e12
    rw [rd_of 12 l 12 rfl (by decide) (by decide)]
    exact gfld_12 h hl
  by_cases e13 : k = 13
  · subst e13
    rw [rd_of 13 l 13 rfl (by decide) (by decide)]
    exact gfld_13 h hl
  by_cases e14 : k = 14
  · subst e14
    rw [rd_of 14 l 14 rfl (by decide) (by decide)]
    exact gfld_14 h hl
  by_cases e15 : k = 15
  · subst e15
    rw [rd_of 15 l 15 rfl (by decide) (by decide)]
    exact gfld_15 h hl
  by_cases e16 : k = 16
  · subst e16
    rw [rd_of 16 l 16 rfl (by decide) (by decide)]
    exact gfld_16 h hl
  by_cases e17 : k = 17
  · subst e17
    rw [rd_of 17 l 17 rfl (by decide) (by decide)]
    exact gfld_17 h hl
  by_cases e18 : k = 18
  · subst e18
    rw [rd_of 18 l 18 rfl (by decide) (by decide)]
    exact gfld_18 h hl
  by_cases e19 : k = 19
  · subst e19
    rw [rd_of 19 l 19 rfl (by decide) (by decide)]
    exact gfld_19 h hl
  by_cases e20 : k = 20
  · subst e20
    rw [rd_of 20 l 20 rfl (by decide) (by decide)]
    exact gfld_20 h hl
  by_cases e21 : k = 21
  · subst e21
    rw [rd_of 21 l 21 rfl (by decide) (by decide)]
    exact gfld_21 h hl
  by_cases e22 : k = 22
  · subst e22
    rw [rd_of 22 l 22 rfl (by decide) (by decide)]
    exact gfld_22 h hl
  by_cases e25 : k = 25
  · subst e25
    rw [rd_of 25 l 25 rfl (by decide) (by decide)]
    exact gfld_25 h hl
  by_cases e26 : k = 26
  · subst e26
    rw [rd_of 26 l 26 rfl (by decide) (by decide)]
    exact gfld_26 h hl
  by_cases e27 : k = 27
  · subst e27
    rw [rd_of 27 l 27 rfl (by decide) (by decide)]
    exact gfld_27 h hl
  by_cases e28 : k = 28
  · subst e28
    rw [rd_of 28 l 28 rfl (by decide) (by decide)]
    by_cases ho : rnum 1 (rtxR 1 l) = 0
    · exact gfld_28_f h hl ho
    · exact gfld_28_t h hl ho
  by_cases e29 : k = 29
  · subst e29
    rw [rd_of 29 l 29 rfl (by decide) (by decide)]
    by_cases ho : rnum 1 (rtxR 1 l) = 0
    · exact gfld_29_f h hl ho
    · exact gfld_29_t h hl ho
  have q := gfld_no k h (by simpa using e2) (by simpa using e3) (by simpa using e5) (by simpa using e6) (by simpa using e7) (by simpa using e8) (by simpa using e11) (by simpa using e12) (by simpa using e13) (by simpa using e14) (by simpa using e15) (by simpa using e16) (by simpa using e17) (by simpa using e19) (by simpa using e18) (by simpa using e20) (by simpa using e21) (by simpa using e22) (by simpa using e25) (by simpa using e26) (by simpa using e27) (by simpa using e28) (by simpa using e29)
  have eb : rd k l = nK k := by
    by_cases h1 : 1 ≤ k ∧ k ≤ 29
    · have : k = 1 ∨ k = 4 ∨ k = 9 ∨ k = 10 ∨ k = 23 ∨ k = 24 := by omega
      rcases this with rfl | rfl | rfl | rfl | rfl | rfl
      · rw [rd_of 1 l 1 rfl (by decide) (by decide)]
        rfl
      · rw [rd_of 4 l 4 rfl (by decide) (by decide)]
        rfl
      · rw [rd_of 9 l 9 rfl (by decide) (by decide)]
        rfl
      · rw [rd_of 10 l 10 rfl (by decide) (by decide)]
        rfl
      · rw [rd_of 23 l 23 rfl (by decide) (by decide)]
        rfl
      · rw [rd_of 24 l 24 rfl (by decide) (by decide)]
        rfl
    · exact rd_no k l h1
  rw [eb]
  exact q
theorem set11 {w : World} {b : Nat} {v0 v1 v2 v3 v4 v5 v6 v7 v8 v9 v10 : Value} {t : TypeId} (h : w.heap[b]? = some (.cells #[v0, v1, v2, v3, v4, v5, v6, v7, v8, v9, v10] t (0, 0))) (u0 u1 u2 u3 u4 u5 u6 u7 u8 u9 u10 : Value) : (((((((((((w.setCell ⟨b, 0, none⟩ u0).setCell ⟨b, 1, none⟩ u1).setCell ⟨b, 2, none⟩ u2).setCell ⟨b, 3, none⟩ u3).setCell ⟨b, 4, none⟩ u4).setCell ⟨b, 5, none⟩ u5).setCell ⟨b, 6, none⟩ u6).setCell ⟨b, 7, none⟩ u7).setCell ⟨b, 8, none⟩ u8).setCell ⟨b, 9, none⟩ u9).setCell ⟨b, 10, none⟩ u10).heap[b]? = some (.cells #[u0, u1, u2, u3, u4, u5, u6, u7, u8, u9, u10] t (0, 0)) := by
  have h0 : (w.setCell ⟨b, 0, none⟩ u0).heap[b]? = some (.cells #[u0, v1, v2, v3, v4, v5, v6, v7, v8, v9, v10] t (0, 0)) := setI h 0 u0
  have h1 : ((w.setCell ⟨b, 0, none⟩ u0).setCell ⟨b, 1, none⟩ u1).heap[b]? = some (.cells #[u0, u1, v2, v3, v4, v5, v6, v7, v8, v9, v10] t (0, 0)) := setI h0 1 u1
  have h2 : (((w.setCell ⟨b, 0, none⟩ u0).setCell ⟨b, 1, none⟩ u1).setCell ⟨b, 2, none⟩ u2).heap[b]? = some (.cells #[u0, u1, u2, v3, v4, v5, v6, v7, v8, v9, v10] t (0, 0)) := setI h1 2 u2
  have h3 : ((((w.setCell ⟨b, 0, none⟩ u0).setCell ⟨b, 1, none⟩ u1).setCell ⟨b, 2, none⟩ u2).setCell ⟨b, 3, none⟩ u3).heap[b]? = some (.cells #[u0, u1, u2, u3, v4, v5, v6, v7, v8, v9, v10] t (0, 0)) := setI h2 3 u3
  have h4 : (((((w.setCell ⟨b, 0, none⟩ u0).setCell ⟨b, 1, none⟩ u1).setCell ⟨b, 2, none⟩ u2).setCell ⟨b, 3, none⟩ u3).setCell ⟨b, 4, none⟩ u4).heap[b]? = some (.cells #[u0, u1, u2, u3, u4, v5, v6, v7, v8, v9, v10] t (0, 0)) := setI h3 4 u4
  have h5 : ((((((w.setCell ⟨b, 0, none⟩ u0).setCell ⟨b, 1, none⟩ u1).setCell ⟨b, 2, none⟩ u2).setCell ⟨b, 3, none⟩ u3).setCell ⟨b, 4, none⟩ u4).setCell ⟨b, 5, none⟩ u5).heap[b]? = some (.cells #[u0, u1, u2, u3, u4, u5, v6, v7, v8, v9, v10] t (0, 0)) := setI h4 5 u5
  have h6 : (((((((w.setCell ⟨b, 0, none⟩ u0).setCell ⟨b, 1, none⟩ u1).setCell ⟨b, 2, none⟩ u2).setCell ⟨b, 3, none⟩ u3).setCell ⟨b, 4, none⟩ u4).setCell ⟨b, 5, none⟩ u5).setCell ⟨b, 6, none⟩ u6).heap[b]? = some (.cells #[u0, u1, u2, u3, u4, u5, u6, v7, v8, v9, v10] t (0, 0)) := setI h5 6 u6
  have h7 : ((((((((w.setCell ⟨b, 0, none⟩ u0).setCell ⟨b, 1, none⟩ u1).setCell ⟨b, 2, none⟩ u2).setCell ⟨b, 3, none⟩ u3).setCell ⟨b, 4, none⟩ u4).setCell ⟨b, 5, none⟩ u5).setCell ⟨b, 6, none⟩ u6).setCell ⟨b, 7, none⟩ u7).heap[b]? = some (.cells #[u0, u1, u2, u3, u4, u5, u6, u7, v8, v9, v10] t (0, 0)) := setI h6 7 u7
  have h8 : (((((((((w.setCell ⟨b, 0, none⟩ u0).setCell ⟨b, 1, none⟩ u1).setCell ⟨b, 2, none⟩ u2).setCell ⟨b, 3, none⟩ u3).setCell ⟨b, 4, none⟩ u4).setCell ⟨b, 5, none⟩ u5).setCell ⟨b, 6, none⟩ u6).setCell ⟨b, 7, none⟩ u7).setCell ⟨b, 8, none⟩ u8).heap[b]? = some (.cells #[u0, u1, u2, u3, u4, u5, u6, u7, u8, v9, v10] t (0, 0)) := setI h7 8 u8
  have h9 : ((((((((((w.setCell ⟨b, 0, none⟩ u0).setCell ⟨b, 1, none⟩ u1).setCell ⟨b, 2, none⟩ u2).setCell ⟨b, 3, none⟩ u3).setCell ⟨b, 4, none⟩ u4).setCell ⟨b, 5, none⟩ u5).setCell ⟨b, 6, none⟩ u6).setCell ⟨b, 7, none⟩ u7).setCell ⟨b, 8, none⟩ u8).setCell ⟨b, 9, none⟩ u9).heap[b]? = some (.cells #[u0, u1, u2, u3, u4, u5, u6, u7, u8, u9, v10] t (0, 0)) := setI h8 9 u9
  have h10 : (((((((((((w.setCell ⟨b, 0, none⟩ u0).setCell ⟨b, 1, none⟩ u1).setCell ⟨b, 2, none⟩ u2).setCell ⟨b, 3, none⟩ u3).setCell ⟨b, 4, none⟩ u4).setCell ⟨b, 5, none⟩ u5).setCell ⟨b, 6, none⟩ u6).setCell ⟨b, 7, none⟩ u7).setCell ⟨b, 8, none⟩ u8).setCell ⟨b, 9, none⟩ u9).setCell ⟨b, 10, none⟩ u10).heap[b]? = some (.cells #[u0, u1, u2, u3, u4, u5, u6, u7, u8, u9, u10] t (0, 0)) := setI h9 10 u10
  exact h10
theorem own_slice {w : World} {N n k s : Nat} {T : TypeId} {a : Option Addr} {c : Nat} {xs : List Value} (h : w.ownsRow N T s (.slice a n c) k xs) : a = none → c = 0 := fun e => by
  rcases h.2 with ⟨h1, _⟩ | ⟨g, cap, cur, h1, _⟩
  · injection h1
  · subst e
    injection h1 with h1 _ _
    cases h1
theorem far11 {w : World} {b c : Nat} (hc : c ≠ b) (u0 u1 u2 u3 u4 u5 u6 u7 u8 u9 u10 : Value) : (((((((((((w.setCell ⟨b, 0, none⟩ u0).setCell ⟨b, 1, none⟩ u1).setCell ⟨b, 2, none⟩ u2).setCell ⟨b, 3, none⟩ u3).setCell ⟨b, 4, none⟩ u4).setCell ⟨b, 5, none⟩ u5).setCell ⟨b, 6, none⟩ u6).setCell ⟨b, 7, none⟩ u7).setCell ⟨b, 8, none⟩ u8).setCell ⟨b, 9, none⟩ u9).setCell ⟨b, 10, none⟩ u10).heap[c]? = w.heap[c]? :=
  (setCell_other hc).trans ((setCell_other hc).trans ((setCell_other hc).trans ((setCell_other hc).trans ((setCell_other hc).trans ((setCell_other hc).trans ((setCell_other hc).trans ((setCell_other hc).trans ((setCell_other hc).trans ((setCell_other hc).trans ((setCell_other hc).trans rfl))))))))))
theorem below11 {M : Nat} {w0 w : World} {b : Nat} (h : Below M w0 w) (hb : M ≤ b) (u0 u1 u2 u3 u4 u5 u6 u7 u8 u9 u10 : Value) : Below M w0 (((((((((((w.setCell ⟨b, 0, none⟩ u0).setCell ⟨b, 1, none⟩ u1).setCell ⟨b, 2, none⟩ u2).setCell ⟨b, 3, none⟩ u3).setCell ⟨b, 4, none⟩ u4).setCell ⟨b, 5, none⟩ u5).setCell ⟨b, 6, none⟩ u6).setCell ⟨b, 7, none⟩ u7).setCell ⟨b, 8, none⟩ u8).setCell ⟨b, 9, none⟩ u9).setCell ⟨b, 10, none⟩ u10) :=
  ((((((((((h.setCell (p := ⟨b, 0, none⟩) hb u0).setCell (p := ⟨b, 1, none⟩) hb u1).setCell (p := ⟨b, 2, none⟩) hb u2).setCell (p := ⟨b, 3, none⟩) hb u3).setCell (p := ⟨b, 4, none⟩) hb u4).setCell (p := ⟨b, 5, none⟩) hb u5).setCell (p := ⟨b, 6, none⟩) hb u6).setCell (p := ⟨b, 7, none⟩) hb u7).setCell (p := ⟨b, 8, none⟩) hb u8).setCell (p := ⟨b, 9, none⟩) hb u9).setCell (p := ⟨b, 10, none⟩) hb u10
theorem bx11f {w : World} {b : Nat} {v0 v1 v2 v3 v4 v5 v6 v7 v8 v9 v10 : Value} {t : TypeId} (h : w.heap[b]? = some (.cells #[v0, v1, v2, v3, v4, v5, v6, v7, v8, v9, v10] t (0, 0))) : w.frozen? ⟨b, 0, none⟩ = false ∧ w.frozen? ⟨b, 1, none⟩ = false ∧ w.frozen? ⟨b, 2, none⟩ = false ∧ w.frozen? ⟨b, 3, none⟩ = false ∧ w.frozen? ⟨b, 4, none⟩ = false ∧ w.frozen? ⟨b, 5, none⟩ = false ∧ w.frozen? ⟨b, 6, none⟩ = false ∧ w.frozen? ⟨b, 7, none⟩ = false ∧ w.frozen? ⟨b, 8, none⟩ = false ∧ w.frozen? ⟨b, 9, none⟩ = false ∧ w.frozen? ⟨b, 10, none⟩ = false := by
  simp [World.frozen?, h]
theorem cellsI_at {l : List It} {i j : Nat} (h : i < l.length) (hj : j < 6) : (cellsI l)[i * 6 + j]? = (l[i]'h).cells[j]? := by
  induction l generalizing i with
  | nil => cases h
  | cons a l ih =>
    have e : cellsI (a :: l) = a.cells ++ cellsI l := by simp [cellsI]
    have hc : a.cells.length = 6 := rfl
    rw [e]
    cases i with
    | zero => exact (by rw [List.getElem?_append_left (by omega)]; simp)
    | succ i =>
      rw [List.getElem?_append_right (by omega)]
      have h2 := ih (i := i) (by simpa using h)
      have e2 : (i + 1) * 6 + j - a.cells.length = i * 6 + j := by omega
      rw [e2, h2]; rfl
theorem itS_own {w : World} {B : Nat} {a : Option Addr} {c n : Nat} {l : List It} (h : w.ownsRow B 45 6 (.slice a n c) l.length (cellsI l)) : ItS w a l := fun i hi => by
  rcases h.2 with ⟨h1, h0⟩ | ⟨g, cap, cur, h1, hb, hg, hn, hc, hs, ht⟩
  · rw [h0] at hi; cases hi
  · simp only [Value.slice.injEq] at h1
    obtain ⟨rfl, _, rfl⟩ := h1
    have k : ∀ j, j < 6 → w.cell? ⟨g, 0 + i * 6 + j, none⟩ = (l[i]'hi).cells[j]? := fun j hj => by
      have e := cellsI_at hi hj
      rw [← ht, List.getElem?_take] at e
      rw [Lib.cell_of_heap hg, Nat.zero_add]
      split at e
      · rw [← e]; simp
      · omega
    exact ⟨g, 0, rfl, k 0 (by decide), k 1 (by decide), k 2 (by decide), k 3 (by decide), k 4 (by decide), k 5 (by decide)⟩
theorem cdS_own {w : World} {B : Nat} {a : Option Addr} {c n : Nat} {l : List Int} (h : w.ownsRow B 3 1 (.slice a n c) l.length (cdsV l)) : CdS w a l := fun i hi => by
  rcases h.2 with ⟨h1, h0⟩ | ⟨g, cap, cur, h1, hb, hg, hn, hc, hs, ht⟩
  · rw [h0] at hi; cases hi
  · simp only [Value.slice.injEq] at h1
    obtain ⟨rfl, _, rfl⟩ := h1
    refine ⟨g, 0, rfl, ?_⟩
    rw [Lib.cell_of_heap hg, Nat.zero_add]
    have e : (cdsV l)[i]? = some (.int .i64 (l[i]'hi)) := by simp [cdsV, List.getElem?_eq_getElem hi]
    rw [← ht, List.getElem?_take] at e
    split at e
    · simpa using e
    · cases e
theorem own_ge {w : World} {N n k s : Nat} {T : TypeId} {a : Option Addr} {c : Nat} {xs : List Value} (h : w.ownsRow N T s (.slice a n c) k xs) : ∀ b, a = some b → N ≤ b.block := fun b e => by
  rcases h.2 with ⟨h1, _⟩ | ⟨g, cap, cur, h1, hb, _⟩
  · subst e
    injection h1 with h1 _ _
    cases h1
  · subst e
    injection h1 with h1 _ _
    injection h1 with h1
    subst h1
    exact hb
def NoteP (n : Nt) (w : World) (e : Ending) (w' : World) : Prop :=
  ∃ ai az ci cz, e = .returned (nA n ai az ci cz) ∧ Below w.heap.size w w' ∧ ItS w' ai n.l ∧ CdS w' az n.z ∧ (ai = none → ci = 0) ∧ (az = none → cz = 0) ∧ (∀ b, ai = some b → w.heap.size ≤ b.block) ∧ (∀ b, az = some b → w.heap.size ≤ b.block)
theorem read_any (k : Int) (l : List UInt8) (w : World) (hl : l.length ≤ 1000000) : Calls Tryz.prog 39 #[.int .i64 k, .string (mk l)] w (NoteP (rd k l) w) := by
  have HR : Hid (Rr (w.heap.size + 1) 107 (nR k ⟨#[]⟩ ⟨#[]⟩ ⟨#[]⟩ 0 0 0 0 false (.slice none 0 0) (.slice none 0 0)) ((w.alloc (.cells #[.int .i64 0, .string ⟨#[]⟩, .string ⟨#[]⟩, .string ⟨#[]⟩, .int .i64 0, .int .i64 0, .int .i64 0, .int .i64 0, .bool false, .slice none 0 0, .slice none 0 0] 25)).alloc (.cells #[.string (mk l), .int .i64 k, .string ⟨#[]⟩, .string ⟨#[]⟩, .string ⟨#[]⟩, .int .i64 0, .int .i64 0, .int .i64 0, .int .i64 0, .bool false, .slice none 0 0, .slice none 0 0] 107)) l) := by
    show Rr _ _ _ _ _
    have := box_new (w.alloc (.cells #[.int .i64 0, .string ⟨#[]⟩, .string ⟨#[]⟩, .string ⟨#[]⟩, .int .i64 0, .int .i64 0, .int .i64 0, .int .i64 0, .bool false, .slice none 0 0, .slice none 0 0] 25)) #[.string (mk l), .int .i64 k, .string ⟨#[]⟩, .string ⟨#[]⟩, .string ⟨#[]⟩, .int .i64 0, .int .i64 0, .int .i64 0, .int .i64 0, .bool false, .slice none 0 0, .slice none 0 0] 107
    unfold Rr
    simpa [nR] using this
  have HX : Hid (((w.alloc (.cells #[.int .i64 0, .string ⟨#[]⟩, .string ⟨#[]⟩, .string ⟨#[]⟩, .int .i64 0, .int .i64 0, .int .i64 0, .int .i64 0, .bool false, .slice none 0 0, .slice none 0 0] 25)).alloc (.cells #[.string (mk l), .int .i64 k, .string ⟨#[]⟩, .string ⟨#[]⟩, .string ⟨#[]⟩, .int .i64 0, .int .i64 0, .int .i64 0, .int .i64 0, .bool false, .slice none 0 0, .slice none 0 0] 107)).heap[w.heap.size]? = some (.cells #[.int .i64 0, .string ⟨#[]⟩, .string ⟨#[]⟩, .string ⟨#[]⟩, .int .i64 0, .int .i64 0, .int .i64 0, .int .i64 0, .bool false, .slice none 0 0, .slice none 0 0] 25 (0, 0))) := (Below.heap_alloc (w.alloc (.cells #[.int .i64 0, .string ⟨#[]⟩, .string ⟨#[]⟩, .string ⟨#[]⟩, .int .i64 0, .int .i64 0, .int .i64 0, .int .i64 0, .bool false, .slice none 0 0, .slice none 0 0] 25)) _ _ (by simp)).trans (box_new w _ _)
  have HB : Hid (Below w.heap.size w ((w.alloc (.cells #[.int .i64 0, .string ⟨#[]⟩, .string ⟨#[]⟩, .string ⟨#[]⟩, .int .i64 0, .int .i64 0, .int .i64 0, .int .i64 0, .bool false, .slice none 0 0, .slice none 0 0] 25)).alloc (.cells #[.string (mk l), .int .i64 k, .string ⟨#[]⟩, .string ⟨#[]⟩, .string ⟨#[]⟩, .int .i64 0, .int .i64 0, .int .i64 0, .int .i64 0, .bool false, .slice none 0 0, .slice none 0 0] 107))) := ((Below.refl _ w).alloc (Nat.le_refl _) _).alloc (by simp) _
  have C := Lib.hid (gfields_any k HR.out hl)
  generalize rd k l = n at C ⊢
  generalize mk l = S at HR HX HB C ⊢
  clear hl HR
  go_enter Tryz.func39, Tryz.ntmps39
  go_wp2_with fail
  refine C.out.mono ?_
  rintro e w3 ⟨rfl, hb, ai, az, ci, cz, m, hr, hoi, hoz⟩
  have HX3 := Lib.hid (hb.keep HX.out (heap_lt HX.out) (by omega))
  have HB3 : Hid (Below w.heap.size w w3) := HB.out.trans ((hb.mono HB.out.size).toBelow (by omega))
  have HS := Lib.hid (own_slice hoi)
  have HSZ := Lib.hid (own_slice hoz)
  have HOI := Lib.hid hoi
  have HOZ := Lib.hid hoz
  obtain ⟨c1, c2, c3, c4, c5, c6, c7, c8, c9, c10, c11⟩ := hr.cells
  have yX := bx11 HX3.out
  obtain ⟨z0, z1, z2, z3, z4, z5, z6, z7, z8, z9, z10⟩ := bx11f HX3.out
  have hPl := hr.lt
  clear hb hr hoi hoz C HX
  go_wp2_with fail
  obtain ⟨wz, hwz⟩ : ∃ z, z = (((((((((((w3.setCell ⟨w.heap.size, 0, none⟩ (.int .i64 n.k)).setCell ⟨w.heap.size, 1, none⟩ (.string n.n)).setCell ⟨w.heap.size, 2, none⟩ (.string n.x)).setCell ⟨w.heap.size, 3, none⟩ (.string n.d)).setCell ⟨w.heap.size, 4, none⟩ (.int .i64 n.c)).setCell ⟨w.heap.size, 5, none⟩ (.int .i64 n.s)).setCell ⟨w.heap.size, 6, none⟩ (.int .i64 n.e)).setCell ⟨w.heap.size, 7, none⟩ (.int .i64 n.t)).setCell ⟨w.heap.size, 8, none⟩ (.bool n.o)).setCell ⟨w.heap.size, 9, none⟩ (.slice ai n.l.length ci)).setCell ⟨w.heap.size, 10, none⟩ (.slice az n.z.length cz)) := ⟨_, rfl⟩
  have HZ : Hid (wz.heap[w.heap.size]? = some (.cells #[.int .i64 n.k, .string n.n, .string n.x, .string n.d, .int .i64 n.c, .int .i64 n.s, .int .i64 n.e, .int .i64 n.t, .bool n.o, .slice ai n.l.length ci, .slice az n.z.length cz] 25 (0, 0))) := by show _ = _; rw [hwz]; exact set11 HX3.out _ _ _ _ _ _ _ _ _ _ _
  have HZB : Hid (Below w.heap.size w wz) := by show Below _ _ _; rw [hwz]; exact below11 HB3.out (Nat.le_refl _) _ _ _ _ _ _ _ _ _ _ _
  have HZI : Hid (ItS wz ai n.l) := by
    show ItS _ _ _
    refine itS_own (B := 0) (own_keep (own_mono HOI.out (Nat.zero_le _)) fun b hb => ?_)
    rw [hwz]
    exact far11 (fun q => by obtain ⟨_, cur, hc⟩ := own_heap HOI.out hb; rw [q, HX3.out] at hc; injection hc with hc; injection hc with _ hc _; exact absurd hc (by decide)) _ _ _ _ _ _ _ _ _ _ _
  have HZZ : Hid (CdS wz az n.z) := by
    show CdS _ _ _
    refine cdS_own (B := 0) (own_keep (own_mono HOZ.out (Nat.zero_le _)) fun b hb => ?_)
    rw [hwz]
    exact far11 (fun q => by obtain ⟨_, cur, hc⟩ := own_heap HOZ.out hb; rw [q, HX3.out] at hc; injection hc with hc; injection hc with _ hc _; exact absurd hc (by decide)) _ _ _ _ _ _ _ _ _ _ _
  rw [← hwz]
  clear hwz
  exact bodyPost_ret (results_cell_row Tryz.results39 _ _ w.heap.size 25 _ (0, 0) _ rfl HZ.out Tryz.underlying25 rfl (by kernel_rfl)) rfl ⟨ai, az, ci, cz, rfl, HZB.out, HZI.out, HZZ.out, HS.out, HSZ.out, fun b e => Nat.le_trans HB.out.size (own_ge HOI.out b e), fun b e => Nat.le_trans HB.out.size (own_ge HOZ.out b e)⟩
end
end Go.Proofs.YtiodjaeonoheiaaGreatDoor.T
