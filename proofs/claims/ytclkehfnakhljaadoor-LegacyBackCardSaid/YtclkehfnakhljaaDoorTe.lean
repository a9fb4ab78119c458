/- Contracts: the document's Parse; there and back, plainly. Conditions: those of each theorem's head. -/
import Derived.Test.YtclkehfnakhljaaDoorTd
import Derived.Deep.AppendLies
import Derived.Deep.DeepCutAuto

namespace Go.Proofs.YtclkehfnakhljaaDoor.T
open Go.RowKit Go.Lib Go.Shelf

theorem infoTlv : (Tryd.prog.info? 106).map (fun i => (i.zero, i.size, i.bytes)) = some (some (.agg #[.int .i64 0, .string ⟨#[]⟩]), 2, 24) := by kernel_rfl
def cellsT (l : List Tv) : List Value := l.flatMap Tv.cells
theorem cellsT_len (l : List Tv) : (cellsT l).length = l.length * 2 := by
  induction l with
  | nil => rfl
  | cons a l ih =>
    rw [cellsT, List.flatMap_cons, List.length_append]
    have : (l.flatMap Tv.cells).length = l.length * 2 := ih
    rw [this, List.length_cons, Tv.cells]
    simp; omega
theorem cellsT_snoc (l : List Tv) (t : Tv) : cellsT (l ++ [t]) = cellsT l ++ [.int .i64 t.k, .string t.v] := by
  simp [cellsT, Tv.cells]
theorem cellsT_at {l : List Tv} {i j : Nat} (h : i < l.length) (hj : j < 2) : (cellsT l)[i * 2 + j]? = (l[i]'h).cells[j]? := by
  induction l generalizing i with
  | nil => cases h
  | cons a l ih =>
    have e : cellsT (a :: l) = a.cells ++ cellsT l := by simp [cellsT]
    have hc : a.cells.length = 2 := rfl
    rw [e]
    cases i with
    | zero => exact (by rw [List.getElem?_append_left (by omega)]; simp)
    | succ i =>
      rw [List.getElem?_append_right (by omega)]
      have h2 := ih (i := i) (by simpa using h)
      have e2 : (i + 1) * 2 + j - a.cells.length = i * 2 + j := by omega
      rw [e2, h2]; rfl
theorem tvS_own {w : World} {B : Nat} {a : Option Addr} {c n : Nat} {l : List Tv} (h : w.ownsRow B 106 2 (.slice a n c) l.length (cellsT l)) : TvS w a l := fun i hi => by
  rcases h.2 with ⟨h1, h0⟩ | ⟨g, cap, cur, h1, hb, hg, hn, hc, hs, ht⟩
  · rw [h0] at hi; cases hi
  · simp only [Value.slice.injEq] at h1
    obtain ⟨rfl, _, rfl⟩ := h1
    have k : ∀ j, j < 2 → w.cell? ⟨g, 0 + i * 2 + j, none⟩ = (l[i]'hi).cells[j]? := fun j hj => by
      have e := cellsT_at hi hj
      rw [← ht, List.getElem?_take] at e
      rw [Lib.cell_of_heap hg, Nat.zero_add]
      split at e
      · rw [← e]; simp
      · omega
    exact ⟨g, 0, rfl, k 0 (by decide), k 1 (by decide)⟩
theorem own_keep {w w' : World} {N n s : Nat} {T : TypeId} {v : Value} {xs : List Value} (h : w.ownsRow N T s v n xs) (hk : ∀ b, v.ownBlock = some b → w'.heap[b]? = w.heap[b]?) : w'.ownsRow N T s v n xs := by
  refine ⟨h.1, ?_⟩
  rcases h.2 with h3 | ⟨g, cap, cur, rfl, q1, q2, q3⟩
  · exact .inl h3
  · exact .inr ⟨g, cap, cur, rfl, q1, (hk g rfl).trans q2, q3⟩
theorem own_heap {w : World} {N n s : Nat} {T : TypeId} {v : Value} {xs : List Value} (h : w.ownsRow N T s v n xs) {b : Nat} (hb : v.ownBlock = some b) : N ≤ b ∧ ∃ cur, w.heap[b]? = some (.cells cur T (0, 0)) := by
  rcases h.2 with ⟨rfl, _⟩ | ⟨g, cap, cur, rfl, q1, q2, q3⟩
  · cases hb
  · cases hb
    exact ⟨q1, cur, q2⟩
theorem own_below {w w' : World} {N n s : Nat} {T : TypeId} {v : Value} {xs : List Value} (h : w.ownsRow N T s v n xs) (hb : Below w.heap.size w w') : w'.ownsRow N T s v n xs :=
  own_keep h fun b e => by
    obtain ⟨_, cur, hc⟩ := own_heap h e
    exact hb.block _ (heap_lt hc)
theorem nil_ne {a : ByteArray} (h : a.data.toList ≠ []) : a.toList.isEmpty = false ∧ ¬ a.toList = [] ∧ (a.toList != []) = true := by
  rw [ByteArray.toList_eq]
  exact ⟨by simpa using h, h, by simpa using h⟩
theorem prs_zero {f : Nat} {s : ByteArray} (h : s.size = 0) : prs f s = ([], 0) := by
  cases f <;> (rw [prs, if_pos h])
theorem prs_torn {f : Nat} {s : ByteArray} (h : ¬ s.size = 0) (h2 : cutOk s = false) : prs f s = ([], 110) := by
  cases f <;> (rw [prs, if_neg h, if_pos h2])
theorem prs_many {s : ByteArray} (h : ¬ s.size = 0) (h2 : cutOk s = true) : prs 0 s = ([], 6) := by
  rw [prs, if_neg h, if_neg (by rw [h2]; decide)]
theorem prs_next {f : Nat} {s : ByteArray} (h : ¬ s.size = 0) (h2 : cutOk s = true) : prs (f + 1) s = joinR [cutT s] (prs f (cutR s)) := by
  rw [prs, if_neg h, if_neg (by rw [h2]; decide)]
theorem cutR_size (s : ByteArray) : (cutR s).size ≤ s.size - 2 := by
  unfold cutR fstR
  rw [ext_size, ext_size]
  omega
theorem cutT_size (s : ByteArray) : (cutT s).v.size ≤ s.size := Nat.le_trans (ext_le _ _ _) (ext_le _ _ _)
def sizeS : Value → Nat
  | .string s => s.size
  | _ => 0
/-- What Parse answers. -/
def ParP (s : ByteArray) (w : World) (e : Ending) (w' : World) : Prop := ∃ a c, e = .returned (.tuple #[.slice a (prs 64 s).1.length c, .int .i64 (prs 64 s).2]) ∧ TvS w' a (prs 64 s).1 ∧ Below w.heap.size w w'
end Go.Proofs.YtclkehfnakhljaaDoor.T

namespace Go.Proofs.YtclkehfnakhljaaDoor.T
open Go.RowKit Go.Lib Go.Shelf By

theorem prs_len : ∀ (f : Nat) (s : ByteArray), (prs f s).1.length ≤ f
  | 0, s => by
    rw [prs]
    split
    · exact Nat.le_refl _
    split <;> exact Nat.le_refl _
  | f + 1, s => by
    rw [prs]
    split
    · exact Nat.zero_le _
    split
    · exact Nat.zero_le _
    have ih := prs_len f (cutR s)
    unfold joinR
    split
    · simp; omega
    · simp
theorem prs_size : ∀ (f : Nat) (s : ByteArray), s.size ≤ 140737488351232 → ∀ t ∈ (prs f s).1, t.v.size ≤ 140737488351232
  | 0, s => by
    intro _
    rw [prs]
    split
    · intro t ht; cases ht
    split <;> (intro t ht; cases ht)
  | f + 1, s => by
    intro hs
    rw [prs]
    split
    · intro t ht; cases ht
    split
    · intro t ht; cases ht
    have hr := cutR_size s
    have ih := prs_size f (cutR s) (by omega)
    have hc := cutT_size s
    unfold joinR
    split
    · intro t ht
      rcases List.mem_append.1 ht with h | h
      · rw [List.mem_singleton] at h
        subst h
        omega
      · exact ih t h
    · intro t ht; cases ht
theorem intOk_nat {n width : Int} (h : intOk n width = true) : ∃ x K : Nat, n = x ∧ width = K ∧ wid K = true ∧ x < 256 ^ K := by
  unfold intOk at h
  simp only [Bool.and_eq_true, decide_eq_true_eq] at h
  obtain ⟨⟨h1, h2⟩, h3⟩ := h
  have hw := wid_cases h1
  refine ⟨n.toNat, width.toNat, by omega, by omega, ?_, ?_⟩
  · rw [show ((width.toNat : Nat) : Int) = width by omega]
    exact h1
  · have h4 : n < ((256 ^ width.toNat : Nat) : Int) := by rw [Int.natCast_pow]; exact h3
    exact (Int.toNat_lt h2).2 h4
theorem back_int {n width : Int} (h : intOk n width = true) : intE n width = 0 ∧ numE (intS n width) = 0 ∧ numV (intS n width) = n ∧ ((intS n width).size : Int) = width := by
  have h' := h
  obtain ⟨x, K, rfl, rfl, hw, hx⟩ := intOk_nat h'
  obtain ⟨e1, e2⟩ := intS_yes h
  rw [e1]
  rw [Int.toNat_natCast, Int.toNat_natCast]
  have hz : (mk (dig x K)).size = K := by rw [mk_size, dig_length]
  refine ⟨e2, ?_, ?_, ?_⟩
  · unfold numE; rw [hz, if_pos hw]
  · unfold numV; rw [hz, if_pos hw, mk_list, numL_dig_lt hx]
  · rw [hz]
theorem first_put (s : ByteArray) (K : Nat) (r : List UInt8) (hs : s.size < 256 ^ K) (X : ByteArray) (hX : X = mk (dig s.size K ++ (s.data.toList ++ r))) :
    fl X K = s.size ∧ fstOk X K = true ∧ fstT X K = s ∧ fstR X K = mk r := by
  have hl : X.data.toList = dig s.size K ++ (s.data.toList ++ r) := by rw [hX, mk_list]
  have hsl : s.data.toList.length = s.size := By.len_size s
  have hz : X.size = K + (s.size + r.length) := by rw [hX, mk_size, List.length_append, List.length_append, dig_length, hsl]
  have hf : fl X K = s.size := by
    unfold fl
    rw [hl, List.take_left' (dig_length _ _), numL_dig_lt hs]
  refine ⟨hf, ?_, ?_, ?_⟩
  · unfold fstOk
    rw [hf, decide_eq_true (by omega), decide_eq_true (by omega)]
    rfl
  · unfold fstT
    rw [hf]
    apply By.bytes_ext
    rw [By.extract_cut, List.drop_take, hl, List.drop_left' (dig_length _ _), Nat.add_sub_cancel_left, List.take_left' hsl]
  · unfold fstR
    rw [hf]
    apply By.bytes_ext
    rw [By.extract_drop, hl, ← List.drop_drop, List.drop_left' (dig_length _ _), List.drop_left' hsl, mk_list]
theorem cut_put (t : Tv) (h : t.ok = true) (r : List UInt8) : cutOk (mk (t.put ++ r)) = true ∧ cutT (mk (t.put ++ r)) = t ∧ cutR (mk (t.put ++ r)) = mk r := by
  have h' := h
  unfold Tv.ok at h'
  rw [Bool.and_eq_true] at h'
  obtain ⟨x, K, hx, hK, _, hlt⟩ := intOk_nat h'.1
  have hK2 : K = 2 := by omega
  subst hK2
  have hsz := Tv.ok_size h
  have hl : (mk (t.put ++ r)).data.toList = dig x 2 ++ (dig t.v.size 2 ++ (t.v.data.toList ++ r)) := by
    rw [mk_list, Tv.put, hx, Int.toNat_natCast, List.append_assoc, List.append_assoc]
  have hz : 2 ≤ (mk (t.put ++ r)).size := by
    rw [Lib.size_eq, hl, List.length_append, dig_length]
    omega
  have hX : (mk (t.put ++ r)).extract 2 (mk (t.put ++ r)).size = mk (dig t.v.size 2 ++ (t.v.data.toList ++ r)) := by
    apply By.bytes_ext
    rw [By.extract_drop, hl, List.drop_left' (dig_length _ _), mk_list]
  obtain ⟨_, f2, f3, f4⟩ := first_put t.v 2 r hsz _ hX
  refine ⟨?_, ?_, ?_⟩
  · unfold cutOk
    rw [decide_eq_true hz, f2]
    rfl
  · have ek : (cutT (mk (t.put ++ r))).k = t.k := by
      show ((numL ((mk (t.put ++ r)).data.toList.take 2) : Nat) : Int) = t.k
      rw [hl, List.take_left' (dig_length _ _), numL_dig_lt hlt, hx]
    have ev : (cutT (mk (t.put ++ r))).v = t.v := f3
    calc cutT (mk (t.put ++ r)) = ⟨(cutT (mk (t.put ++ r))).k, (cutT (mk (t.put ++ r))).v⟩ := rfl
      _ = ⟨t.k, t.v⟩ := by rw [ek, ev]
      _ = t := rfl
  · exact f4
theorem prs_put : ∀ (l : List Tv) (f : Nat), (∀ t ∈ l, t.ok = true) → l.length ≤ f → prs f (mk (putL l)) = (l, 0)
  | [], f, _, _ => prs_zero rfl
  | t :: l, 0, _, h => by simp at h
  | t :: l, f + 1, h, hf => by
    obtain ⟨c1, c2, c3⟩ := cut_put t (h t List.mem_cons_self) (putL l)
    have e : putL (t :: l) = t.put ++ putL l := by simp [putL]
    rw [e]
    have hz : ¬ (mk (t.put ++ putL l)).size = 0 := by
      rw [mk_size, List.length_append, Tv.put, List.length_append, dig_length]
      omega
    rw [prs_next hz c1, c2, c3, prs_put l f (fun x hx => h x (List.mem_cons_of_mem _ hx)) (by simpa using hf)]
    rfl
theorem cut_text {s : ByteArray} {width : Int} (h : intOk s.size width = true) {c : Nat} (hc : c < (textS s width).size) : firstE ((textS s width).extract 0 c) width = 110 ∧ firstT ((textS s width).extract 0 c) width = ⟨#[]⟩ ∧ firstR ((textS s width).extract 0 c) width = ⟨#[]⟩ := by
  have h' := h
  obtain ⟨x, K, hx, rfl, hw, hlt⟩ := intOk_nat h'
  have hx2 : s.size = x := by omega
  rw [← hx2] at hlt
  have hT : textS s K = mk (dig s.size K ++ s.data.toList) := by rw [textS_yes h, Int.toNat_natCast]
  have hTz : (textS s K).size = K + s.size := by rw [hT, mk_size, List.length_append, dig_length, By.len_size]
  have hYl : ((textS s K).extract 0 c).data.toList = (dig s.size K ++ s.data.toList).take c := by rw [By.extract_cut, hT, mk_list, List.drop_zero]
  have hYz : ((textS s K).extract 0 c).size = c := by
    rw [Lib.size_eq, hYl, List.length_take, List.length_append, dig_length, By.len_size]
    omega
  have hno : fstOk ((textS s K).extract 0 c) K = false := by
    unfold fstOk
    by_cases hk : K ≤ c
    · have hf : fl ((textS s K).extract 0 c) K = s.size := by
        unfold fl
        rw [hYl, List.take_take, Nat.min_eq_left hk, List.take_left' (dig_length _ _), numL_dig_lt hlt]
      rw [hf, hYz, decide_eq_false (show ¬ K + s.size ≤ c by omega)]
      simp
    · rw [hYz, decide_eq_false hk]
      rfl
  obtain ⟨g1, g2, g3⟩ := first_torn _ hw hno
  exact ⟨g3, g1, g2⟩
end Go.Proofs.YtclkehfnakhljaaDoor.T
