/- Frames in memory; a reader that has read; the contract of Feed. Conditions: those of each theorem's head. -/
import Derived.Test.YtpdhjifocdbbdaaUg
import Derived.Laws.AppendOwnNone
namespace Go.Proofs.Ytpdhjifocdbbdaa
open Go.RowKit Go.Lib

/-- Behind an address the frames l. -/
def FrS (w : World) (a : Option Addr) (l : List Fr) : Prop :=
  ∀ i (h : i < l.length), ∃ b o, a = some ⟨b, o, none⟩ ∧ w.cell? ⟨b, o + i * 3, none⟩ = some (.int .i64 l[i].c) ∧ w.cell? ⟨b, o + i * 3 + 1, none⟩ = some (.int .i64 l[i].q) ∧ w.cell? ⟨b, o + i * 3 + 2, none⟩ = some (.string l[i].d)
theorem FrS.below {w w' : World} {a : Option Addr} {l : List Fr} (h : FrS w a l) (hb : Below w.heap.size w w') : FrS w' a l := fun i hi => by
  obtain ⟨b, o, e, c0, c1, c2⟩ := h i hi
  exact ⟨b, o, e, (hb.cell (p := ⟨b, _, none⟩) (World.block_lt_of_cell? _ _ c0)).trans c0, (hb.cell (p := ⟨b, _, none⟩) (World.block_lt_of_cell? _ _ c1)).trans c1, (hb.cell (p := ⟨b, _, none⟩) (World.block_lt_of_cell? _ _ c2)).trans c2⟩
theorem FrS.nil (w : World) (a : Option Addr) : FrS w a [] := fun i h => by cases h
theorem infoFr : (Try.prog.info? 37).map (fun i => (i.zero, i.size, i.bytes)) = some (some (.agg #[.int .i64 0, .int .i64 0, .string ⟨#[]⟩]), 3, 32) := by kernel_rfl
def cellsF (l : List Fr) : List Value := l.flatMap Fr.cells
theorem cellsF_len (l : List Fr) : (cellsF l).length = l.length * 3 := by
  induction l with
  | nil => rfl
  | cons a l ih =>
    rw [cellsF, List.flatMap_cons, List.length_append]
    have : (l.flatMap Fr.cells).length = l.length * 3 := ih
    rw [this, List.length_cons, Fr.cells]
    simp; omega
theorem cellsF_snoc (l : List Fr) (t : Fr) : cellsF (l ++ [t]) = cellsF l ++ [.int .i64 t.c, .int .i64 t.q, .string t.d] := by
  simp [cellsF, Fr.cells]
theorem cellsF_at {l : List Fr} {i j : Nat} (h : i < l.length) (hj : j < 3) : (cellsF l)[i * 3 + j]? = (l[i]'h).cells[j]? := by
  induction l generalizing i with
  | nil => cases h
  | cons a l ih =>
    have e : cellsF (a :: l) = a.cells ++ cellsF l := by simp [cellsF]
    have hc : a.cells.length = 3 := rfl
    rw [e]
    cases i with
    | zero => exact (by rw [List.getElem?_append_left (by omega)]; simp)
    | succ i =>
      rw [List.getElem?_append_right (by omega)]
      have h2 := ih (i := i) (by simpa using h)
      have e2 : (i + 1) * 3 + j - a.cells.length = i * 3 + j := by omega
      rw [e2, h2]; rfl
theorem frS_own {w : World} {B : Nat} {a : Option Addr} {c n : Nat} {l : List Fr} (h : w.ownsRow B 37 3 (.slice a n c) l.length (cellsF l)) : FrS w a l := fun i hi => by
  rcases h.2 with ⟨h1, h0⟩ | ⟨g, cap, cur, h1, hb, hg, hn, hc, hs, ht⟩
  · rw [h0] at hi; cases hi
  · simp only [Value.slice.injEq] at h1
    obtain ⟨rfl, _, rfl⟩ := h1
    have k : ∀ j, j < 3 → w.cell? ⟨g, 0 + i * 3 + j, none⟩ = (l[i]'hi).cells[j]? := fun j hj => by
      have e := cellsF_at hi hj
      rw [← ht, List.getElem?_take] at e
      rw [Lib.cell_of_heap hg, Nat.zero_add]
      split at e
      · rw [← e]; simp
      · omega
    exact ⟨g, 0, rfl, k 0 (by decide), k 1 (by decide), k 2 (by decide)⟩
theorem own_slice {w : World} {N n k s : Nat} {T : TypeId} {a : Option Addr} {c : Nat} {xs : List Value} (h : w.ownsRow N T s (.slice a n c) k xs) : a = none → c = 0 := fun e => by
  rcases h.2 with ⟨h1, _⟩ | ⟨g, cap, cur, h1, _⟩
  · injection h1
  · subst e
    injection h1 with h1 _ _
    cases h1
theorem FrS.cells {w : World} {a : Addr} {l : List Fr} (h : FrS w (some a) l) : ∀ j u, (cellsF l)[j]? = some u → w.cell? (a.add j) = some u := fun j u hu => by
  have hj : j < l.length * 3 := by
    have := (List.getElem?_eq_some_iff.1 hu).1
    rwa [cellsF_len] at this
  have hi : j / 3 < l.length := by omega
  obtain ⟨b, p, e, c0, c1, c2⟩ := h (j / 3) hi
  cases e
  have hadd : (⟨b, p, none⟩ : Addr).add j = ⟨b, p + j, none⟩ := by unfold Addr.add; split <;> simp_all
  rw [hadd]
  have hr : j % 3 = 0 ∨ j % 3 = 1 ∨ j % 3 = 2 := by omega
  rcases hr with hr | hr | hr
  · have ej : j = j / 3 * 3 + 0 := by omega
    have e2 := cellsF_at hi (j := 0) (by decide)
    rw [← ej, hu] at e2
    have e3 : u = .int .i64 (l[j / 3]'hi).c := by simpa [Fr.cells] using e2
    rw [e3, show p + j = p + j / 3 * 3 by omega]
    exact c0
  · have ej : j = j / 3 * 3 + 1 := by omega
    have e2 := cellsF_at hi (j := 1) (by decide)
    rw [← ej, hu] at e2
    have e3 : u = .int .i64 (l[j / 3]'hi).q := by simpa [Fr.cells] using e2
    rw [e3, show p + j = p + j / 3 * 3 + 1 by omega]
    exact c1
  · have ej : j = j / 3 * 3 + 2 := by omega
    have e2 := cellsF_at hi (j := 2) (by decide)
    rw [← ej, hu] at e2
    have e3 : u = .string (l[j / 3]'hi).d := by simpa [Fr.cells] using e2
    rw [e3, show p + j = p + j / 3 * 3 + 2 by omega]
    exact c2
theorem cellsF_one (l : List Fr) : ∀ u ∈ cellsF l, u.oneCell' = true := fun u hu => by
  unfold cellsF at hu
  obtain ⟨t, _, ht⟩ := List.mem_flatMap.1 hu
  unfold Fr.cells at ht
  rcases List.mem_cons.1 ht with rfl | ht
  · rfl
  rcases List.mem_cons.1 ht with rfl | ht
  · rfl
  · rw [List.mem_singleton] at ht
    subst ht
    rfl
theorem cellsF_app (l k : List Fr) : cellsF (l ++ k) = cellsF l ++ cellsF k := by simp [cellsF]
theorem FrS.none_nil {w : World} {l : List Fr} (h : FrS w none l) : l = [] := by
  cases l with
  | nil => rfl
  | cons t l =>
    obtain ⟨_, _, e, _⟩ := h 0 (by simp)
    cases e
/-- 'append(v, l...)' where v is a row of the call's own: a row of its own with l behind it. -/
theorem wpList_append_fr (w : World) {ops : Array Oper} {rest : List Oper} {o : Oper} {a : Act} {Q : Exit → Act → World → Prop} (hgd : o.guard = none) (s x : Operand)
    (ho : o.op = .call { callee := .builtin .append, args := #[s, x], argTypes := #[27, 27] })
    (base : Nat) (v : Value) (n : Nat) (acc : List Fr) (hs : a.eval s = v) (hna : n = acc.length) (hown : w.ownsRow base 37 3 v n (cellsF acc))
    (aL : Option Addr) (l : List Fr) (c : Nat) (hx : a.eval x = .slice aL l.length c) (hL : FrS w aL l) (hc : aL = none → c = 0) (hb : n + l.length ≤ 1000000) (hbase : base ≤ w.heap.size)
    (h : ∀ a' c' w', w'.ownsRow base 37 3 (.slice a' (n + l.length) c') (n + l.length) (cellsF (acc ++ l)) → w.grownBy w' v.ownBlock → wpList Try.prog ops Q rest (a.put o.dst (.slice a' (n + l.length) c')) w') :
    wpList Try.prog ops Q (o :: rest) a w := by
  subst hna
  obtain ⟨i0, hi0, hz0, hz1, hz2⟩ := info_parts infoFr
  cases aL with
  | none =>
    obtain rfl := hL.none_nil
    obtain rfl := hc rfl
    refine wpList_append_own_none hgd s x _ ho base 37 i0 3 Try.underlying27 hi0 v acc.length (cellsF acc) hs hown hx ?_
    rw [List.append_nil] at h
    simp only [List.length_nil, Nat.add_zero] at h
    rcases hown.2 with ⟨rfl, h0⟩ | ⟨g, cap, cur, rfl, _⟩
    · have h2 := h none 0 w (by rw [h0] at hown ⊢; exact hown) ⟨rfl, rfl, rfl, Nat.le_refl _, fun _ _ _ => rfl⟩
      rw [h0] at h2
      exact h2
    · exact h (some ⟨g, 0, none⟩) cap w hown ⟨rfl, rfl, rfl, Nat.le_refl _, fun _ _ _ => rfl⟩
  | some ad =>
    refine wpList_append_own w hgd s x _ ho base 37 i0 _ 3 32 Try.underlying27 hi0 hz0 hz1 hz2 rfl (by decide) v acc.length (cellsF acc) hs hown ad l.length c (cellsF l) hx (cellsF_len l) hL.cells (cellsF_one l) (by unfold maxLen; omega) (by omega) hbase ?_
    intro v' w' h2 h3 _
    rw [← cellsF_app] at h2
    rcases h2.2 with ⟨rfl, h0⟩ | ⟨g, cap, cur, rfl, _⟩
    · have h4 := h none 0 w' (by rw [h0] at h2 ⊢; exact h2) h3
      rw [h0] at h4
      exact h4
    · exact h (some ⟨g, 0, none⟩) cap w' h2 h3

/-- At R is the reader s. -/
def Rd (N R : Nat) (w : World) (s : St) : Prop := (∃ v, Rk N R w v s.b (szv s.b) s.p s.e) ∧ Good s
theorem Rd.below {N R : Nat} {w w' : World} {s : St} (h : Rd N R w s) (hb : Below w.heap.size w w') : Rd N R w' s := by
  obtain ⟨⟨v, h1⟩, h2⟩ := h
  exact ⟨⟨v, h1.below hb⟩, h2⟩
theorem Rd.lt {N R : Nat} {w : World} {s : St} (h : Rd N R w s) : R < w.heap.size := by
  obtain ⟨⟨v, h1⟩, h2⟩ := h
  exact heap_lt h1.box
theorem Rd.le {N R : Nat} {w : World} {s : St} (h : Rd N R w s) : N ≤ R := by
  obtain ⟨⟨v, h1⟩, h2⟩ := h
  exact h1.le
/-- A row of frames grew. -/
theorem Rd.grown {N R M n : Nat} {w w' : World} {s : St} {v : Value} {xs : List Value} (h : Rd N R w s) (hg : w.grownBy w' v.ownBlock) (ho : w.ownsRow M 37 3 v n xs) : Rd N R w' s := by
  obtain ⟨⟨u, h1⟩, h2⟩ := h
  refine ⟨⟨u, h1.other hg (fun e => ?_) (fun b hb e => ?_)⟩, h2⟩
  · obtain ⟨_, cur, hc⟩ := own_heap ho e
    rw [h1.box] at hc
    injection hc with hc
    injection hc with _ hc _
    exact absurd hc (by decide)
  · obtain ⟨_, cur, hc⟩ := own_heap ho e
    obtain ⟨_, cur2, hc2⟩ := own_heap h1.row hb
    rw [hc2] at hc
    injection hc with hc
    injection hc with _ hc _
    exact absurd hc (by decide)
theorem Ch.own {N R M n : Nat} {w w' : World} {s : St} {v : Value} {xs : List Value} (h : Ch N R w w') (hR : Rd N R w s) (ho : w.ownsRow M 37 3 v n xs) : w'.ownsRow M 37 3 v n xs := by
  obtain ⟨⟨u, h1⟩, h2⟩ := hR
  refine own_keep ho fun b hb => ?_
  obtain ⟨_, cur, hc⟩ := own_heap ho hb
  exact h.frame h1 hc
theorem Ch.grownNew {N R : Nat} {a w w' : World} {row : Option Nat} (h : Ch N R a w) (hg : w.grownBy w' row) (hr : ∀ b, row = some b → a.heap.size ≤ b) : Ch N R a w' := by
  refine ⟨hg.os.trans h.os, hg.tape.trans h.tape, hg.output.trans h.output, Nat.le_trans h.size hg.size, fun b hb => ?_⟩
  rw [hg.block b (Nat.lt_of_lt_of_le hb h.size) (fun e => by have := hr b e.symm; omega)]
  exact h.block b hb
theorem stp_cases (s : St) (c : UInt8) (hg : Good s) (he : s.e = 0) :
    (lookE s.p (s.b ++ [c]) ≠ 0 ∧ stp s c = (⟨s.p, [], lookE s.p (s.b ++ [c])⟩, [])) ∨
    (lookE s.p (s.b ++ [c]) = 0 ∧ ¬ (s.b ++ [c]).length = 6 + szv (s.b ++ [c]) ∧ stp s c = (⟨s.p, s.b ++ [c], 0⟩, [])) ∨
    (lookE s.p (s.b ++ [c]) = 0 ∧ (s.b ++ [c]).length = 6 + szv (s.b ++ [c]) ∧ stp s c = (⟨some (sq (s.b ++ [c])), [], 0⟩, [⟨By.nb (s.b ++ [c]) 1, sq (s.b ++ [c]), mk ((s.b ++ [c]).drop 6)⟩])) := by
  have hp := hg.part he
  have k := hd_step hp c
  unfold stp
  rw [if_neg (by simpa using he)]
  by_cases h1 : lookE s.p (s.b ++ [c]) ≠ 0
  · rw [if_pos h1] at k
    refine .inl ⟨h1, ?_⟩
    rw [k]
  · rw [if_neg h1] at k
    have h1 : lookE s.p (s.b ++ [c]) = 0 := by simpa using h1
    by_cases h2 : (s.b ++ [c]).length = 6 + szv (s.b ++ [c])
    · rw [if_pos h2] at k
      refine .inr (.inr ⟨h1, h2, ?_⟩)
      rw [k]
      have h3 : szv (s.b ++ [c]) = sz (s.b ++ [c]) := by
        unfold szv
        rw [if_pos (by omega)]
      have h4 : (s.b ++ [c]).take (6 + sz (s.b ++ [c])) = s.b ++ [c] := List.take_of_length_le (by omega)
      unfold frOf
      rw [h4]
    · rw [if_neg h2] at k
      refine .inr (.inl ⟨h1, h2, ?_⟩)
      rw [k]
theorem run_count : ∀ (s : St) (l : List UInt8), (run s l).2.length ≤ l.length
  | s, [] => by rw [run_nil]; exact Nat.le_refl _
  | s, c :: l => by
    rw [run, List.length_append, List.length_cons]
    have h := run_count (stp s c).1 l
    have h2 : (stp s c).2.length ≤ 1 := by
      unfold stp
      split
      · simp
      split <;> simp
    omega
end Go.Proofs.Ytpdhjifocdbbdaa
