/- Plain mathematics of elements: which may be, what Check counts, whether two are the same, how much one is; what may be has names of the bytes of names. No condition; nothing of the program stands here. -/
import Derived.Test.YtgcjgggnmhcfcaaTj
import Derived.Test.YtgcjgggnmhcfcaaTxt
namespace Go.Proofs.Ytgcjgggnmhcfcaa.Tg
open Go.Proofs.Ytgcjgggnmhcfcaa.Sg

/-! ### Names -/
def bgn (n : Nat) : Bool := (decide (97 ≤ n) && decide (n ≤ 122)) || (decide (65 ≤ n) && decide (n ≤ 90)) || n == 95
def fol (n : Nat) : Bool := (decide (48 ≤ n) && decide (n ≤ 57)) || n == 45 || n == 46
def nameB (l : List UInt8) : Bool := !l.isEmpty && decide (l.length ≤ 64) && bgn (nb l 0) && l.all fun c => bgn c.toNat || fol c.toNat
def xlang : List UInt8 := [120, 109, 108, 58, 108, 97, 110, 103]
def attrNameB (l : List UInt8) : Bool := l == xlang || (!(l == xmlns) && nameB l)
noncomputable def isTx (l : List UInt8) : Bool := @decide (∃ cs, IsT l cs) (Classical.propDecidable _)
theorem isTx_iff (l : List UInt8) : isTx l = true ↔ ∃ cs, IsT l cs := by unfold isTx; exact @decide_eq_true_iff _ (Classical.propDecidable _)
noncomputable def spaceB (l : List UInt8) : Bool := !l.isEmpty && decide (l.length ≤ 256) && isTx l
/-- Whether some of these have that name. -/
def hasB (l : List (ByteArray × ByteArray)) (n : ByteArray) : Bool := l.any fun a => a.1.data.toList == n.data.toList
noncomputable def attrB (pre : List (ByteArray × ByteArray)) (a : ByteArray × ByteArray) : Bool := attrNameB a.1.data.toList && !hasB pre a.1 && isTx a.2.data.toList
noncomputable def attrsFrom (pre : List (ByteArray × ByteArray)) : List (ByteArray × ByteArray) → Bool
  | [] => true
  | a :: r => attrB pre a && attrsFrom (pre ++ [a]) r
noncomputable def attrsB (l : List (ByteArray × ByteArray)) : Bool := attrsFrom [] l
noncomputable def mayB (e : El) : Bool := nameB e.nm.data.toList && spaceB e.sp.data.toList && decide (e.atr.length ≤ 16) && isTx e.tx.data.toList && attrsB e.atr

/-- The k-th of the attributes fails, and those ahead of it don't: some fail. -/
theorem attrs_fail {l : List (ByteArray × ByteArray)} {k : Nat} (hk : k < l.length) (h : attrB (l.take k) l[k] = false) : attrsB l = false := by
  have : ∀ (r pre : List (ByteArray × ByteArray)) (j : Nat) (hj : j < r.length), attrB (pre ++ r.take j) r[j] = false → attrsFrom pre r = false := by
    intro r
    induction r with
    | nil => intro pre j hj; cases hj
    | cons a r ih =>
      intro pre j hj hf
      rw [attrsFrom]
      cases j with
      | zero => simp at hf; rw [hf]; rfl
      | succ j =>
        have := ih (pre ++ [a]) j (by simpa using hj) (by simpa using hf)
        rw [this]; simp
  exact this l [] k hk (by simpa using h)
theorem attrs_good {l : List (ByteArray × ByteArray)} (h : ∀ k (hk : k < l.length), attrB (l.take k) l[k] = true) : attrsB l = true := by
  have : ∀ (r pre : List (ByteArray × ByteArray)), (∀ j (hj : j < r.length), attrB (pre ++ r.take j) r[j] = true) → attrsFrom pre r = true := by
    intro r
    induction r with
    | nil => intro pre _; rfl
    | cons a r ih =>
      intro pre hf
      rw [attrsFrom]
      have h0 := hf 0 (by simp)
      simp at h0
      rw [h0, ih (pre ++ [a]) (fun j hj => by have := hf (j + 1) (by simpa using hj); simpa using this)]
      rfl
  exact this l [] (fun j hj => by simpa using h j hj)
theorem attrs_all {l : List (ByteArray × ByteArray)} (h : attrsB l = true) : ∀ a ∈ l, attrNameB a.1.data.toList = true := by
  have : ∀ (r pre : List (ByteArray × ByteArray)), attrsFrom pre r = true → ∀ a ∈ r, attrNameB a.1.data.toList = true := by
    intro r
    induction r with
    | nil => intro _ _ a ha; cases ha
    | cons b r ih =>
      intro pre hf a ha
      rw [attrsFrom] at hf
      simp only [Bool.and_eq_true] at hf
      rcases List.mem_cons.1 ha with rfl | ha
      · have := hf.1
        unfold attrB at this
        simp only [Bool.and_eq_true] at this
        exact this.1.1
      · exact ih _ hf.2 a ha
  exact this l [] h

/-! ### Check -/
mutual
/-- What Check finds of an element, and how many bytes are left behind it. -/
noncomputable def lk : El → ByteArray → Nat → Int → Bool × Int
  | .mk sp nm atr tx ks, s, d, left =>
    if 16 < d ∨ mayB (.mk sp nm atr tx ks) = false then (false, left)
    else if left - (((beg (.mk sp nm atr tx ks) s).length : Int) + ((fin (.mk sp nm atr tx ks)).length : Int)) < 0 then (false, left - (((beg (.mk sp nm atr tx ks) s).length : Int) + ((fin (.mk sp nm atr tx ks)).length : Int)))
    else lks ks sp (d + 1) (left - (((beg (.mk sp nm atr tx ks) s).length : Int) + ((fin (.mk sp nm atr tx ks)).length : Int)))
noncomputable def lks : List El → ByteArray → Nat → Int → Bool × Int
  | [], _, _, left => (true, left)
  | k :: r, s, d, left => if (lk k s d left).1 = true then lks r s d (lk k s d left).2 else (false, (lk k s d left).2)
end
theorem lk_eq (e : El) (s : ByteArray) (d : Nat) (left : Int) : lk e s d left =
    if 16 < d ∨ mayB e = false then (false, left)
    else if left - (((beg e s).length : Int) + ((fin e).length : Int)) < 0 then (false, left - (((beg e s).length : Int) + ((fin e).length : Int)))
    else lks e.ks e.sp (d + 1) (left - (((beg e s).length : Int) + ((fin e).length : Int))) := by cases e; rw [lk]; rfl
noncomputable def chkB (e : El) : Bool := (lk e ByteArray.empty 1 16384).1

theorem nameB_ok {l : List UInt8} (h : nameB l = true) : l ≠ [] ∧ Nm l := by
  unfold nameB at h
  simp only [Bool.and_eq_true, Bool.not_eq_true', List.isEmpty_eq_false_iff, List.all_eq_true] at h
  refine ⟨h.1.1.1, fun z hz => ?_⟩
  have := h.2 z hz
  refine ⟨?_, ?_, ?_, ?_⟩ <;> (rintro rfl; revert this; decide)
theorem attrNameB_ok {l : List UInt8} (h : attrNameB l = true) : Nm l ∧ l ≠ xmlns := by
  unfold attrNameB at h
  simp only [Bool.or_eq_true, beq_iff_eq, Bool.and_eq_true, Bool.not_eq_true', beq_eq_false_iff_ne] at h
  rcases h with rfl | ⟨h1, h2⟩
  · exact ⟨fun z hz => by simp [xlang] at hz; rcases hz with rfl | rfl | rfl | rfl | rfl | rfl | rfl | rfl <;> (refine ⟨?_, ?_, ?_, ?_⟩ <;> decide), by decide⟩
  · exact ⟨(nameB_ok h2).2, h1⟩
theorem size_ne {s : ByteArray} (h : s.data.toList ≠ []) : s.size ≠ 0 := fun e => h (List.length_eq_zero_iff.1 (by simpa using e))
/-- What Check lets by has names of the bytes of names. -/
theorem lk_wf (e : El) : ∀ s d left, (lk e s d left).1 = true → Wf e := by
  refine El.ind (P := fun e => ∀ s d left, (lk e s d left).1 = true → Wf e) (fun sp nm atr tx ks ih => ?_) e
  intro s d left h
  rw [lk] at h
  split at h
  · cases h
  rename_i hm
  split at h
  · cases h
  have hk : Wfs ks := by
    clear hm
    revert h
    generalize left - _ = l
    have : ∀ (m : List El) (l : Int), (∀ k ∈ m, ∀ s d left, (lk k s d left).1 = true → Wf k) → (lks m sp (d + 1) l).1 = true → Wfs m := by
      intro m
      induction m with
      | nil => intro _ _ _; simp [Wfs]
      | cons k r ihm =>
        intro l hi hr
        rw [lks] at hr
        split at hr
        · rename_i h1
          rw [Wfs]
          exact ⟨hi k (List.mem_cons_self ..) _ _ _ h1, ihm _ (fun k hk => hi k (List.mem_cons_of_mem _ hk)) hr⟩
        · cases hr
    exact this ks l ih
  have hm : mayB (.mk sp nm atr tx ks) = true := by
    cases hb : mayB (.mk sp nm atr tx ks) with
    | true => rfl
    | false => exact absurd (.inr hb) hm
  unfold mayB at hm
  simp only [Bool.and_eq_true, El.nm, El.sp, El.atr, El.tx] at hm
  obtain ⟨⟨⟨⟨h1, h2⟩, _⟩, _⟩, h5⟩ := hm
  rw [Wf]
  refine ⟨size_ne ?_, size_ne (nameB_ok h1).1, (nameB_ok h1).2, fun a ha => attrNameB_ok (attrs_all h5 a ha), hk⟩
  unfold spaceB at h2
  simp only [Bool.and_eq_true, Bool.not_eq_true', List.isEmpty_eq_false_iff] at h2
  exact h2.1.1
theorem chk_wf {e : El} (h : chkB e = true) : Wf e := lk_wf e _ _ _ h

/-! ### Same -/
def sameA : List (ByteArray × ByteArray) → List (ByteArray × ByteArray) → Bool
  | [], [] => true
  | a :: l, b :: m => (a.1.data.toList == b.1.data.toList && a.2.data.toList == b.2.data.toList) && sameA l m
  | _, _ => false
/-- Whether two are the same. -/
noncomputable def same (e f : El) : Bool := @decide (e = f) (Classical.propDecidable _)
theorem same_iff (e f : El) : same e f = true ↔ e = f := by unfold same; exact @decide_eq_true_iff _ (Classical.propDecidable _)
theorem same_no {e f : El} (h : e ≠ f) : same e f = false := by rw [Bool.eq_false_iff, ne_eq, same_iff]; exact h

/-! ### How much an element is -/
def wtA (l : List (ByteArray × ByteArray)) : Nat := (l.map fun a => a.1.size + a.2.size).sum
mutual
def wt : El → Nat
  | .mk sp nm atr tx ks => 1 + sp.size + nm.size + tx.size + atr.length + wtA atr + wts ks
def wts : List El → Nat
  | [] => 0
  | k :: r => wt k + wts r
end
theorem wt_eq (e : El) : wt e = 1 + e.sp.size + e.nm.size + e.tx.size + e.atr.length + wtA e.atr + wts e.ks := by cases e; rw [wt]; rfl
theorem wt_pos (e : El) : 1 ≤ wt e := by rw [wt_eq]; omega
theorem wtA_cons (a : ByteArray × ByteArray) (l : List (ByteArray × ByteArray)) : wtA (a :: l) = a.1.size + a.2.size + wtA l := by simp [wtA]
theorem wtA_append (l m : List (ByteArray × ByteArray)) : wtA (l ++ m) = wtA l + wtA m := by simp [wtA]
theorem wtA_take {l : List (ByteArray × ByteArray)} {k : Nat} (h : k < l.length) : wtA (l.take (k + 1)) = wtA (l.take k) + l[k].1.size + l[k].2.size := by
  rw [List.take_succ_eq_append_getElem h, wtA_append]; simp [wtA]; omega
theorem wts_append (l m : List El) : wts (l ++ m) = wts l + wts m := by
  induction l with
  | nil => simp [wts]
  | cons k r ih => simp only [List.cons_append, wts, ih]; omega
theorem wts_take {l : List El} {k : Nat} (h : k < l.length) : wts (l.take (k + 1)) = wts (l.take k) + wt l[k] := by
  rw [List.take_succ_eq_append_getElem h, wts_append]; simp [wts]
theorem wts_mem {l : List El} {k : El} (h : k ∈ l) : wt k ≤ wts l := by
  induction l with
  | nil => cases h
  | cons a r ih =>
    rw [wts]
    cases h with
    | head => omega
    | tail _ h => have := ih h; omega
theorem wts_len (l : List El) : l.length ≤ wts l := by
  induction l with
  | nil => simp
  | cons a r ih => rw [wts, List.length_cons]; have := wt_pos a; omega
theorem wtA_mem {l : List (ByteArray × ByteArray)} {a : ByteArray × ByteArray} (h : a ∈ l) : a.1.size + a.2.size ≤ wtA l := by
  induction l with
  | nil => cases h
  | cons b r ih =>
    rw [wtA_cons]
    cases h with
    | head => omega
    | tail _ h => have := ih h; omega
theorem len_size (s : ByteArray) : s.data.toList.length = s.size := by simp
theorem mark_len (n v : List UInt8) : (mark n v).length ≤ 4 + n.length + 6 * v.length := by have := q_len v; simp [mark]; omega
theorem marks_len (l : List (ByteArray × ByteArray)) : (marks l).length ≤ 4 * l.length + 6 * wtA l := by
  induction l with
  | nil => simp [marks]
  | cons a r ih =>
    have h1 : marks (a :: r) = mark a.1.data.toList a.2.data.toList ++ marks r := by simp [marks]
    have h2 := mark_len a.1.data.toList a.2.data.toList
    rw [len_size, len_size] at h2
    rw [h1, List.length_append, wtA_cons, List.length_cons]
    omega
/-- An element's text is not much longer than the element. -/
theorem beg_len (e : El) (s : ByteArray) : (beg e s).length ≤ 12 + 6 * e.sp.size + e.nm.size + 6 * e.tx.size + 4 * e.atr.length + 6 * wtA e.atr := by
  unfold beg
  have h1 := marks_len e.atr
  have h2 := q_len e.tx.data.toList
  have h3 := mark_len xmlns e.sp.data.toList
  rw [len_size] at h2 h3
  simp only [List.length_append, List.length_cons, List.length_nil, len_size]
  have h4 : (if e.sp = s then ([] : List UInt8) else mark xmlns e.sp.data.toList).length ≤ 9 + 6 * e.sp.size := by
    split
    · simp
    · have : xmlns.length = 5 := rfl
      omega
  have h5 : (if emp e.tx e.ks = true then ([47, 62] : List UInt8) else [62] ++ q e.tx.data.toList).length ≤ 2 + 6 * e.tx.size := by
    split
    · simp
    · simp; omega
  omega
theorem fin_len (e : El) : (fin e).length ≤ 3 + e.nm.size := by
  unfold fin
  split
  · simp
  · simp; omega
theorem put_len (e : El) : ∀ s, (put e s).length ≤ 20 * wt e := by
  refine El.ind (P := fun e => ∀ s, (put e s).length ≤ 20 * wt e) (fun sp nm atr tx ks ih => ?_) e
  intro s
  have hk : (puts ks sp).length ≤ 20 * wts ks := by
    have : ∀ m : List El, (∀ k ∈ m, ∀ s, (put k s).length ≤ 20 * wt k) → (puts m sp).length ≤ 20 * wts m := by
      intro m
      induction m with
      | nil => intro _; simp [puts, wts]
      | cons k r ihm =>
        intro hi
        rw [puts, wts, List.length_append]
        have := hi k (List.mem_cons_self ..) sp
        have := ihm (fun k hk => hi k (List.mem_cons_of_mem _ hk))
        omega
    exact this ks ih
  have h1 := beg_len (.mk sp nm atr tx ks) s
  have h2 := fin_len (.mk sp nm atr tx ks)
  simp only [El.sp, El.nm, El.tx, El.atr] at h1 h2
  rw [put, wt, List.length_append, List.length_append]
  omega
end Go.Proofs.Ytgcjgggnmhcfcaa.Tg
