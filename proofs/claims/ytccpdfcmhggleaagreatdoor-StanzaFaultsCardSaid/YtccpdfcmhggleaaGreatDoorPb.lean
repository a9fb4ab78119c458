/- Plain mathematics of stanzas, further: a stanza that may be is told by its element; how much it and its element are. No condition; nothing of the program stands here. -/
import Derived.Test.YtccpdfcmhggleaaGreatDoorPa
namespace Go.Proofs.YtccpdfcmhggleaaGreatDoor.St
open Go.Lib Tg Sg

theorem emp_iff {t : ByteArray} : t.toList.isEmpty = true ↔ t = E0 := by
  rw [List.isEmpty_iff]
  exact ⟨fun h => eq_of_toList (h.trans (by rw [ByteArray.toList_eq]; rfl)), fun h => by subst h; rw [ByteArray.toList_eq]; rfl⟩
theorem emp_ff {t : ByteArray} (h : t ≠ E0) : t.toList.isEmpty = false := by rw [Bool.eq_false_iff, ne_eq, emp_iff]; exact h
theorem emp_E0 : E0.toList.isEmpty = true := emp_iff.2 rfl
/-! ### Attributes -/
theorem attrV_two (a b n : ByteArray) (r : List ByteArray) : attrV (newA (a :: b :: r)) n = if a = n ∧ b ≠ E0 then b else attrV (newA r) n := by
  rw [newA]
  by_cases hb : b = E0
  · subst hb
    rw [if_pos emp_E0, if_neg (by simp)]
  · rw [if_neg (by rw [emp_iff]; exact hb), attrV]
    by_cases ha : a = n
    · rw [if_pos (show (a.toList == n.toList) = true from eqb_iff.2 ha), if_pos ⟨ha, hb⟩]
    · rw [if_neg (show ¬ (a.toList == n.toList) = true from fun h => ha (eqb_iff.1 h)), if_neg (fun h => ha h.1)]
theorem attrV_new0 (n : ByteArray) : attrV (newA []) n = E0 := rfl
theorem pick_E0 {v x : ByteArray} (h : x = E0) : (if v ≠ E0 then v else x) = v := by
  subst h
  by_cases hv : v = E0
  · rw [if_neg (fun h => h hv), hv]
  · rw [if_pos hv]
theorem ne_names : aFrom ≠ aTo ∧ aFrom ≠ aId ∧ aFrom ≠ aType ∧ aTo ≠ aId ∧ aTo ≠ aType ∧ aId ≠ aType := by decide
theorem attr_from (s : S) : attrV (attrsOf s) aFrom = s.fA.txt := by
  obtain ⟨h1, h2, h3, h4, h5, h6⟩ := ne_names
  unfold attrsOf
  rw [attrV_two, attrV_two, attrV_two, attrV_two, attrV_new0, if_neg (fun h : aTo = aFrom ∧ _ => h1 h.1.symm), if_neg (fun h : aId = aFrom ∧ _ => h2 h.1.symm), if_neg (fun h : aType = aFrom ∧ _ => h3 h.1.symm)]
  simpa using pick_E0 (v := s.fA.txt) rfl
theorem attr_to (s : S) : attrV (attrsOf s) aTo = s.tA.txt := by
  obtain ⟨h1, h2, h3, h4, h5, h6⟩ := ne_names
  unfold attrsOf
  rw [attrV_two, attrV_two, attrV_two, attrV_two, attrV_new0, if_neg (fun h : aFrom = aTo ∧ _ => h1 h.1), if_neg (fun h : aId = aTo ∧ _ => h4 h.1.symm), if_neg (fun h : aType = aTo ∧ _ => h5 h.1.symm)]
  simpa using pick_E0 (v := s.tA.txt) rfl
theorem attr_id (s : S) : attrV (attrsOf s) aId = s.id := by
  obtain ⟨h1, h2, h3, h4, h5, h6⟩ := ne_names
  unfold attrsOf
  rw [attrV_two, attrV_two, attrV_two, attrV_two, attrV_new0, if_neg (fun h : aFrom = aId ∧ _ => h2 h.1), if_neg (fun h : aTo = aId ∧ _ => h4 h.1), if_neg (fun h : aType = aId ∧ _ => h6 h.1.symm)]
  simpa using pick_E0 (v := s.id) rfl
theorem attr_ty (s : S) : attrV (attrsOf s) aType = s.ty := by
  obtain ⟨h1, h2, h3, h4, h5, h6⟩ := ne_names
  unfold attrsOf
  rw [attrV_two, attrV_two, attrV_two, attrV_two, attrV_new0, if_neg (fun h : aFrom = aType ∧ _ => h3 h.1), if_neg (fun h : aTo = aType ∧ _ => h5 h.1), if_neg (fun h : aId = aType ∧ _ => h6 h.1)]
  simpa using pick_E0 (v := s.ty) rfl
theorem any_two (p : ByteArray → Bool) (a b : ByteArray) (r : List ByteArray) (h : p a = false) : (newA (a :: b :: r)).any (fun x => p x.1) = (newA r).any fun x => p x.1 := by
  rw [newA]
  split
  · rfl
  · rw [List.any_cons, h, Bool.false_or]
theorem strange_no (s : S) : (attrsOf s).any (fun a => strange a.1) = false := by
  have e1 : strange aFrom = false := by simp [strange, eqb_self]
  have e2 : strange aTo = false := by simp [strange, eqb_self]
  have e3 : strange aId = false := by simp [strange, eqb_self]
  have e4 : strange aType = false := by simp [strange, eqb_self]
  unfold attrsOf
  rw [any_two _ _ _ _ e1, any_two _ _ _ _ e2, any_two _ _ _ _ e3, any_two _ _ _ _ e4]
  rfl
/-! ### Kids -/
theorem kidF_cons (k : El) (r : List El) (s n : ByteArray) : kidF (k :: r) s n = if k.sp = s ∧ k.nm = n then some k else kidF r s n := by
  rw [kidF]
  have : ((k.sp.toList == s.toList) = true ∧ (k.nm.toList == n.toList) = true) ↔ (k.sp = s ∧ k.nm = n) := and_congr eqb_iff eqb_iff
  by_cases h : k.sp = s ∧ k.nm = n
  · rw [if_pos h, if_pos (this.2 h)]
  · rw [if_neg h, if_neg (fun e => h (this.1 e))]
theorem kidF_nil (s n : ByteArray) : kidF [] s n = none := rfl
theorem kidF_append (a b : List El) (s n : ByteArray) : kidF (a ++ b) s n = (kidF a s n).or (kidF b s n) := by
  induction a with
  | nil => rfl
  | cons k r ih =>
    rw [List.cons_append, kidF_cons, kidF_cons]
    split
    · rfl
    · exact ih
theorem kidF_is {l : List El} {s n : ByteArray} {e : El} (h : kidF l s n = some e) : e ∈ l ∧ e.sp = s ∧ e.nm = n := by
  induction l with
  | nil => cases h
  | cons k r ih =>
    rw [kidF_cons] at h
    split at h
    · rename_i hh
      cases h
      exact ⟨List.mem_cons_self .., hh⟩
    · have := ih h
      exact ⟨List.mem_cons_of_mem _ this.1, this.2⟩
theorem kidF_say (n t m : ByteArray) : kidF (say n t) SP m = if t ≠ E0 ∧ n = m then some (.mk SP n [] t []) else none := by
  unfold say
  by_cases ht : t = E0
  · rw [if_pos (emp_iff.2 ht), if_neg (fun h => h.1 ht)]; rfl
  · rw [if_neg (by rw [emp_iff]; exact ht), kidF_cons]
    by_cases hn : n = m
    · rw [if_pos ⟨rfl, hn⟩, if_pos ⟨ht, hn⟩]
    · rw [if_neg (fun h => hn h.2), if_neg (fun h => hn h.2)]; rfl
theorem kidF_errs (c m : ByteArray) : kidF (errs c) SP m = if c ≠ E0 ∧ tErr = m then some (errEl c) else none := by
  unfold errs
  by_cases ht : c = E0
  · rw [if_pos (emp_iff.2 ht), if_neg (fun h => h.1 ht)]; rfl
  · rw [if_neg (by rw [emp_iff]; exact ht), kidF_cons]
    by_cases hn : tErr = m
    · rw [if_pos ⟨rfl, hn⟩, if_pos ⟨ht, hn⟩]
    · rw [if_neg (fun h => hn h.2), if_neg (fun h => hn h.2)]; rfl
theorem own_of {e : El} (h1 : e.sp = SP) (h2 : e.nm = kShow ∨ e.nm = kStat ∨ e.nm = kPrio ∨ e.nm = kBody ∨ e.nm = kThr ∨ e.nm = kSubj ∨ e.nm = tErr) : ownB e = true := by
  unfold ownB
  rw [h1, eqb_self, Bool.true_and]
  rcases h2 with h | h | h | h | h | h | h <;> rw [h, eqb_self] <;> simp
theorem kidF_ld {l : List El} (h : ∀ e ∈ l, ownB e = false) {m : ByteArray} (hm : m = kShow ∨ m = kStat ∨ m = kPrio ∨ m = kBody ∨ m = kThr ∨ m = kSubj ∨ m = tErr) : kidF l SP m = none := by
  cases hk : kidF l SP m with
  | none => rfl
  | some e =>
    obtain ⟨h1, h2, h3⟩ := kidF_is hk
    have := own_of h2 (by rw [h3]; exact hm)
    rw [h e h1] at this
    cases this
theorem ne_kids : kShow ≠ kStat ∧ kShow ≠ kBody ∧ kStat ≠ kBody ∧ kShow ≠ tErr ∧ kStat ≠ tErr ∧ kBody ≠ tErr := by decide
theorem kidT_some {l : List El} {n : ByteArray} {e : El} (h : kidF l SP n = some e) : kidT l n = e.tx := by unfold kidT; rw [h]
theorem kidT_none {l : List El} {n : ByteArray} (h : kidF l SP n = none) : kidT l n = E0 := by unfold kidT; rw [h]
theorem kid_show {s : S} (h : ∀ e ∈ s.ld, ownB e = false) : kidT (kidsOf s) kShow = s.sh := by
  obtain ⟨n1, n2, n3, n4, n5, n6⟩ := ne_kids
  have e : kidF (kidsOf s) SP kShow = if s.sh ≠ E0 then some (.mk SP kShow [] s.sh []) else none := by
    unfold kidsOf
    rw [kidF_append, kidF_append, kidF_append, kidF_append, kidF_say, kidF_say, kidF_say, kidF_ld h (.inl rfl), kidF_errs,
      if_neg (fun h : s.st ≠ E0 ∧ kStat = kShow => n1 h.2.symm), if_neg (fun h : s.bd ≠ E0 ∧ kBody = kShow => n2 h.2.symm), if_neg (fun h : s.cd ≠ E0 ∧ tErr = kShow => n4 h.2.symm)]
    simp
  by_cases hs : s.sh = E0
  · rw [if_neg (fun h => h hs)] at e
    rw [kidT_none e, hs]
  · rw [if_pos hs] at e
    exact kidT_some e
theorem kid_stat {s : S} (h : ∀ e ∈ s.ld, ownB e = false) : kidT (kidsOf s) kStat = s.st := by
  obtain ⟨n1, n2, n3, n4, n5, n6⟩ := ne_kids
  have e : kidF (kidsOf s) SP kStat = if s.st ≠ E0 then some (.mk SP kStat [] s.st []) else none := by
    unfold kidsOf
    rw [kidF_append, kidF_append, kidF_append, kidF_append, kidF_say, kidF_say, kidF_say, kidF_ld h (.inr (.inl rfl)), kidF_errs,
      if_neg (fun h : s.sh ≠ E0 ∧ kShow = kStat => n1 h.2), if_neg (fun h : s.bd ≠ E0 ∧ kBody = kStat => n3 h.2.symm), if_neg (fun h : s.cd ≠ E0 ∧ tErr = kStat => n5 h.2.symm)]
    simp
  by_cases hs : s.st = E0
  · rw [if_neg (fun h => h hs)] at e
    rw [kidT_none e, hs]
  · rw [if_pos hs] at e
    exact kidT_some e
theorem kid_body {s : S} (h : ∀ e ∈ s.ld, ownB e = false) : kidT (kidsOf s) kBody = s.bd := by
  obtain ⟨n1, n2, n3, n4, n5, n6⟩ := ne_kids
  have e : kidF (kidsOf s) SP kBody = if s.bd ≠ E0 then some (.mk SP kBody [] s.bd []) else none := by
    unfold kidsOf
    rw [kidF_append, kidF_append, kidF_append, kidF_append, kidF_say, kidF_say, kidF_say, kidF_ld h (.inr (.inr (.inr (.inl rfl)))), kidF_errs,
      if_neg (fun h : s.sh ≠ E0 ∧ kShow = kBody => n2 h.2), if_neg (fun h : s.st ≠ E0 ∧ kStat = kBody => n3 h.2), if_neg (fun h : s.cd ≠ E0 ∧ tErr = kBody => n6 h.2.symm)]
    simp
  by_cases hs : s.bd = E0
  · rw [if_neg (fun h => h hs)] at e
    rw [kidT_none e, hs]
  · rw [if_pos hs] at e
    exact kidT_some e
theorem kid_err {s : S} (h : ∀ e ∈ s.ld, ownB e = false) (hc : s.cd ≠ E0) : errKids (kidsOf s) = [.mk ER s.cd [] E0 []] := by
  obtain ⟨n1, n2, n3, n4, n5, n6⟩ := ne_kids
  have e : kidF (kidsOf s) SP tErr = some (errEl s.cd) := by
    unfold kidsOf
    rw [kidF_append, kidF_append, kidF_append, kidF_append, kidF_say, kidF_say, kidF_say, kidF_ld h (.inr (.inr (.inr (.inr (.inr (.inr rfl)))))), kidF_errs,
      if_neg (fun h : s.sh ≠ E0 ∧ kShow = tErr => n4 h.2), if_neg (fun h : s.st ≠ E0 ∧ kStat = tErr => n5 h.2), if_neg (fun h : s.bd ≠ E0 ∧ kBody = tErr => n6 h.2), if_pos ⟨hc, rfl⟩]
    simp
  unfold errKids
  rw [e]; rfl
theorem say_own (n t : ByteArray) (h : n = kShow ∨ n = kStat ∨ n = kPrio ∨ n = kBody ∨ n = kThr ∨ n = kSubj ∨ n = tErr) : (say n t).filter (fun k => !ownB k) = [] := by
  unfold say
  split
  · rfl
  · rw [List.filter_cons_of_neg (by rw [own_of (e := .mk SP n [] t []) rfl h]; simp)]; rfl
theorem errs_own (c : ByteArray) : (errs c).filter (fun k => !ownB k) = [] := by
  unfold errs
  split
  · rfl
  · rw [List.filter_cons_of_neg (by rw [own_of (e := errEl c) rfl (.inr (.inr (.inr (.inr (.inr (.inr rfl))))))]; simp)]; rfl
theorem kid_load {s : S} (h : ∀ e ∈ s.ld, ownB e = false) : (kidsOf s).filter (fun k => !ownB k) = s.ld := by
  unfold kidsOf
  rw [List.filter_append, List.filter_append, List.filter_append, List.filter_append, say_own _ _ (.inl rfl), say_own _ _ (.inr (.inl rfl)), say_own _ _ (.inr (.inr (.inr (.inl rfl)))), errs_own,
    List.filter_eq_self.2 (fun e he => by rw [h e he]; rfl)]
  simp
/-! ### There and back -/
theorem kind_name {k : Int} (h : k = 1 ∨ k = 2 ∨ k = 3) : kindOf (nameOf k) = k := by
  rcases h with rfl | rfl | rfl <;> decide +kernel
theorem type_kind {s : S} (h : typeB s = true) : s.kd = 1 ∨ s.kd = 2 ∨ s.kd = 3 := by
  unfold typeB types at h
  by_cases h1 : s.kd = 1
  · exact .inl h1
  by_cases h2 : s.kd = 2
  · exact .inr (.inl h2)
  by_cases h3 : s.kd = 3
  · exact .inr (.inr h3)
  rw [if_neg h1, if_neg h2, if_neg h3] at h
  cases h
theorem trim_show {t : ByteArray} (h : t = E0 ∨ showB t = true) : trimB t = t := by
  rcases h with h | h
  · subst h; decide +kernel
  · unfold showB at h
    simp only [Bool.or_eq_true, eqb_iff] at h
    rcases h with ((h | h) | h) | h <;> subst h <;> decide +kernel
theorem cond_ne {c : ByteArray} (h : isCond c = true) : c ≠ E0 := by
  intro e
  subst e
  revert h
  decide +kernel
theorem load_own {s : S} (h : loadB s = true) : ∀ e ∈ s.ld, ownB e = false := by
  unfold loadB at h
  simp only [Bool.and_eq_true, Bool.not_eq_true'] at h
  intro e he
  have := List.any_eq_false.1 h.2 e he
  simp at this
  exact this.1
theorem ok_parts {s : S} (h : okS s = true) : addrB s = true ∧ typeB s = true ∧ textsB s = true ∧ condB s = true ∧ loadB s = true ∧ chkB (wr s) = true := by
  unfold okS at h
  simp only [Bool.and_eq_true] at h
  exact ⟨h.1.1.1.1.1, h.1.1.1.1.2, h.1.1.1.2, h.1.1.2, h.1.2, h.2⟩
theorem kids_back {s : S} (h : okS s = true) : withKids (bare (wr s) s.fA s.tA) (wr s).ks = s := by
  obtain ⟨_, h2, h3, h4, h5, _⟩ := ok_parts h
  have ho := load_own h5
  have hk := type_kind h2
  have e1 : (wr s).ks = kidsOf s := rfl
  have e2 : bare (wr s) s.fA s.tA = ⟨s.kd, s.ty, s.fA, s.tA, s.id, E0, E0, E0, [], E0⟩ := by
    unfold bare
    have a1 : (wr s).atr = attrsOf s := rfl
    have a2 : (wr s).nm = nameOf s.kd := rfl
    rw [a1, a2, attr_ty, attr_id, kind_name hk]
  rw [e1, e2]
  unfold withKids
  simp only
  rw [kid_show ho, kid_stat ho, kid_body ho, kid_load ho]
  unfold textsB at h3
  simp only [Bool.and_eq_true, Bool.or_eq_true, eqb_iff] at h3
  obtain ⟨_, ⟨⟨_, g1⟩, g2⟩, g3⟩ := h3
  have q1 : (if (decide (s.kd = 1) && eqb s.ty E0) = true then trimB s.sh else E0) = s.sh := by
    rcases g1 with g1 | g1
    · rw [g1]
      split
      · exact trim_show (.inl rfl)
      · rfl
    · rw [if_pos (by simp only [Bool.and_eq_true, eqb_iff]; exact g1.1), trim_show (.inr g1.2)]
  have q2 : (if decide (s.kd = 1) = true then s.st else E0) = s.st := by
    rcases g2 with g2 | g2
    · rw [g2]; split <;> rfl
    · rw [if_pos g2.1]
  have q3 : (if decide (s.kd = 2) = true then s.bd else E0) = s.bd := by
    rcases g3 with g3 | g3
    · rw [g3]; split <;> rfl
    · rw [if_pos g3.1]
  have q4 : (if eqb s.ty tErr = true then ([] : List El) else [] ++ s.ld) = s.ld := by
    split
    · rename_i ht
      unfold loadB loads at h5
      rw [if_pos ht] at h5
      simp at h5
      exact h5.1.symm
    · rfl
  have q5 : (if eqb s.ty tErr = true then condOf (errKids (kidsOf s)) else E0) = s.cd := by
    unfold condB at h4
    split
    · rename_i ht
      rw [if_pos ht] at h4
      rw [kid_err ho (cond_ne h4)]
      unfold condOf
      rw [List.find?_cons_of_pos (by simp only [El.nm, El.sp]; rw [h4, eqb_self]; rfl)]
      rfl
    · rename_i ht
      rw [if_neg ht] at h4
      exact (eqb_iff.1 h4).symm
  rw [q1, q2, q3, q4, q5]
theorem rd_wr {s : S} (h : okS s = true) : rd (wr s) = some s := by
  obtain ⟨h1, _⟩ := ok_parts h
  unfold addrB at h1
  simp only [Bool.and_eq_true] at h1
  have a1 : (wr s).atr = attrsOf s := rfl
  have t1 : ∀ a : Ad, Jd.ok a.j = true → Jd.ps a.txt.data.toList = some a.j := by
    intro a ha
    have e : a.txt.data.toList = Jd.put a.j := Jn.mk_list _
    rw [e]
    exact Jd.ps_put ((Jd.ok_iff _).1 ha)
  unfold rd
  rw [a1, attr_from, attr_to, t1 _ h1.1, t1 _ h1.2]
  simp only
  rw [if_neg (by rw [strange_no, show (wr s).sp = SP from rfl, eqb_self]; simp), Ad.of_j, Ad.of_j, kids_back h, if_pos h]
theorem rd_ok {e : El} {s : S} (h : rd e = some s) : okS s = true := by
  unfold rd at h
  split at h
  · split at h
    · cases h
    · split at h
      · cases h; assumption
      · cases h
  · cases h
/-! ### How much -/
theorem txt_size (a : Ad) : a.txt.size ≤ a.n.size + a.d.size + a.r.size + 2 := by
  unfold Ad.txt Jn.putB
  rw [Jn.mk_size]
  have := Jd.put_len ⟨a.n.data.toList, a.d.data.toList, a.r.data.toList⟩
  simpa using this
theorem newA_wt2 (a b : ByteArray) (r : List ByteArray) : wtA (newA (a :: b :: r)) + (newA (a :: b :: r)).length ≤ 1 + a.size + b.size + (wtA (newA r) + (newA r).length) := by
  rw [newA]
  split
  · omega
  · rw [wtA_cons, List.length_cons]; simp only; omega
theorem newA_wt0 : wtA (newA []) + (newA []).length = 0 := rfl
theorem wts_say (n t : ByteArray) : wts (say n t) ≤ 1 + SP.size + n.size + t.size := by
  unfold say
  split
  · simp [wts]
  · simp [wts, wt, wtA]
theorem kerr_size (c : ByteArray) : (kindOfErr c).size ≤ 6 := by
  unfold kindOfErr
  split
  · rename_i p hp
    have hm := List.mem_of_find?_eq_some hp
    have : ∀ p ∈ conds, p.2.size ≤ 6 := by decide +kernel
    exact this p hm
  · decide
theorem sizes9 : SP.size = 23 ∧ ER.size = 35 ∧ tErr.size = 5 ∧ kShow.size = 4 ∧ kStat.size = 6 ∧ kBody.size = 4 ∧ aFrom.size = 4 ∧ aTo.size = 2 ∧ aId.size = 2 ∧ aType.size = 4 ∧ E0.size = 0 := by decide
theorem wts_errs (c : ByteArray) : wts (errs c) ≤ 90 + c.size := by
  obtain ⟨z1, z2, z3, z4, z5, z6, z7, z8, z9, z10, z11⟩ := sizes9
  unfold errs
  split
  · simp [wts]
  · have h1 := newA_wt2 aType (kindOfErr c) []
    rw [newA_wt0] at h1
    have h2 := kerr_size c
    simp only [wts, errEl, wt, wtA, List.map_nil, List.sum_nil, List.length_nil] at h1 ⊢
    omega
theorem name_size (k : Int) : (nameOf k).size ≤ 8 := by
  unfold nameOf
  split
  · decide
  · split
    · decide
    · split <;> decide
theorem wt_wr (s : S) : wt (wr s) ≤ wtS s + 300 := by
  obtain ⟨z1, z2, z3, z4, z5, z6, z7, z8, z9, z10, z11⟩ := sizes9
  have a1 := newA_wt2 aFrom s.fA.txt [aTo, s.tA.txt, aId, s.id, aType, s.ty]
  have a2 := newA_wt2 aTo s.tA.txt [aId, s.id, aType, s.ty]
  have a3 := newA_wt2 aId s.id [aType, s.ty]
  have a4 := newA_wt2 aType s.ty []
  rw [newA_wt0] at a4
  have t1 := txt_size s.fA
  have t2 := txt_size s.tA
  have k1 := wts_say kShow s.sh
  have k2 := wts_say kStat s.st
  have k3 := wts_say kBody s.bd
  have k4 := wts_errs s.cd
  have n1 := name_size s.kd
  rw [wt_eq]
  have e1 : (wr s).atr = attrsOf s := rfl
  have e2 : (wr s).sp = SP := rfl
  have e3 : (wr s).nm = nameOf s.kd := rfl
  have e4 : (wr s).tx = E0 := rfl
  have e5 : (wr s).ks = kidsOf s := rfl
  rw [e1, e2, e3, e4, e5]
  unfold kidsOf attrsOf wtS
  rw [wts_append, wts_append, wts_append, wts_append]
  omega
theorem fin_size {j k : Jd.J} (h : Jd.fin j = some k) : k.n.length + k.d.length + k.r.length ≤ j.n.length + j.d.length + j.r.length := by
  unfold Jd.fin at h
  split at h
  · cases h
    obtain ⟨h1, h2, h3⟩ := Jd.norm_len j
    rw [h1, h3]; omega
  · cases h
theorem ps2_size {l r : List UInt8} {k : Jd.J} (h : Jd.ps2 l r = some k) : k.n.length + k.d.length + k.r.length ≤ l.length + r.length := by
  unfold Jd.ps2 at h
  split at h
  · have := fin_size h
    simpa using this
  · rename_i x y hc
    have hl := congrArg List.length (Jd.cut1_some hc).1
    simp at hl
    split at h
    · cases h
    · have := fin_size h
      simp at this
      omega
theorem ps_size {l : List UInt8} {k : Jd.J} (h : Jd.ps l = some k) : k.n.length + k.d.length + k.r.length ≤ l.length := by
  unfold Jd.ps at h
  split at h
  · simpa using ps2_size h
  · rename_i x y hc
    have hl := congrArg List.length (Jd.cut1_some hc).1
    simp at hl
    split at h
    · cases h
    · have := ps2_size h
      omega
theorem attr_cons (a : At) (r : List At) (n : ByteArray) : attrV (a :: r) n = if a.1 = n then a.2 else attrV r n := by
  rw [attrV]
  by_cases h : a.1 = n
  · rw [if_pos h, if_pos (show (a.1.toList == n.toList) = true from eqb_iff.2 h)]
  · rw [if_neg h, if_neg (show ¬ (a.1.toList == n.toList) = true from fun e => h (eqb_iff.1 e))]
theorem attr4 (l : List At) : (attrV l aFrom).size + (attrV l aTo).size + (attrV l aId).size + (attrV l aType).size ≤ wtA l := by
  obtain ⟨h1, h2, h3, h4, h5, h6⟩ := ne_names
  induction l with
  | nil => exact Nat.zero_le _
  | cons a r ih =>
    rw [attr_cons, attr_cons, attr_cons, attr_cons, wtA_cons]
    by_cases k1 : a.1 = aFrom
    · rw [if_pos k1, if_neg (by rw [k1]; exact h1), if_neg (by rw [k1]; exact h2), if_neg (by rw [k1]; exact h3)]; omega
    rw [if_neg k1]
    by_cases k2 : a.1 = aTo
    · rw [if_pos k2, if_neg (by rw [k2]; exact h4), if_neg (by rw [k2]; exact h5)]; omega
    rw [if_neg k2]
    by_cases k3 : a.1 = aId
    · rw [if_pos k3, if_neg (by rw [k3]; exact h6)]; omega
    rw [if_neg k3]
    by_cases k4 : a.1 = aType
    · rw [if_pos k4]; omega
    rw [if_neg k4]; omega
theorem kidT_cons (k : El) (r : List El) (n : ByteArray) : kidT (k :: r) n = if k.sp = SP ∧ k.nm = n then k.tx else kidT r n := by
  unfold kidT
  rw [kidF_cons]
  by_cases h : k.sp = SP ∧ k.nm = n
  · rw [if_pos h, if_pos h]
  · rw [if_neg h, if_neg h]
theorem kids4 (l : List El) : (kidT l kShow).size + (kidT l kStat).size + (kidT l kBody).size + wts (l.filter fun k => !ownB k) ≤ wts l := by
  obtain ⟨n1, n2, n3, _, _, _⟩ := ne_kids
  induction l with
  | nil => exact Nat.zero_le _
  | cons k r ih =>
    rw [kidT_cons, kidT_cons, kidT_cons, wts]
    have hw := wt_eq k
    by_cases hs : k.sp = SP
    · by_cases k1 : k.nm = kShow
      · rw [if_pos ⟨hs, k1⟩, if_neg (by rw [k1]; exact fun h => n1 h.2), if_neg (by rw [k1]; exact fun h => n2 h.2), List.filter_cons_of_neg (by rw [own_of hs (.inl k1)]; simp)]; omega
      rw [if_neg (fun h => k1 h.2)]
      by_cases k2 : k.nm = kStat
      · rw [if_pos ⟨hs, k2⟩, if_neg (by rw [k2]; exact fun h => n3 h.2), List.filter_cons_of_neg (by rw [own_of hs (.inr (.inl k2))]; simp)]; omega
      rw [if_neg (fun h => k2 h.2)]
      by_cases k3 : k.nm = kBody
      · rw [if_pos ⟨hs, k3⟩, List.filter_cons_of_neg (by rw [own_of hs (.inr (.inr (.inr (.inl k3))))]; simp)]; omega
      rw [if_neg (fun h => k3 h.2)]
      cases ho : ownB k with
      | true => rw [List.filter_cons_of_neg (by rw [ho]; simp)]; omega
      | false => rw [List.filter_cons_of_pos (by rw [ho]; rfl), wts]; omega
    · rw [if_neg (fun h => hs h.1), if_neg (fun h => hs h.1), if_neg (fun h => hs h.1)]
      cases ho : ownB k with
      | true => rw [List.filter_cons_of_neg (by rw [ho]; simp)]; omega
      | false => rw [List.filter_cons_of_pos (by rw [ho]; rfl), wts]; omega
theorem cond_size {c : ByteArray} (h : isCond c = true) : c.size ≤ 30 := by
  unfold isCond at h
  obtain ⟨p, hp, he⟩ := List.any_eq_true.1 h
  rw [eqb_iff.1 he]
  have : ∀ p ∈ conds, p.1.size ≤ 30 := by decide +kernel
  exact this p hp
theorem condOf_is (l : List El) : isCond (condOf l) = true := by
  unfold condOf
  split
  · rename_i k hk
    have := List.find?_some hk
    simp only [Bool.and_eq_true] at this
    exact this.1
  · decide +kernel
theorem trimB_size (s : ByteArray) : (trimB s).size ≤ s.size := by
  have := trimS_len s.data.toList [32, 9, 10, 13]
  unfold trimB
  rw [Lib.size_eq]
  have h2 : s.data.toList.length = s.size := by simp
  simp only at this ⊢
  omega
theorem wtS_kids (e : El) (f t : Ad) (hf : f.n.size + f.d.size + f.r.size ≤ (attrV e.atr aFrom).size) (ht : t.n.size + t.d.size + t.r.size ≤ (attrV e.atr aTo).size) : wtS (withKids (bare e f t) e.ks) ≤ wt e + 30 := by
  have h1 := attr4 e.atr
  have h2 := kids4 e.ks
  have h3 := wt_eq e
  have h4 := trimB_size (kidT e.ks kShow)
  have h5 := cond_size (condOf_is (errKids e.ks))
  have z11 : E0.size = 0 := rfl
  have g1 : (withKids (bare e f t) e.ks).sh.size ≤ (kidT e.ks kShow).size := by
    unfold withKids bare; simp only; split <;> omega
  have g2 : (withKids (bare e f t) e.ks).st.size ≤ (kidT e.ks kStat).size := by
    unfold withKids bare; simp only; split <;> omega
  have g3 : (withKids (bare e f t) e.ks).bd.size ≤ (kidT e.ks kBody).size := by
    unfold withKids bare; simp only; split <;> omega
  have g4 : wts (withKids (bare e f t) e.ks).ld ≤ wts (e.ks.filter fun k => !ownB k) := by
    unfold withKids bare; simp only
    split
    · simp [wts]
    · simp
  have g5 : (withKids (bare e f t) e.ks).cd.size ≤ 30 := by
    unfold withKids bare; simp only; split <;> omega
  have e1 : (withKids (bare e f t) e.ks).ty = attrV e.atr aType := rfl
  have e2 : (withKids (bare e f t) e.ks).id = attrV e.atr aId := rfl
  have e3 : (withKids (bare e f t) e.ks).fA = f := rfl
  have e4 : (withKids (bare e f t) e.ks).tA = t := rfl
  unfold wtS
  rw [e1, e2, e3, e4]
  omega
theorem of_size {l : List UInt8} {k : Jd.J} (h : Jd.ps l = some k) : (Ad.of k).n.size + (Ad.of k).d.size + (Ad.of k).r.size ≤ l.length := by
  have := ps_size h
  simp only [Ad.of, Jn.mk_size]
  exact this
end Go.Proofs.YtccpdfcmhggleaaGreatDoor.St
