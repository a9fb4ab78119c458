/- What was put of each kind is read as it was: plain mathematics. No condition. -/
import Derived.Test.YtiodjaeonoheiaaGreatDoorZp
import Derived.Test.YtiodjaeonoheiaaGreatDoorTe
set_option maxRecDepth 100000
namespace Go.Proofs.YtiodjaeonoheiaaGreatDoor.T
open Go Go.Lib By
theorem wid2 : wid ((2 : Nat) : Int) = true := rfl
theorem wid4 : wid ((4 : Nat) : Int) = true := rfl
theorem int_ok {x : Int} {K : Nat} (hw : wid (K : Int) = true) (h0 : 0 ≤ x) (h1 : x < ((256 ^ K : Nat) : Int)) : intOk x K = true := by
  unfold intOk
  rw [hw, decide_eq_true h0, decide_eq_true (show x < 256 ^ ((K : Int).toNat) by rw [Int.toNat_natCast]; rw [Int.natCast_pow] at h1; exact h1)]
  rfl
theorem num_dig {x : Int} {K : Nat} (hw : wid (K : Int) = true) (h0 : 0 ≤ x) (h1 : x < ((256 ^ K : Nat) : Int)) : numL' x K = dig x.toNat K := by
  unfold numL'
  rw [(intS_yes (int_ok hw h0 h1)).1, Int.toNat_natCast]
  rfl
theorem numV_int {x : Int} {K : Nat} (hw : wid (K : Int) = true) (h0 : 0 ≤ x) (h1 : x < ((256 ^ K : Nat) : Int)) : numV (intS x K) = x := (back_int (int_ok hw h0 h1)).2.2.1
theorem rnum_put {x : Int} {K : Nat} (hw : wid (K : Int) = true) (h0 : 0 ≤ x) (h1 : x < ((256 ^ K : Nat) : Int)) (r : List UInt8) : rnum K (numL' x K ++ r) = x ∧ (numL' x K ++ r).drop K = r := by
  have e := num_dig hw h0 h1
  have hl : (numL' x K).length = K := by rw [e, dig_length]
  refine ⟨?_, List.drop_left' hl⟩
  unfold rnum
  rw [List.take_left' hl]
  exact numV_int hw h0 h1
theorem rtxt_put {s : ByteArray} {K : Nat} (hw : wid (K : Int) = true) (hs : s.size < 256 ^ K) (r : List UInt8) : rtxt K (txtL s K ++ r) = s ∧ rtxR K (txtL s K ++ r) = r := by
  have h1 : (s.size : Int) < ((256 ^ K : Nat) : Int) := by exact_mod_cast hs
  have ok := int_ok hw (by omega : (0 : Int) ≤ s.size) h1
  have e : txtL s K = dig s.size K ++ s.data.toList := by
    unfold txtL
    rw [textS_yes ok, mk_list, Int.toNat_natCast]
  have ed : numL' s.size K = dig s.size K := by rw [num_dig hw (by omega) h1, Int.toNat_natCast]
  have el : txtL s K ++ r = numL' s.size K ++ (s.data.toList ++ r) := by rw [e, ed, List.append_assoc]
  obtain ⟨p1, p2⟩ := rnum_put hw (by omega : (0 : Int) ≤ s.size) h1 (s.data.toList ++ r)
  unfold rtxt rtxR
  rw [el, p1, p2, Int.toNat_natCast]
  have hl := By.len_size s
  exact ⟨by rw [List.take_left' hl, mk_self], List.drop_left' hl⟩
theorem val_eq {t : Int} {v : ByteArray} (h0 : 0 ≤ t) (h1 : t < 65536) (hv : v.size < 65536) : valL t v = numL' t 2 ++ txtL v 2 := by
  have o1 : intOk t 2 = true := int_ok wid2 h0 h1
  have o2 : intOk v.size 2 = true := int_ok wid2 (by omega : (0 : Int) ≤ v.size) (by omega : (v.size : Int) < 65536)
  have ok : (Tv.mk t v).ok = true := by unfold Tv.ok; rw [o1, o2]; rfl
  have hp : putE [Tv.mk t v] = 0 := by unfold putE; rw [if_neg (by simp), if_pos (by simp [ok])]
  unfold valL putS
  rw [if_pos hp, mk_list]
  show (putL [Tv.mk t v]) = _
  unfold numL' txtL
  rw [(intS_yes o1).1, textS_yes o2]
  simp [putL, Tv.put, mk_list]
theorem hasV_yes (t : Int) (r : List UInt8) : hasV t (numL' t 2 ++ r) = true := by
  unfold hasV
  rw [List.isPrefixOf_iff_prefix]
  exact List.prefix_append _ _
theorem hasV_nil {t : Int} (h0 : 0 ≤ t) (h1 : t < 65536) : hasV t [] = false := by
  have e : (numL' t 2).length = 2 := by rw [show numL' t 2 = dig t.toNat 2 from num_dig wid2 h0 h1, dig_length]
  rw [Bool.eq_false_iff]
  intro h
  unfold hasV at h
  rw [List.isPrefixOf_iff_prefix] at h
  have := h.length_le
  rw [e] at this
  simp at this
theorem hasV_no {t u : Int} (h0 : 0 ≤ t) (h1 : t < 65536) (h2 : 0 ≤ u) (h3 : u < 65536) (h : t ≠ u) (r : List UInt8) : hasV t (numL' u 2 ++ r) = false := by
  rw [Bool.eq_false_iff]
  intro k
  unfold hasV at k
  rw [List.isPrefixOf_iff_prefix] at k
  obtain ⟨q, hq⟩ := k
  have a := (rnum_put wid2 h0 h1 q).1
  have b := (rnum_put wid2 h2 h3 r).1
  rw [show ((2 : Nat) : Int) = 2 from rfl] at a b
  rw [hq, b] at a
  exact h a.symm
theorem rval_put {t : Int} {v : ByteArray} (h0 : 0 ≤ t) (h1 : t < 65536) (hv : v.size < 65536) (r : List UInt8) : rval t (valL t v ++ r) = v ∧ rvlR t (valL t v ++ r) = r ∧ hasV t (valL t v ++ r) = true := by
  have e : valL t v ++ r = numL' t 2 ++ (txtL v 2 ++ r) := by rw [val_eq h0 h1 hv, List.append_assoc]
  have hh : hasV t (valL t v ++ r) = true := by rw [e]; exact hasV_yes t _
  have hd : (valL t v ++ r).drop 2 = txtL v 2 ++ r := by rw [e]; exact (rnum_put wid2 h0 h1 _).2
  obtain ⟨p1, p2⟩ := rtxt_put wid2 (by omega : v.size < 256 ^ 2) r
  unfold rval rvlR
  rw [if_pos hh, if_pos hh, hd]
  exact ⟨p1, p2, hh⟩
theorem rval_no {t : Int} {l : List UInt8} (h : hasV t l = false) : rval t l = ⟨#[]⟩ ∧ rvlR t l = l := by
  unfold rval rvlR
  rw [if_neg (by rw [h]; decide), if_neg (by rw [h]; decide)]
  exact ⟨rfl, rfl⟩
theorem hasV_other {t u : Int} {v : ByteArray} (h0 : 0 ≤ t) (h1 : t < 65536) (h2 : 0 ≤ u) (h3 : u < 65536) (hv : v.size < 65536) (h : t ≠ u) (r : List UInt8) : hasV t (valL u v ++ r) = false := by
  rw [val_eq h2 h3 hv, List.append_assoc]
  exact hasV_no h0 h1 h2 h3 h _
theorem nm_len {l : List UInt8} (h : Hd.nm l = true) : l.length ≤ 16 := by
  unfold Hd.nm Hd.numb Hd.scr at h
  simp only [Bool.or_eq_true, Bool.and_eq_true, decide_eq_true_eq] at h
  omega
theorem isN_size {s : ByteArray} (h : isN s = true) : s.size ≤ 16 := by
  have := nm_len h
  rwa [By.len_size] at this
theorem txB_size {s : ByteArray} {m : Int} (h : txB s m = true) : (s.size : Int) ≤ m := by
  unfold txB at h
  rw [Bool.and_eq_true, decide_eq_true_eq] at h
  exact h.1
theorem itB_parts {x : It} (h : itB x = true) : (0 ≤ x.g ∧ x.g ≤ 65535) ∧ (0 ≤ x.i ∧ x.i ≤ 65535) ∧ (0 ≤ x.t ∧ x.t ≤ 65535) ∧ x.n.size ≤ 64 ∧ x.a.size ≤ 64 := by
  unfold itB at h
  simp only [Bool.and_eq_true, inB_iff] at h
  obtain ⟨⟨h1, h2⟩, h3⟩ := h
  refine ⟨h1, h2, ?_⟩
  split at h3
  · rename_i e
    rw [Bool.and_eq_true] at h3
    have a := isN_size h3.1
    have b := txB_size h3.2
    omega
  · split at h3
    · rename_i e
      rw [Bool.and_eq_true, Bool.and_eq_true, decide_eq_true_eq] at h3
      have a := txB_size h3.1.1
      omega
    · cases h3
theorem mrk_back {x : It} (ha : x.a.size ≤ 64) : rval 305 (mrkL x) = x.a ∧ hasV 102 (rvlR 305 (mrkL x)) = x.w := by
  have hz : (⟨#[]⟩ : ByteArray).size < 65536 := by decide
  have hw : ∀ b : Bool, hasV 102 (if b = true then valL 102 ⟨#[]⟩ else []) = b := fun b => by
    cases b
    · rw [if_neg (by decide)]; exact hasV_nil (by decide) (by decide)
    · rw [if_pos rfl]
      have := (rval_put (t := 102) (v := ⟨#[]⟩) (by decide) (by decide) hz []).2.2
      rwa [List.append_nil] at this
  unfold mrkL
  by_cases h : x.a.size = 0
  · rw [if_pos h, List.nil_append]
    have hn : hasV 305 (if x.w = true then valL 102 ⟨#[]⟩ else []) = false := by
      cases x.w
      · rw [if_neg (by decide)]; exact hasV_nil (by decide) (by decide)
      · rw [if_pos rfl]
        have := hasV_other (t := 305) (u := 102) (v := ⟨#[]⟩) (by decide) (by decide) (by decide) (by decide) hz (by decide) []
        rwa [List.append_nil] at this
    rw [(rval_no hn).1, (rval_no hn).2, By.empty_of h]
    exact ⟨rfl, hw _⟩
  · rw [if_neg h]
    obtain ⟨p1, p2, _⟩ := rval_put (t := 305) (v := x.a) (by decide) (by decide) (by omega) (if x.w = true then valL 102 ⟨#[]⟩ else [])
    rw [p1, p2]
    exact ⟨rfl, hw _⟩
theorem rdIt_put {x : It} (h : itB x = true) (r : List UInt8) : rdIt (itL x ++ r) = x ∧ rdItR (itL x ++ r) = r ∧ itL x ++ r ≠ [] := by
  obtain ⟨⟨g0, g1⟩, ⟨i0, i1⟩, ⟨t0, t1⟩, hn, ha⟩ := itB_parts h
  have hm := mrk_len x
  have hM : (mk (mrkL x)).size < 65536 := by rw [mk_size]; omega
  have e : itL x ++ r = txtL x.n 2 ++ (numL' x.g 2 ++ (numL' x.i 2 ++ (numL' x.t 2 ++ (txtL (mk (mrkL x)) 2 ++ r)))) := by simp [itL, List.append_assoc]
  obtain ⟨a1, a2⟩ := rtxt_put (s := x.n) wid2 (by omega : x.n.size < 256 ^ 2) (numL' x.g 2 ++ (numL' x.i 2 ++ (numL' x.t 2 ++ (txtL (mk (mrkL x)) 2 ++ r))))
  obtain ⟨b1, b2⟩ := rnum_put (x := x.g) wid2 g0 (by omega : x.g < 65536) (numL' x.i 2 ++ (numL' x.t 2 ++ (txtL (mk (mrkL x)) 2 ++ r)))
  obtain ⟨c1, c2⟩ := rnum_put (x := x.i) wid2 i0 (by omega : x.i < 65536) (numL' x.t 2 ++ (txtL (mk (mrkL x)) 2 ++ r))
  obtain ⟨d1, d2⟩ := rnum_put (x := x.t) wid2 t0 (by omega : x.t < 65536) (txtL (mk (mrkL x)) 2 ++ r)
  obtain ⟨f1, f2⟩ := rtxt_put (s := mk (mrkL x)) wid2 (by omega : (mk (mrkL x)).size < 256 ^ 2) r
  rw [show ((2 : Nat) : Int) = 2 from rfl] at a1 a2 b1 b2 c1 c2 d1 d2 f1 f2
  have eA : rdItA (itL x ++ r) = numL' x.g 2 ++ (numL' x.i 2 ++ (numL' x.t 2 ++ (txtL (mk (mrkL x)) 2 ++ r))) := by unfold rdItA; rw [e, a2]
  have e2 : (rdItA (itL x ++ r)).drop 2 = numL' x.i 2 ++ (numL' x.t 2 ++ (txtL (mk (mrkL x)) 2 ++ r)) := by rw [eA, b2]
  have e4 : (rdItA (itL x ++ r)).drop 4 = numL' x.t 2 ++ (txtL (mk (mrkL x)) 2 ++ r) := by rw [show 4 = 2 + 2 from rfl, ← List.drop_drop, e2, c2]
  have eB : rdItB (itL x ++ r) = txtL (mk (mrkL x)) 2 ++ r := by unfold rdItB; rw [show 6 = 4 + 2 from rfl, ← List.drop_drop, e4, d2]
  have eM : rdItM (itL x ++ r) = mrkL x := by unfold rdItM; rw [eB, f1, mk_list]
  refine ⟨?_, by unfold rdItR; rw [eB, f2], ?_⟩
  · unfold rdIt
    rw [eM, e4, e2, eA, b1, c1, d1, (mrk_back ha).1, (mrk_back ha).2, e, a1]
  · intro q
    have := congrArg List.length q
    rw [e] at this
    have hl : (numL' x.g 2).length = 2 := by rw [show numL' x.g 2 = dig x.g.toNat 2 from num_dig wid2 g0 (by omega : x.g < 65536), dig_length]
    rw [List.length_append, List.length_append, hl] at this
    simp at this
theorem rdIts_put : ∀ {l : List It}, (∀ x ∈ l, itB x = true) → ∀ r, rdIts l.length (itsL l ++ r) = l ∧ rdItsR l.length (itsL l ++ r) = r
  | [], _, r => ⟨rfl, rfl⟩
  | x :: l, h, r => by
    have e : itsL (x :: l) ++ r = itL x ++ (itsL l ++ r) := by show (itL x ++ itsL l) ++ r = _; rw [List.append_assoc]
    obtain ⟨p1, p2, p3⟩ := rdIt_put (h x List.mem_cons_self) (itsL l ++ r)
    obtain ⟨q1, q2⟩ := rdIts_put (l := l) (fun y hy => h y (List.mem_cons_of_mem _ hy)) r
    rw [e, List.length_cons, rdIts_next p3, rdItsR_next p3, p1, p2, q1, q2]
    exact ⟨rfl, rfl⟩
theorem rnum_two {x : Int} (h0 : 0 ≤ x) (h1 : x < 65536) (r : List UInt8) : rnum 2 (numL' x 2 ++ r) = x ∧ (numL' x 2 ++ r).drop 2 = r := rnum_put wid2 h0 h1 r
theorem rnum_four {x : Int} (h0 : 0 ≤ x) (h1 : x < 4294967296) (r : List UInt8) : rnum 4 (numL' x 4 ++ r) = x ∧ (numL' x 4 ++ r).drop 4 = r := rnum_put wid4 h0 h1 r
theorem may_k {n : Nt} (h : may n = true) (K : Nat) (hk : n.k = K) (_h1 : 1 ≤ K) (_h2 : K ≤ 29) : hold (bndN K) n = true := by
  have := (may_iff.1 h).2.1
  rwa [(show bnd n.k = bndN K by unfold bnd; rw [if_pos (may_iff.1 h).1, hk, Int.toNat_natCast])] at this
theorem size0 {s : ByteArray} (h : (s.size : Int) ≤ 0) : s = ⟨#[]⟩ := By.empty_of (by omega)
theorem nmB_no {s : ByteArray} (h : nmB s false = true) : s = ⟨#[]⟩ := by
  unfold nmB at h
  rw [if_neg (by decide), decide_eq_true_eq] at h
  exact By.empty_of h
theorem len0 {α : Type} {l : List α} (h : (l.length : Int) ≤ 0) : l = [] := List.length_eq_zero_iff.1 (by omega)
theorem int0 {x : Int} (h : 0 ≤ x ∧ x ≤ 0) : x = 0 := by omega
theorem bool0 {o : Bool} (h : false = true ∨ o = false) : o = false := by
  rcases h with e | e
  · cases e
  · exact e
theorem items_in {l : List It} (h : l.all itB = true) : ∀ x ∈ l, itB x = true := List.all_eq_true.1 h
end Go.Proofs.YtiodjaeonoheiaaGreatDoor.T
namespace Go.Proofs.YtiodjaeonoheiaaGreatDoor.T
open Go Go.Lib By
theorem rdb_18 {a x d : ByteArray} {c s e t : Int} {o : Bool} {l : List It} {z : List Int} (h : may ⟨18, a, x, d, c, s, e, t, o, l, z⟩ = true) (r : List UInt8) : rd 18 (bodyL ⟨18, a, x, d, c, s, e, t, o, l, z⟩ ++ r) = ⟨18, a, x, d, c, s, e, t, o, l, z⟩ := by
  have q := may_k h 18 rfl (by decide) (by decide)
  rw [hold_iff] at q
  obtain ⟨ha, hx, hd, hc, hs, he, ht, ho, hl, hli, hz, hzi⟩ := q
  obtain rfl : a = ⟨#[]⟩ := nmB_no ha
  obtain rfl : x = ⟨#[]⟩ := size0 (txB_size hx)
  obtain rfl : d = ⟨#[]⟩ := size0 hd.2
  obtain rfl : c = 0 := int0 hc
  obtain rfl : s = 0 := int0 hs
  obtain rfl : e = 0 := int0 he
  have kt : 0 ≤ t ∧ t ≤ 4294967295 := ht
  obtain rfl : o = false := bool0 ho
  have kl : (0 : Int) ≤ l.length ∧ (l.length : Int) ≤ 100 := hl
  have klm := items_in (l := l) hli
  obtain rfl : z = [] := len0 hz.2
  rw [rd_of 18 _ 18 rfl (by decide) (by decide), bodyL_of _ 18 rfl (by decide) (by decide)]
  have ef : bodyN ⟨18, ⟨#[]⟩, ⟨#[]⟩, ⟨#[]⟩, 0, 0, 0, t, false, l, []⟩ 18 ++ r = numL' l.length 2 ++ (itsL l ++ (numL' t 4 ++ r)) := by
    show (numL' l.length 2 ++ itsL l ++ numL' t 4) ++ r = _
    simp only [List.append_assoc]
  rw [ef]
  have p := rnum_two (x := l.length) (by omega) (by omega) (itsL l ++ (numL' t 4 ++ r))
  have q := rdIts_put (l := l) klm (numL' t 4 ++ r)
  have u := rnum_four (x := t) kt.1 (by omega) r
  show ({ nK 18 with l := rdIts (rnum 2 (numL' l.length 2 ++ (itsL l ++ (numL' t 4 ++ r)))).toNat ((numL' l.length 2 ++ (itsL l ++ (numL' t 4 ++ r))).drop 2), t := rnum 4 (rdItsR (rnum 2 (numL' l.length 2 ++ (itsL l ++ (numL' t 4 ++ r)))).toNat ((numL' l.length 2 ++ (itsL l ++ (numL' t 4 ++ r))).drop 2)) } : Nt) = _
  rw [p.1, p.2, Int.toNat_natCast, q.1, q.2, u.1]; rfl
theorem k_lit {k : Int} (h : isK k = true) : ∃ K : Nat, k = K ∧ 1 ≤ K ∧ K ≤ 29 := by
  unfold isK at h
  rw [Bool.and_eq_true, decide_eq_true_eq, decide_eq_true_eq] at h
  exact ⟨k.toNat, by omega, by omega, by omega⟩
end Go.Proofs.YtiodjaeonoheiaaGreatDoor.T
