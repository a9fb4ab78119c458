/- What Put gives is read back; unlike notes have unlike bytes; what is cut off is none; what was read is put again: plain mathematics. No condition. -/
import Derived.Test.YtclkehfnakhljaaDoorZm
import Derived.Test.YtclkehfnakhljaaDoorZc
namespace Go.Proofs.YtclkehfnakhljaaDoor.T
open Go Go.Lib By

theorem rdN_k (k : Int) (l : List UInt8) (K : Nat) (h1 : 1 ≤ K) (h2 : K ≤ 29) : (rdN k l K).k = k := by
  have hC : K = 1 ∨ K = 2 ∨ K = 3 ∨ K = 4 ∨ K = 5 ∨ K = 6 ∨ K = 7 ∨ K = 8 ∨ K = 9 ∨ K = 10 ∨ K = 11 ∨ K = 12 ∨ K = 13 ∨ K = 14 ∨ K = 15 ∨ K = 16 ∨ K = 17 ∨ K = 18 ∨ K = 19 ∨ K = 20 ∨ K = 21 ∨ K = 22 ∨ K = 23 ∨ K = 24 ∨ K = 25 ∨ K = 26 ∨ K = 27 ∨ K = 28 ∨ K = 29 := by omega
  rcases hC with rfl | rfl | rfl | rfl | rfl | rfl | rfl | rfl | rfl | rfl | rfl | rfl | rfl | rfl | rfl | rfl | rfl | rfl | rfl | rfl | rfl | rfl | rfl | rfl | rfl | rfl | rfl | rfl | rfl <;> rfl
theorem rd_k (k : Int) (l : List UInt8) : (rd k l).k = k := by
  by_cases h : 1 ≤ k ∧ k ≤ 29
  · obtain ⟨K, rfl⟩ : ∃ K : Nat, k = K := ⟨k.toNat, by omega⟩
    rw [rd_of K l K rfl (by omega) (by omega)]
    exact rdN_k K l K (by omega) (by omega)
  · rw [rd_no k l h]; rfl
theorem lrd_k (ch : Int) (b : ByteArray) : (lrd ch b).k = opnK ch b := rd_k _ _
theorem kFrom_spec (c f s : Int) : ∀ n k : Nat, kFrom c f s n k ≠ 0 → pEq (kFrom c f s n k) c f s = true
  | 0, k => fun h => absurd rfl h
  | n + 1, k => fun h => by
    unfold kFrom at h ⊢
    by_cases e : pEq k c f s = true
    · rw [if_pos e]; exact e
    · rw [if_neg e] at h ⊢
      exact kFrom_spec c f s n (k + 1) h
theorem kAt_spec {c f s : Int} (h : kAt c f s ≠ 0) : ((plcN (kAt c f s)).1 : Int) = c ∧ ((plcN (kAt c f s)).2.1 : Int) = f ∧ ((plcN (kAt c f s)).2.2 : Int) = s := by
  have := kFrom_spec c f s 29 1 h
  unfold pEq at this
  rw [Bool.and_eq_true, Bool.and_eq_true, beq_iff_eq, beq_iff_eq, beq_iff_eq] at this
  exact ⟨this.1.1, this.1.2, this.2⟩
theorem isK_iff {k : Int} : isK k = true ↔ 1 ≤ k ∧ k ≤ 29 := by
  unfold isK
  rw [Bool.and_eq_true, decide_eq_true_eq, decide_eq_true_eq]
theorem kAt_plc {c f s : Int} (h : isK (kAt c f s : Nat) = true) : ((plc (kAt c f s : Nat)).1 : Int) = c ∧ ((plc (kAt c f s : Nat)).2.1 : Int) = f ∧ ((plc (kAt c f s : Nat)).2.2 : Int) = s := by
  have := isK_iff.1 h
  rw [plc_nat _ (by omega)]
  exact kAt_spec (by omega)
/-- Where what was opened goes. -/
theorem open_place {ch : Int} {b : ByteArray} (h : isK (opnK ch b) = true) : ((plc (opnK ch b)).1 : Int) = ch ∧ (ch = 2 → Q.prsOk b = true ∧ opnK ch b = (kAt 2 (Q.prs b).f (Q.prs b).s : Nat) ∧ ((plc (opnK ch b)).2.1 : Int) = (Q.prs b).f ∧ ((plc (opnK ch b)).2.2 : Int) = (Q.prs b).s) := by
  unfold opnK at h ⊢
  by_cases c2 : ch = 2
  · rw [if_pos c2] at h ⊢
    by_cases ok : Q.prsOk b = true
    · rw [if_pos ok] at h ⊢
      have := kAt_plc h
      exact ⟨by rw [c2]; exact this.1, fun _ => ⟨ok, rfl, this.2⟩⟩
    · rw [if_neg ok] at h; cases h
  · rw [if_neg c2] at h ⊢
    refine ⟨?_, fun q => absurd q c2⟩
    by_cases k1 : kAt ch 0 0 = 1 ∧ 4 < b.size
    · rw [if_pos k1]
      have := (kAt_spec (c := ch) (f := 0) (s := 0) (by omega)).1
      rw [k1.1] at this
      exact this
    · rw [if_neg k1] at h ⊢
      exact (kAt_plc h).1
theorem prsOk_of {b : ByteArray} (h : Q.prsE b = 0) : Q.prsOk b = true := by
  unfold Q.prsE at h
  by_cases ok : Q.prsOk b = true
  · exact ok
  · rw [if_neg ok] at h; cases h
set_option maxRecDepth 100000 in
theorem kAt_two : ∀ K, K < 30 → (plcN K).1 = 2 → kAt 2 ((plcN K).2.1 : Nat) ((plcN K).2.2 : Nat) = K := by decide
theorem kAt_one : kAt 1 0 0 = 1 := by decide
theorem kAt_bye : kAt 4 0 0 = 3 := by decide
theorem kAt_alive : kAt 5 0 0 = 4 := by decide
theorem numL_len {x : Int} {K : Nat} (hw : wid (K : Int) = true) (h0 : 0 ≤ x) (h1 : x < ((256 ^ K : Nat) : Int)) : (numL' x K).length = K := by rw [num_dig hw h0 h1, dig_length]
theorem one_len : (numL' 1 4).length = 4 := numL_len (K := 4) wid4 (by decide) (by decide)
/-- What Put gives is opened as it was. -/
theorem open_put {n : Nt} {req : Int} (h : lputOk n req = true) : opnK (lputC n req) (lputB n req) = n.k ∧ opnB (lputC n req) (lputB n req) = mk (bodyL n) := by
  unfold lputC lputB
  rw [if_pos h, if_pos h]
  unfold lputOk at h
  rw [Bool.and_eq_true] at h
  obtain ⟨hm, hc⟩ := h
  obtain ⟨K, hK, h1, h2⟩ := k_lit (may_iff.1 hm).1
  have hp : plc n.k = plcN K := by rw [hK]; exact plc_nat K (by omega)
  rw [hp] at hc ⊢
  by_cases c2 : (plcN K).1 = 2
  · have c2' : ((plcN K).1 : Int) = 2 := by omega
    rw [if_pos c2]
    rw [decide_eq_true c2, Bool.not_true, Bool.false_or, decide_eq_true_eq] at hc
    obtain ⟨hf, hs⟩ := Q.chk_zero.1 hc
    obtain ⟨p1, p2⟩ := Q.prs_of hf hs
    have ok := prsOk_of p2
    unfold opnK opnB
    rw [if_pos c2', if_pos c2', if_pos ok, if_pos ok, p1]
    refine ⟨?_, rfl⟩
    show ((kAt 2 ((plcN K).2.1 : Nat) ((plcN K).2.2 : Nat) : Nat) : Int) = n.k
    rw [kAt_two K (by omega) c2, hK]
  · have c2' : ¬ ((plcN K).1 : Int) = 2 := by omega
    rw [if_neg c2]
    unfold opnK opnB
    rw [if_neg c2', if_neg c2']
    refine ⟨?_, rfl⟩
    have hC : K = 1 ∨ K = 2 ∨ K = 3 ∨ K = 4 ∨ K = 5 ∨ K = 6 ∨ K = 7 ∨ K = 8 ∨ K = 9 ∨ K = 10 ∨ K = 11 ∨ K = 12 ∨ K = 13 ∨ K = 14 ∨ K = 15 ∨ K = 16 ∨ K = 17 ∨ K = 18 ∨ K = 19 ∨ K = 20 ∨ K = 21 ∨ K = 22 ∨ K = 23 ∨ K = 24 ∨ K = 25 ∨ K = 26 ∨ K = 27 ∨ K = 28 ∨ K = 29 := by omega
    rcases hC with rfl | rfl | rfl | rfl | rfl | rfl | rfl | rfl | rfl | rfl | rfl | rfl | rfl | rfl | rfl | rfl | rfl | rfl | rfl | rfl | rfl | rfl | rfl | rfl | rfl | rfl | rfl | rfl | rfl
    · have hb : (mk (bodyL n)).size = 4 := by
        rw [mk_size, bodyL_of n 1 hK (by decide) (by decide)]; exact one_len
      rw [if_neg (fun q => absurd q.2 (by omega)), hK]
      exact congrArg (fun n : Nat => (n : Int)) kAt_one
    · have hb : 4 < (mk (bodyL n)).size := by
        have a := (may_iff.1 hm).2.1
        rw [hK] at a
        have hd : (1 : Int) ≤ n.d.size ∧ (n.d.size : Int) ≤ 256 := (hold_iff.1 a).2.2.1
        rw [mk_size, bodyL_of n 2 hK (by decide) (by decide)]
        show 4 < (numL' 1 4 ++ valL 6 n.d).length
        rw [val_eq (by decide) (by decide) (by omega), List.length_append, List.length_append, one_len, show (numL' 6 2).length = 2 from numL_len (K := 2) wid2 (by decide) (by decide)]
        omega
      rw [if_pos ⟨kAt_one, hb⟩, hK]; rfl
    · rw [if_neg (fun q => absurd (q.1.symm.trans kAt_bye) (by decide)), hK]
      exact congrArg (fun n : Nat => (n : Int)) kAt_bye
    · rw [if_neg (fun q => absurd (q.1.symm.trans kAt_alive) (by decide)), hK]
      exact congrArg (fun n : Nat => (n : Int)) kAt_alive
    · exact absurd rfl c2
    · exact absurd rfl c2
    · exact absurd rfl c2
    · exact absurd rfl c2
    · exact absurd rfl c2
    · exact absurd rfl c2
    · exact absurd rfl c2
    · exact absurd rfl c2
    · exact absurd rfl c2
    · exact absurd rfl c2
    · exact absurd rfl c2
    · exact absurd rfl c2
    · exact absurd rfl c2
    · exact absurd rfl c2
    · exact absurd rfl c2
    · exact absurd rfl c2
    · exact absurd rfl c2
    · exact absurd rfl c2
    · exact absurd rfl c2
    · exact absurd rfl c2
    · exact absurd rfl c2
    · exact absurd rfl c2
    · exact absurd rfl c2
    · exact absurd rfl c2
    · exact absurd rfl c2
theorem putOk_may {n : Nt} {req : Int} (h : lputOk n req = true) : may n = true := by
  unfold lputOk at h
  rw [Bool.and_eq_true] at h
  exact h.1
/-- What Put gives is read as it was. -/
theorem parse_put {n : Nt} {req : Int} (h : lputOk n req = true) : lprsOk (lputC n req) (lputB n req) = true ∧ lrd (lputC n req) (lputB n req) = n := by
  obtain ⟨e1, e2⟩ := open_put h
  have e : lrd (lputC n req) (lputB n req) = n := by
    unfold lrd
    rw [e1, e2, mk_list]
    exact rd_back (putOk_may h)
  refine ⟨?_, e⟩
  unfold lprsOk
  rw [e, e2, mk_list, putOk_may h, decide_eq_true rfl]
  rfl
/-- Unlike notes have unlike bytes. -/
theorem put_unlike {n m : Nt} {r q : Int} (hn : lputOk n r = true) (hm : lputOk m q = true) (hc : lputC n r = lputC m q) (hb : lputB n r = lputB m q) : n = m := by
  rw [← (parse_put hn).2, ← (parse_put hm).2, hc, hb]
/-- What was read may be, and is put the same again, but for its number. -/
theorem put_parse {ch : Int} {b : ByteArray} (h : lprsOk ch b = true) : may (lrd ch b) = true ∧ lputOk (lrd ch b) 0 = true ∧ lputC (lrd ch b) 0 = ch ∧ (lputB (lrd ch b) 0).size = b.size ∧ (ch ≠ 2 → lputB (lrd ch b) 0 = b) ∧ (ch = 2 → ∃ p q t : ByteArray, lputB (lrd ch b) 0 = p ++ t ∧ b = q ++ t ∧ p.size = 10 ∧ q.size = 10) := by
  unfold lprsOk at h
  rw [Bool.and_eq_true, decide_eq_true_eq] at h
  obtain ⟨hm, hb⟩ := h
  have hk := (may_iff.1 hm).1
  have ek := lrd_k ch b
  rw [ek] at hk
  obtain ⟨p1, p2⟩ := open_place hk
  rw [← ek] at p1 p2
  have hB : mk (bodyL (lrd ch b)) = opnB ch b := by rw [hb, mk_self]
  by_cases c2 : ch = 2
  · obtain ⟨ok, _, pf, ps⟩ := p2 c2
    obtain ⟨g1, g2⟩ := Q.put_prs ok
    have g3 := (Q.put_ok g1).1
    rw [g2] at g3
    obtain ⟨gf, gs⟩ := Q.chk_zero.1 g1
    have hO : opnB ch b = (Q.prs b).b := by unfold opnB; rw [if_pos c2, if_pos ok]
    have gg := Q.fit_iff.1 gf
    have f0 : Q.fit (Q.prs b).f (Q.prs b).s 0 0 = true := Q.fit_iff.2 ⟨gg.1, gg.2.1, by omega, by omega⟩
    have hchk : Q.chk (plc (lrd ch b).k).2.1 (plc (lrd ch b).k).2.2 0 0 (mk (bodyL (lrd ch b))) = 0 := by
      rw [hB, hO, pf, ps]; exact Q.chk_zero.2 ⟨f0, gs⟩
    have c2n : (plc (lrd ch b).k).1 = 2 := by omega
    have hok : lputOk (lrd ch b) 0 = true := by
      unfold lputOk
      rw [hm, decide_eq_true hchk, Bool.or_true]; rfl
    have eB : lputB (lrd ch b) 0 = Q.hdS (Q.prs b).f (Q.prs b).s 0 0 ++ (Q.prs b).b := by
      unfold lputB
      rw [if_pos hok, if_pos c2n, hB, hO, pf, ps]
    have s1 := Q.hdS_size f0
    have s2 := Q.hdS_size gf
    refine ⟨hm, hok, by unfold lputC; rw [if_pos hok]; exact p1, ?_, fun q => absurd c2 q, fun _ => ⟨_, _, _, eB, g3, s1, s2⟩⟩
    rw [eB, ByteArray.size_append, s1]
    have := congrArg ByteArray.size g3
    rw [ByteArray.size_append, s2] at this
    omega
  · have c2n : ¬ (plc (lrd ch b).k).1 = 2 := by omega
    have hok : lputOk (lrd ch b) 0 = true := by
      unfold lputOk
      rw [hm, decide_eq_false c2n]; rfl
    have hO : opnB ch b = b := by unfold opnB; rw [if_neg c2]
    have eB : lputB (lrd ch b) 0 = b := by
      unfold lputB
      rw [if_pos hok, if_neg c2n, hB, hO]
    exact ⟨hm, hok, by unfold lputC; rw [if_pos hok]; exact p1, by rw [eB], fun _ => eB, fun q => absurd q c2⟩
theorem eight {n : Nt} (h : may n = true) (hk : n.k = 8) : n = ⟨8, n.n, ⟨#[]⟩, n.d, n.c, 0, 0, 0, false, [], []⟩ ∧ ((n.d.size = 0 ∧ n.c ≠ 0) ∨ (n.d.size ≠ 0 ∧ n.c = 0)) := by
  obtain ⟨k, a, x, d, c, s, e, t, o, l, z⟩ := n
  obtain rfl : k = 8 := hk
  have h2 := letB_two ((may_iff.1 h).2.2 rfl)
  have q := may_k h 8 rfl (by decide) (by decide)
  rw [hold_iff] at q
  obtain ⟨ha, hx, hd, hc, hs, he, ht, ho, hl, hli, hz, hzi⟩ := q
  obtain rfl : x = ⟨#[]⟩ := size0 (txB_size hx)
  obtain rfl : s = 0 := int0 hs
  obtain rfl : e = 0 := int0 he
  obtain rfl : t = 0 := int0 ht
  obtain rfl : o = false := bool0 ho
  obtain rfl : l = [] := len0 hl.2
  obtain rfl : z = [] := len0 hz.2
  exact ⟨rfl, h2⟩
/-- Nothing goes on after a note. -/
theorem body_pre {n x : Nt} (hn : may n = true) (hx : may x = true) (hk : x.k = n.k) (h3 : n.k ≠ 3) (h20 : n.k ≠ 20) (h21 : n.k ≠ 21) (h22 : n.k ≠ 22) (h25 : n.k ≠ 25) {r : List UInt8} (e : bodyL n = bodyL x ++ r) : r = [] := by
  have key : x = n → r = [] := fun q => by
    subst q
    have := congrArg List.length e
    rw [List.length_append] at this
    exact List.length_eq_zero_iff.1 (by omega)
  have rn := rd_back hn
  rw [e] at rn
  by_cases h8 : n.k = 8
  · have hk8 : x.k = 8 := hk.trans h8
    obtain ⟨en, dn⟩ := eight hn h8
    obtain ⟨ex, dx⟩ := eight hx hk8
    rw [h8] at rn
    apply key
    by_cases hz : x.d.size = 0
    · have ex' := ex
      rw [ex] at hx
      have := rdb_8c hx hz r
      rw [← ex'] at this
      rw [← this, rn]
    · have ex' := ex
      rw [ex] at hx
      have := rdb_8d hx hz r
      rw [← ex'] at this
      obtain ⟨t1, t2, _⟩ := this
      rw [rn] at t1 t2
      have c1 : x.c = 0 := by omega
      have c2 : n.c = 0 := by rw [t2] at dn; omega
      rw [ex, en, t1, t2, c1, c2]
  · exact key ((rd_pre hx (by rw [hk]; exact h3) (by rw [hk]; exact h8) (by rw [hk]; exact h20) (by rw [hk]; exact h21) (by rw [hk]; exact h22) (by rw [hk]; exact h25) r).symm.trans (by rw [hk]; exact rn))
/-- What is cut off is none. -/
theorem cut_none {n : Nt} {req : Int} (h : lputOk n req = true) (hc : lputC n req = 2) (h20 : n.k ≠ 20) (h21 : n.k ≠ 21) (h22 : n.k ≠ 22) (h25 : n.k ≠ 25) {b u : ByteArray} (e : lputB n req = b ++ u) (hu : u.size ≠ 0) : lprsOk 2 b = false := by
  rw [Bool.eq_false_iff]
  intro hp
  have hn := putOk_may h
  unfold lprsOk at hp
  rw [Bool.and_eq_true, decide_eq_true_eq] at hp
  obtain ⟨hm, hb⟩ := hp
  have hk := (may_iff.1 hm).1
  have ek := lrd_k 2 b
  rw [ek] at hk
  obtain ⟨p1, p2⟩ := open_place hk
  obtain ⟨ok, pk, pf, ps⟩ := p2 rfl
  obtain ⟨g1, g2⟩ := Q.put_prs ok
  have g3 := (Q.put_ok g1).1
  rw [g2] at g3
  obtain ⟨gf, gs⟩ := Q.chk_zero.1 g1
  have c2 : (plc n.k).1 = 2 := by
    unfold lputC at hc
    rw [if_pos h] at hc
    omega
  have eB : lputB n req = Q.hdS (plc n.k).2.1 (plc n.k).2.2 0 req ++ mk (bodyL n) := by
    unfold lputB
    rw [if_pos h, if_pos c2]
  have hchk : Q.chk (plc n.k).2.1 (plc n.k).2.2 0 req (mk (bodyL n)) = 0 := by
    unfold lputOk at h
    rw [hn, decide_eq_true c2, Bool.true_and, Bool.not_true, Bool.false_or, decide_eq_true_eq] at h
    exact h
  obtain ⟨nf, ns⟩ := Q.chk_zero.1 hchk
  have n1 := (Q.prs_of nf ns).1
  have sz := congrArg ByteArray.size (eB.symm.trans e)
  have szb := congrArg ByteArray.size g3
  rw [ByteArray.size_append, Q.hdS_size nf, ByteArray.size_append] at sz
  rw [ByteArray.size_append, Q.hdS_size gf] at szb
  have n2 := (Q.prs_of (b := (Q.prs b).b ++ u) gf (by rw [ByteArray.size_append]; omega)).1
  rw [← ByteArray.append_assoc, ← g3, ← e, eB, n1] at n2
  injection n2 with i1 i2 i3 i4 i5
  have kk : (lrd 2 b).k = n.k := by
    have := (open_put h).1
    rw [hc] at this
    rw [ek, pk, ← this]
    unfold opnK
    have okn : Q.prsOk (lputB n req) = true := by rw [eB]; exact prsOk_of (Q.prs_of nf ns).2
    rw [if_pos rfl, if_pos okn, eB, n1, ← i1, ← i2]
  have hO : opnB 2 b = (Q.prs b).b := by unfold opnB; rw [if_pos rfl, if_pos ok]
  rw [hO] at hb
  have eL : bodyL n = bodyL (lrd 2 b) ++ u.data.toList := by
    have := congrArg (fun s : ByteArray => s.data.toList) i5
    simp only [mk_list] at this
    rw [this, hb]
    simp
  have h3 : n.k ≠ 3 := fun q => by rw [q] at c2; exact absurd c2 (by decide)
  have := body_pre hn hm kk h3 h20 h21 h22 h25 eL
  apply hu
  rw [← By.len_size, this]; rfl
end Go.Proofs.YtclkehfnakhljaaDoor.T
