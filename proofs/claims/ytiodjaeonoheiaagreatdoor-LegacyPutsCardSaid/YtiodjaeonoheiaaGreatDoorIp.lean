/- Whether a note may be, kind by kind, as the document asks it: plain mathematics. No condition. -/
import Derived.Test.YtiodjaeonoheiaaGreatDoorZv
import Derived.Test.YtiodjaeonoheiaaGreatDoorZu
set_option maxRecDepth 100000
namespace Go.Proofs.YtiodjaeonoheiaaGreatDoor.T
open Go Go.Lib By
theorem eqv_true {α : Type} {x y : α} (h : eqv x y = true) : x = y := by
  unfold eqv at h
  exact (@decide_eq_true_iff _ (Classical.propDecidable _)).1 h
theorem bnd_k {n : Nt} {K : Nat} (hk : n.k = K) (h1 : 1 ≤ K) (h2 : K ≤ 29) : bnd n.k = bndN K := by
  unfold bnd
  rw [if_pos (isK_iff.2 (by omega)), hk, Int.toNat_natCast]
theorem letB_iff {n : Nt} : letB n = true ↔ (n.d.size = 0 ∧ n.c ≠ 0) ∨ (n.d.size ≠ 0 ∧ n.c = 0) := by
  unfold letB
  by_cases h1 : n.d.size = 0 <;> by_cases h2 : n.c = 0 <;> simp [h1, h2]
theorem may_1 {n : Nt} (hk : n.k = 1) : may n = (eqv (⟨0, n.n, n.x, n.d, n.c, n.s, n.e, n.t, n.o, n.l, n.z⟩ : Nt) zN) := by
  rw [Bool.eq_iff_iff]
  constructor
  · intro h
    have q := hold_iff.1 (may_k h 1 hk (by decide) (by decide))
    obtain ⟨ha, hx, hd, hc, hs, he, ht, ho, hl, hli, hz, hzi⟩ := q
    have en : n.n = ⟨#[]⟩ := nmB_no ha
    have ex : n.x = ⟨#[]⟩ := size0 (txB_size hx)
    have ed : n.d = ⟨#[]⟩ := size0 hd.2
    have ec : n.c = 0 := int0 hc
    have es : n.s = 0 := int0 hs
    have ee : n.e = 0 := int0 he
    have et : n.t = 0 := int0 ht
    have eo : n.o = false := bool0 ho
    have el : n.l = [] := len0 hl.2
    have ez : n.z = [] := len0 hz.2
    exact eqv_yes (by show (⟨0, n.n, n.x, n.d, n.c, n.s, n.e, n.t, n.o, n.l, n.z⟩ : Nt) = (⟨0, ⟨#[]⟩, ⟨#[]⟩, ⟨#[]⟩, 0, 0, 0, 0, false, [], []⟩ : Nt); rw [en, ex, ed, ec, es, ee, et, eo, el, ez])
  · intro h
    have te := h
    have e := eqv_true te
    have en : n.n = ⟨#[]⟩ := congrArg Nt.n e
    have ex : n.x = ⟨#[]⟩ := congrArg Nt.x e
    have ed : n.d = ⟨#[]⟩ := congrArg Nt.d e
    have ec : n.c = 0 := congrArg Nt.c e
    have es : n.s = 0 := congrArg Nt.s e
    have ee : n.e = 0 := congrArg Nt.e e
    have et : n.t = 0 := congrArg Nt.t e
    have eo : n.o = false := congrArg Nt.o e
    have el : n.l = [] := congrArg Nt.l e
    have ez : n.z = [] := congrArg Nt.z e
    refine may_iff.2 ⟨isK_iff.2 (by omega), ?_, fun q => absurd (hk.symm.trans q) (by decide)⟩
    rw [bnd_k (K := 1) hk (by decide) (by decide)]
    exact hold_iff.2 ⟨(by rw [en]; decide), (by rw [ex]; exact txB_nil), (by rw [ed]; decide), (by rw [ec]; decide), (by rw [es]; decide), (by rw [ee]; decide), (by rw [et]; decide), (.inr eo), (by rw [el]; decide), (by rw [el]; rfl), (by rw [ez]; decide), (by rw [ez]; rfl)⟩
theorem may_2 {n : Nt} (hk : n.k = 2) : may n = (inB n.d.size 1 256 && eqv (⟨0, n.n, n.x, ⟨#[]⟩, n.c, n.s, n.e, n.t, n.o, n.l, n.z⟩ : Nt) zN) := by
  rw [Bool.eq_iff_iff]
  constructor
  · intro h
    have q := hold_iff.1 (may_k h 2 hk (by decide) (by decide))
    obtain ⟨ha, hx, hd, hc, hs, he, ht, ho, hl, hli, hz, hzi⟩ := q
    have en : n.n = ⟨#[]⟩ := nmB_no ha
    have ex : n.x = ⟨#[]⟩ := size0 (txB_size hx)
    have ec : n.c = 0 := int0 hc
    have es : n.s = 0 := int0 hs
    have ee : n.e = 0 := int0 he
    have et : n.t = 0 := int0 ht
    have eo : n.o = false := bool0 ho
    have el : n.l = [] := len0 hl.2
    have ez : n.z = [] := len0 hz.2
    simp only [Bool.and_eq_true]
    exact ⟨inB_iff.2 hd, eqv_yes (by show (⟨0, n.n, n.x, ⟨#[]⟩, n.c, n.s, n.e, n.t, n.o, n.l, n.z⟩ : Nt) = (⟨0, ⟨#[]⟩, ⟨#[]⟩, ⟨#[]⟩, 0, 0, 0, 0, false, [], []⟩ : Nt); rw [en, ex, ec, es, ee, et, eo, el, ez])⟩
  · intro h
    simp only [Bool.and_eq_true] at h
    obtain ⟨t0, te⟩ := h
    have e := eqv_true te
    have en : n.n = ⟨#[]⟩ := congrArg Nt.n e
    have ex : n.x = ⟨#[]⟩ := congrArg Nt.x e
    have ec : n.c = 0 := congrArg Nt.c e
    have es : n.s = 0 := congrArg Nt.s e
    have ee : n.e = 0 := congrArg Nt.e e
    have et : n.t = 0 := congrArg Nt.t e
    have eo : n.o = false := congrArg Nt.o e
    have el : n.l = [] := congrArg Nt.l e
    have ez : n.z = [] := congrArg Nt.z e
    refine may_iff.2 ⟨isK_iff.2 (by omega), ?_, fun q => absurd (hk.symm.trans q) (by decide)⟩
    rw [bnd_k (K := 2) hk (by decide) (by decide)]
    exact hold_iff.2 ⟨(by rw [en]; decide), (by rw [ex]; exact txB_nil), (inB_iff.1 t0), (by rw [ec]; decide), (by rw [es]; decide), (by rw [ee]; decide), (by rw [et]; decide), (.inr eo), (by rw [el]; decide), (by rw [el]; rfl), (by rw [ez]; decide), (by rw [ez]; rfl)⟩
theorem may_3 {n : Nt} (hk : n.k = 3) : may n = (inB n.c 0 65535 && eqv (⟨0, n.n, n.x, n.d, 0, n.s, n.e, n.t, n.o, n.l, n.z⟩ : Nt) zN) := by
  rw [Bool.eq_iff_iff]
  constructor
  · intro h
    have q := hold_iff.1 (may_k h 3 hk (by decide) (by decide))
    obtain ⟨ha, hx, hd, hc, hs, he, ht, ho, hl, hli, hz, hzi⟩ := q
    have en : n.n = ⟨#[]⟩ := nmB_no ha
    have ex : n.x = ⟨#[]⟩ := size0 (txB_size hx)
    have ed : n.d = ⟨#[]⟩ := size0 hd.2
    have es : n.s = 0 := int0 hs
    have ee : n.e = 0 := int0 he
    have et : n.t = 0 := int0 ht
    have eo : n.o = false := bool0 ho
    have el : n.l = [] := len0 hl.2
    have ez : n.z = [] := len0 hz.2
    simp only [Bool.and_eq_true]
    exact ⟨inB_iff.2 hc, eqv_yes (by show (⟨0, n.n, n.x, n.d, 0, n.s, n.e, n.t, n.o, n.l, n.z⟩ : Nt) = (⟨0, ⟨#[]⟩, ⟨#[]⟩, ⟨#[]⟩, 0, 0, 0, 0, false, [], []⟩ : Nt); rw [en, ex, ed, es, ee, et, eo, el, ez])⟩
  · intro h
    simp only [Bool.and_eq_true] at h
    obtain ⟨t0, te⟩ := h
    have e := eqv_true te
    have en : n.n = ⟨#[]⟩ := congrArg Nt.n e
    have ex : n.x = ⟨#[]⟩ := congrArg Nt.x e
    have ed : n.d = ⟨#[]⟩ := congrArg Nt.d e
    have es : n.s = 0 := congrArg Nt.s e
    have ee : n.e = 0 := congrArg Nt.e e
    have et : n.t = 0 := congrArg Nt.t e
    have eo : n.o = false := congrArg Nt.o e
    have el : n.l = [] := congrArg Nt.l e
    have ez : n.z = [] := congrArg Nt.z e
    refine may_iff.2 ⟨isK_iff.2 (by omega), ?_, fun q => absurd (hk.symm.trans q) (by decide)⟩
    rw [bnd_k (K := 3) hk (by decide) (by decide)]
    exact hold_iff.2 ⟨(by rw [en]; decide), (by rw [ex]; exact txB_nil), (by rw [ed]; decide), (inB_iff.1 t0), (by rw [es]; decide), (by rw [ee]; decide), (by rw [et]; decide), (.inr eo), (by rw [el]; decide), (by rw [el]; rfl), (by rw [ez]; decide), (by rw [ez]; rfl)⟩
theorem may_4 {n : Nt} (hk : n.k = 4) : may n = (eqv (⟨0, n.n, n.x, n.d, n.c, n.s, n.e, n.t, n.o, n.l, n.z⟩ : Nt) zN) := by
  rw [Bool.eq_iff_iff]
  constructor
  · intro h
    have q := hold_iff.1 (may_k h 4 hk (by decide) (by decide))
    obtain ⟨ha, hx, hd, hc, hs, he, ht, ho, hl, hli, hz, hzi⟩ := q
    have en : n.n = ⟨#[]⟩ := nmB_no ha
    have ex : n.x = ⟨#[]⟩ := size0 (txB_size hx)
    have ed : n.d = ⟨#[]⟩ := size0 hd.2
    have ec : n.c = 0 := int0 hc
    have es : n.s = 0 := int0 hs
    have ee : n.e = 0 := int0 he
    have et : n.t = 0 := int0 ht
    have eo : n.o = false := bool0 ho
    have el : n.l = [] := len0 hl.2
    have ez : n.z = [] := len0 hz.2
    exact eqv_yes (by show (⟨0, n.n, n.x, n.d, n.c, n.s, n.e, n.t, n.o, n.l, n.z⟩ : Nt) = (⟨0, ⟨#[]⟩, ⟨#[]⟩, ⟨#[]⟩, 0, 0, 0, 0, false, [], []⟩ : Nt); rw [en, ex, ed, ec, es, ee, et, eo, el, ez])
  · intro h
    have te := h
    have e := eqv_true te
    have en : n.n = ⟨#[]⟩ := congrArg Nt.n e
    have ex : n.x = ⟨#[]⟩ := congrArg Nt.x e
    have ed : n.d = ⟨#[]⟩ := congrArg Nt.d e
    have ec : n.c = 0 := congrArg Nt.c e
    have es : n.s = 0 := congrArg Nt.s e
    have ee : n.e = 0 := congrArg Nt.e e
    have et : n.t = 0 := congrArg Nt.t e
    have eo : n.o = false := congrArg Nt.o e
    have el : n.l = [] := congrArg Nt.l e
    have ez : n.z = [] := congrArg Nt.z e
    refine may_iff.2 ⟨isK_iff.2 (by omega), ?_, fun q => absurd (hk.symm.trans q) (by decide)⟩
    rw [bnd_k (K := 4) hk (by decide) (by decide)]
    exact hold_iff.2 ⟨(by rw [en]; decide), (by rw [ex]; exact txB_nil), (by rw [ed]; decide), (by rw [ec]; decide), (by rw [es]; decide), (by rw [ee]; decide), (by rw [et]; decide), (.inr eo), (by rw [el]; decide), (by rw [el]; rfl), (by rw [ez]; decide), (by rw [ez]; rfl)⟩
theorem may_5 {n : Nt} (hk : n.k = 5) : may n = (nmB n.n true && eqv (⟨0, ⟨#[]⟩, n.x, n.d, n.c, n.s, n.e, n.t, n.o, n.l, n.z⟩ : Nt) zN) := by
  rw [Bool.eq_iff_iff]
  constructor
  · intro h
    have q := hold_iff.1 (may_k h 5 hk (by decide) (by decide))
    obtain ⟨ha, hx, hd, hc, hs, he, ht, ho, hl, hli, hz, hzi⟩ := q
    have ex : n.x = ⟨#[]⟩ := size0 (txB_size hx)
    have ed : n.d = ⟨#[]⟩ := size0 hd.2
    have ec : n.c = 0 := int0 hc
    have es : n.s = 0 := int0 hs
    have ee : n.e = 0 := int0 he
    have et : n.t = 0 := int0 ht
    have eo : n.o = false := bool0 ho
    have el : n.l = [] := len0 hl.2
    have ez : n.z = [] := len0 hz.2
    simp only [Bool.and_eq_true]
    exact ⟨ha, eqv_yes (by show (⟨0, ⟨#[]⟩, n.x, n.d, n.c, n.s, n.e, n.t, n.o, n.l, n.z⟩ : Nt) = (⟨0, ⟨#[]⟩, ⟨#[]⟩, ⟨#[]⟩, 0, 0, 0, 0, false, [], []⟩ : Nt); rw [ex, ed, ec, es, ee, et, eo, el, ez])⟩
  · intro h
    simp only [Bool.and_eq_true] at h
    obtain ⟨t0, te⟩ := h
    have e := eqv_true te
    have ex : n.x = ⟨#[]⟩ := congrArg Nt.x e
    have ed : n.d = ⟨#[]⟩ := congrArg Nt.d e
    have ec : n.c = 0 := congrArg Nt.c e
    have es : n.s = 0 := congrArg Nt.s e
    have ee : n.e = 0 := congrArg Nt.e e
    have et : n.t = 0 := congrArg Nt.t e
    have eo : n.o = false := congrArg Nt.o e
    have el : n.l = [] := congrArg Nt.l e
    have ez : n.z = [] := congrArg Nt.z e
    refine may_iff.2 ⟨isK_iff.2 (by omega), ?_, fun q => absurd (hk.symm.trans q) (by decide)⟩
    rw [bnd_k (K := 5) hk (by decide) (by decide)]
    exact hold_iff.2 ⟨t0, (by rw [ex]; exact txB_nil), (by rw [ed]; decide), (by rw [ec]; decide), (by rw [es]; decide), (by rw [ee]; decide), (by rw [et]; decide), (.inr eo), (by rw [el]; decide), (by rw [el]; rfl), (by rw [ez]; decide), (by rw [ez]; rfl)⟩
theorem may_6 {n : Nt} (hk : n.k = 6) : may n = (inB n.d.size 1 64 && eqv (⟨0, n.n, n.x, ⟨#[]⟩, n.c, n.s, n.e, n.t, n.o, n.l, n.z⟩ : Nt) zN) := by
  rw [Bool.eq_iff_iff]
  constructor
  · intro h
    have q := hold_iff.1 (may_k h 6 hk (by decide) (by decide))
    obtain ⟨ha, hx, hd, hc, hs, he, ht, ho, hl, hli, hz, hzi⟩ := q
    have en : n.n = ⟨#[]⟩ := nmB_no ha
    have ex : n.x = ⟨#[]⟩ := size0 (txB_size hx)
    have ec : n.c = 0 := int0 hc
    have es : n.s = 0 := int0 hs
    have ee : n.e = 0 := int0 he
    have et : n.t = 0 := int0 ht
    have eo : n.o = false := bool0 ho
    have el : n.l = [] := len0 hl.2
    have ez : n.z = [] := len0 hz.2
    simp only [Bool.and_eq_true]
    exact ⟨inB_iff.2 hd, eqv_yes (by show (⟨0, n.n, n.x, ⟨#[]⟩, n.c, n.s, n.e, n.t, n.o, n.l, n.z⟩ : Nt) = (⟨0, ⟨#[]⟩, ⟨#[]⟩, ⟨#[]⟩, 0, 0, 0, 0, false, [], []⟩ : Nt); rw [en, ex, ec, es, ee, et, eo, el, ez])⟩
  · intro h
    simp only [Bool.and_eq_true] at h
    obtain ⟨t0, te⟩ := h
    have e := eqv_true te
    have en : n.n = ⟨#[]⟩ := congrArg Nt.n e
    have ex : n.x = ⟨#[]⟩ := congrArg Nt.x e
    have ec : n.c = 0 := congrArg Nt.c e
    have es : n.s = 0 := congrArg Nt.s e
    have ee : n.e = 0 := congrArg Nt.e e
    have et : n.t = 0 := congrArg Nt.t e
    have eo : n.o = false := congrArg Nt.o e
    have el : n.l = [] := congrArg Nt.l e
    have ez : n.z = [] := congrArg Nt.z e
    refine may_iff.2 ⟨isK_iff.2 (by omega), ?_, fun q => absurd (hk.symm.trans q) (by decide)⟩
    rw [bnd_k (K := 6) hk (by decide) (by decide)]
    exact hold_iff.2 ⟨(by rw [en]; decide), (by rw [ex]; exact txB_nil), (inB_iff.1 t0), (by rw [ec]; decide), (by rw [es]; decide), (by rw [ee]; decide), (by rw [et]; decide), (.inr eo), (by rw [el]; decide), (by rw [el]; rfl), (by rw [ez]; decide), (by rw [ez]; rfl)⟩
theorem may_7 {n : Nt} (hk : n.k = 7) : may n = (nmB n.n true && ((n.d.size : Int) == 16) && eqv (⟨0, ⟨#[]⟩, n.x, ⟨#[]⟩, n.c, n.s, n.e, n.t, n.o, n.l, n.z⟩ : Nt) zN) := by
  rw [Bool.eq_iff_iff]
  constructor
  · intro h
    have q := hold_iff.1 (may_k h 7 hk (by decide) (by decide))
    obtain ⟨ha, hx, hd, hc, hs, he, ht, ho, hl, hli, hz, hzi⟩ := q
    have ex : n.x = ⟨#[]⟩ := size0 (txB_size hx)
    have ec : n.c = 0 := int0 hc
    have es : n.s = 0 := int0 hs
    have ee : n.e = 0 := int0 he
    have et : n.t = 0 := int0 ht
    have eo : n.o = false := bool0 ho
    have el : n.l = [] := len0 hl.2
    have ez : n.z = [] := len0 hz.2
    have hd' : (16 : Int) ≤ n.d.size ∧ (n.d.size : Int) ≤ 16 := hd
    simp only [Bool.and_eq_true]
    exact ⟨⟨ha, beq_iff_eq.2 (by omega)⟩, eqv_yes (by show (⟨0, ⟨#[]⟩, n.x, ⟨#[]⟩, n.c, n.s, n.e, n.t, n.o, n.l, n.z⟩ : Nt) = (⟨0, ⟨#[]⟩, ⟨#[]⟩, ⟨#[]⟩, 0, 0, 0, 0, false, [], []⟩ : Nt); rw [ex, ec, es, ee, et, eo, el, ez])⟩
  · intro h
    simp only [Bool.and_eq_true] at h
    obtain ⟨⟨t0, t1⟩, te⟩ := h
    have e := eqv_true te
    have ex : n.x = ⟨#[]⟩ := congrArg Nt.x e
    have ec : n.c = 0 := congrArg Nt.c e
    have es : n.s = 0 := congrArg Nt.s e
    have ee : n.e = 0 := congrArg Nt.e e
    have et : n.t = 0 := congrArg Nt.t e
    have eo : n.o = false := congrArg Nt.o e
    have el : n.l = [] := congrArg Nt.l e
    have ez : n.z = [] := congrArg Nt.z e
    refine may_iff.2 ⟨isK_iff.2 (by omega), ?_, fun q => absurd (hk.symm.trans q) (by decide)⟩
    rw [bnd_k (K := 7) hk (by decide) (by decide)]
    exact hold_iff.2 ⟨t0, (by rw [ex]; exact txB_nil), (by have := beq_iff_eq.1 t1; show (16 : Int) ≤ n.d.size ∧ (n.d.size : Int) ≤ 16; omega), (by rw [ec]; decide), (by rw [es]; decide), (by rw [ee]; decide), (by rw [et]; decide), (.inr eo), (by rw [el]; decide), (by rw [el]; rfl), (by rw [ez]; decide), (by rw [ez]; rfl)⟩
theorem may_8 {n : Nt} (hk : n.k = 8) : may n = (nmB n.n true && ((inB n.d.size 1 256 && (n.c == 0)) || (decide (n.d.size = 0) && inB n.c 1 65535)) && eqv (⟨0, ⟨#[]⟩, n.x, ⟨#[]⟩, 0, n.s, n.e, n.t, n.o, n.l, n.z⟩ : Nt) zN) := by
  rw [Bool.eq_iff_iff]
  constructor
  · intro h
    have q := hold_iff.1 (may_k h 8 hk (by decide) (by decide))
    obtain ⟨ha, hx, hd, hc, hs, he, ht, ho, hl, hli, hz, hzi⟩ := q
    have h8 := letB_iff.1 ((may_iff.1 h).2.2 hk)
    have hd8 : (0 : Int) ≤ n.d.size ∧ (n.d.size : Int) ≤ 256 := hd
    have hc8 : 0 ≤ n.c ∧ n.c ≤ 65535 := hc
    have ex : n.x = ⟨#[]⟩ := size0 (txB_size hx)
    have es : n.s = 0 := int0 hs
    have ee : n.e = 0 := int0 he
    have et : n.t = 0 := int0 ht
    have eo : n.o = false := bool0 ho
    have el : n.l = [] := len0 hl.2
    have ez : n.z = [] := len0 hz.2
    rw [Bool.and_eq_true, Bool.and_eq_true, Bool.or_eq_true, Bool.and_eq_true, Bool.and_eq_true, inB_iff, inB_iff, beq_iff_eq, decide_eq_true_eq]
    exact ⟨⟨ha, by omega⟩, eqv_yes (by show (⟨0, ⟨#[]⟩, n.x, ⟨#[]⟩, 0, n.s, n.e, n.t, n.o, n.l, n.z⟩ : Nt) = (⟨0, ⟨#[]⟩, ⟨#[]⟩, ⟨#[]⟩, 0, 0, 0, 0, false, [], []⟩ : Nt); rw [ex, es, ee, et, eo, el, ez])⟩
  · intro h
    rw [Bool.and_eq_true, Bool.and_eq_true, Bool.or_eq_true, Bool.and_eq_true, Bool.and_eq_true, inB_iff, inB_iff, beq_iff_eq, decide_eq_true_eq] at h
    obtain ⟨⟨t0, t1⟩, te⟩ := h
    have e := eqv_true te
    have ex : n.x = ⟨#[]⟩ := congrArg Nt.x e
    have es : n.s = 0 := congrArg Nt.s e
    have ee : n.e = 0 := congrArg Nt.e e
    have et : n.t = 0 := congrArg Nt.t e
    have eo : n.o = false := congrArg Nt.o e
    have el : n.l = [] := congrArg Nt.l e
    have ez : n.z = [] := congrArg Nt.z e
    refine may_iff.2 ⟨isK_iff.2 (by omega), ?_, fun _ => letB_iff.2 (by omega)⟩
    rw [bnd_k (K := 8) hk (by decide) (by decide)]
    exact hold_iff.2 ⟨t0, (by rw [ex]; exact txB_nil), (by show (0 : Int) ≤ n.d.size ∧ (n.d.size : Int) ≤ 256; omega), (by show 0 ≤ n.c ∧ n.c ≤ 65535; omega), (by rw [es]; decide), (by rw [ee]; decide), (by rw [et]; decide), (.inr eo), (by rw [el]; decide), (by rw [el]; rfl), (by rw [ez]; decide), (by rw [ez]; rfl)⟩
theorem may_9 {n : Nt} (hk : n.k = 9) : may n = (eqv (⟨0, n.n, n.x, n.d, n.c, n.s, n.e, n.t, n.o, n.l, n.z⟩ : Nt) zN) := by
  rw [Bool.eq_iff_iff]
  constructor
  · intro h
    have q := hold_iff.1 (may_k h 9 hk (by decide) (by decide))
    obtain ⟨ha, hx, hd, hc, hs, he, ht, ho, hl, hli, hz, hzi⟩ := q
    have en : n.n = ⟨#[]⟩ := nmB_no ha
    have ex : n.x = ⟨#[]⟩ := size0 (txB_size hx)
    have ed : n.d = ⟨#[]⟩ := size0 hd.2
    have ec : n.c = 0 := int0 hc
    have es : n.s = 0 := int0 hs
    have ee : n.e = 0 := int0 he
    have et : n.t = 0 := int0 ht
    have eo : n.o = false := bool0 ho
    have el : n.l = [] := len0 hl.2
    have ez : n.z = [] := len0 hz.2
    exact eqv_yes (by show (⟨0, n.n, n.x, n.d, n.c, n.s, n.e, n.t, n.o, n.l, n.z⟩ : Nt) = (⟨0, ⟨#[]⟩, ⟨#[]⟩, ⟨#[]⟩, 0, 0, 0, 0, false, [], []⟩ : Nt); rw [en, ex, ed, ec, es, ee, et, eo, el, ez])
  · intro h
    have te := h
    have e := eqv_true te
    have en : n.n = ⟨#[]⟩ := congrArg Nt.n e
    have ex : n.x = ⟨#[]⟩ := congrArg Nt.x e
    have ed : n.d = ⟨#[]⟩ := congrArg Nt.d e
    have ec : n.c = 0 := congrArg Nt.c e
    have es : n.s = 0 := congrArg Nt.s e
    have ee : n.e = 0 := congrArg Nt.e e
    have et : n.t = 0 := congrArg Nt.t e
    have eo : n.o = false := congrArg Nt.o e
    have el : n.l = [] := congrArg Nt.l e
    have ez : n.z = [] := congrArg Nt.z e
    refine may_iff.2 ⟨isK_iff.2 (by omega), ?_, fun q => absurd (hk.symm.trans q) (by decide)⟩
    rw [bnd_k (K := 9) hk (by decide) (by decide)]
    exact hold_iff.2 ⟨(by rw [en]; decide), (by rw [ex]; exact txB_nil), (by rw [ed]; decide), (by rw [ec]; decide), (by rw [es]; decide), (by rw [ee]; decide), (by rw [et]; decide), (.inr eo), (by rw [el]; decide), (by rw [el]; rfl), (by rw [ez]; decide), (by rw [ez]; rfl)⟩
theorem may_10 {n : Nt} (hk : n.k = 10) : may n = (eqv (⟨0, n.n, n.x, n.d, n.c, n.s, n.e, n.t, n.o, n.l, n.z⟩ : Nt) zN) := by
  rw [Bool.eq_iff_iff]
  constructor
  · intro h
    have q := hold_iff.1 (may_k h 10 hk (by decide) (by decide))
    obtain ⟨ha, hx, hd, hc, hs, he, ht, ho, hl, hli, hz, hzi⟩ := q
    have en : n.n = ⟨#[]⟩ := nmB_no ha
    have ex : n.x = ⟨#[]⟩ := size0 (txB_size hx)
    have ed : n.d = ⟨#[]⟩ := size0 hd.2
    have ec : n.c = 0 := int0 hc
    have es : n.s = 0 := int0 hs
    have ee : n.e = 0 := int0 he
    have et : n.t = 0 := int0 ht
    have eo : n.o = false := bool0 ho
    have el : n.l = [] := len0 hl.2
    have ez : n.z = [] := len0 hz.2
    exact eqv_yes (by show (⟨0, n.n, n.x, n.d, n.c, n.s, n.e, n.t, n.o, n.l, n.z⟩ : Nt) = (⟨0, ⟨#[]⟩, ⟨#[]⟩, ⟨#[]⟩, 0, 0, 0, 0, false, [], []⟩ : Nt); rw [en, ex, ed, ec, es, ee, et, eo, el, ez])
  · intro h
    have te := h
    have e := eqv_true te
    have en : n.n = ⟨#[]⟩ := congrArg Nt.n e
    have ex : n.x = ⟨#[]⟩ := congrArg Nt.x e
    have ed : n.d = ⟨#[]⟩ := congrArg Nt.d e
    have ec : n.c = 0 := congrArg Nt.c e
    have es : n.s = 0 := congrArg Nt.s e
    have ee : n.e = 0 := congrArg Nt.e e
    have et : n.t = 0 := congrArg Nt.t e
    have eo : n.o = false := congrArg Nt.o e
    have el : n.l = [] := congrArg Nt.l e
    have ez : n.z = [] := congrArg Nt.z e
    refine may_iff.2 ⟨isK_iff.2 (by omega), ?_, fun q => absurd (hk.symm.trans q) (by decide)⟩
    rw [bnd_k (K := 10) hk (by decide) (by decide)]
    exact hold_iff.2 ⟨(by rw [en]; decide), (by rw [ex]; exact txB_nil), (by rw [ed]; decide), (by rw [ec]; decide), (by rw [es]; decide), (by rw [ee]; decide), (by rw [et]; decide), (.inr eo), (by rw [el]; decide), (by rw [el]; rfl), (by rw [ez]; decide), (by rw [ez]; rfl)⟩
theorem may_11 {n : Nt} (hk : n.k = 11) : may n = (inB n.s 0 65535 && eqv (⟨0, n.n, n.x, n.d, n.c, 0, n.e, n.t, n.o, n.l, n.z⟩ : Nt) zN) := by
  rw [Bool.eq_iff_iff]
  constructor
  · intro h
    have q := hold_iff.1 (may_k h 11 hk (by decide) (by decide))
    obtain ⟨ha, hx, hd, hc, hs, he, ht, ho, hl, hli, hz, hzi⟩ := q
    have en : n.n = ⟨#[]⟩ := nmB_no ha
    have ex : n.x = ⟨#[]⟩ := size0 (txB_size hx)
    have ed : n.d = ⟨#[]⟩ := size0 hd.2
    have ec : n.c = 0 := int0 hc
    have ee : n.e = 0 := int0 he
    have et : n.t = 0 := int0 ht
    have eo : n.o = false := bool0 ho
    have el : n.l = [] := len0 hl.2
    have ez : n.z = [] := len0 hz.2
    simp only [Bool.and_eq_true]
    exact ⟨inB_iff.2 hs, eqv_yes (by show (⟨0, n.n, n.x, n.d, n.c, 0, n.e, n.t, n.o, n.l, n.z⟩ : Nt) = (⟨0, ⟨#[]⟩, ⟨#[]⟩, ⟨#[]⟩, 0, 0, 0, 0, false, [], []⟩ : Nt); rw [en, ex, ed, ec, ee, et, eo, el, ez])⟩
  · intro h
    simp only [Bool.and_eq_true] at h
    obtain ⟨t0, te⟩ := h
    have e := eqv_true te
    have en : n.n = ⟨#[]⟩ := congrArg Nt.n e
    have ex : n.x = ⟨#[]⟩ := congrArg Nt.x e
    have ed : n.d = ⟨#[]⟩ := congrArg Nt.d e
    have ec : n.c = 0 := congrArg Nt.c e
    have ee : n.e = 0 := congrArg Nt.e e
    have et : n.t = 0 := congrArg Nt.t e
    have eo : n.o = false := congrArg Nt.o e
    have el : n.l = [] := congrArg Nt.l e
    have ez : n.z = [] := congrArg Nt.z e
    refine may_iff.2 ⟨isK_iff.2 (by omega), ?_, fun q => absurd (hk.symm.trans q) (by decide)⟩
    rw [bnd_k (K := 11) hk (by decide) (by decide)]
    exact hold_iff.2 ⟨(by rw [en]; decide), (by rw [ex]; exact txB_nil), (by rw [ed]; decide), (by rw [ec]; decide), (inB_iff.1 t0), (by rw [ee]; decide), (by rw [et]; decide), (.inr eo), (by rw [el]; decide), (by rw [el]; rfl), (by rw [ez]; decide), (by rw [ez]; rfl)⟩
theorem may_12 {n : Nt} (hk : n.k = 12) : may n = (inB n.e 0 4294967295 && eqv (⟨0, n.n, n.x, n.d, n.c, n.s, 0, n.t, n.o, n.l, n.z⟩ : Nt) zN) := by
  rw [Bool.eq_iff_iff]
  constructor
  · intro h
    have q := hold_iff.1 (may_k h 12 hk (by decide) (by decide))
    obtain ⟨ha, hx, hd, hc, hs, he, ht, ho, hl, hli, hz, hzi⟩ := q
    have en : n.n = ⟨#[]⟩ := nmB_no ha
    have ex : n.x = ⟨#[]⟩ := size0 (txB_size hx)
    have ed : n.d = ⟨#[]⟩ := size0 hd.2
    have ec : n.c = 0 := int0 hc
    have es : n.s = 0 := int0 hs
    have et : n.t = 0 := int0 ht
    have eo : n.o = false := bool0 ho
    have el : n.l = [] := len0 hl.2
    have ez : n.z = [] := len0 hz.2
    simp only [Bool.and_eq_true]
    exact ⟨inB_iff.2 he, eqv_yes (by show (⟨0, n.n, n.x, n.d, n.c, n.s, 0, n.t, n.o, n.l, n.z⟩ : Nt) = (⟨0, ⟨#[]⟩, ⟨#[]⟩, ⟨#[]⟩, 0, 0, 0, 0, false, [], []⟩ : Nt); rw [en, ex, ed, ec, es, et, eo, el, ez])⟩
  · intro h
    simp only [Bool.and_eq_true] at h
    obtain ⟨t0, te⟩ := h
    have e := eqv_true te
    have en : n.n = ⟨#[]⟩ := congrArg Nt.n e
    have ex : n.x = ⟨#[]⟩ := congrArg Nt.x e
    have ed : n.d = ⟨#[]⟩ := congrArg Nt.d e
    have ec : n.c = 0 := congrArg Nt.c e
    have es : n.s = 0 := congrArg Nt.s e
    have et : n.t = 0 := congrArg Nt.t e
    have eo : n.o = false := congrArg Nt.o e
    have el : n.l = [] := congrArg Nt.l e
    have ez : n.z = [] := congrArg Nt.z e
    refine may_iff.2 ⟨isK_iff.2 (by omega), ?_, fun q => absurd (hk.symm.trans q) (by decide)⟩
    rw [bnd_k (K := 12) hk (by decide) (by decide)]
    exact hold_iff.2 ⟨(by rw [en]; decide), (by rw [ex]; exact txB_nil), (by rw [ed]; decide), (by rw [ec]; decide), (by rw [es]; decide), (inB_iff.1 t0), (by rw [et]; decide), (.inr eo), (by rw [el]; decide), (by rw [el]; rfl), (by rw [ez]; decide), (by rw [ez]; rfl)⟩
theorem may_13 {n : Nt} (hk : n.k = 13) : may n = (nmB n.n true && inB n.s 0 65535 && inB n.e 0 65535 && eqv (⟨0, ⟨#[]⟩, n.x, n.d, n.c, 0, 0, n.t, n.o, n.l, n.z⟩ : Nt) zN) := by
  rw [Bool.eq_iff_iff]
  constructor
  · intro h
    have q := hold_iff.1 (may_k h 13 hk (by decide) (by decide))
    obtain ⟨ha, hx, hd, hc, hs, he, ht, ho, hl, hli, hz, hzi⟩ := q
    have ex : n.x = ⟨#[]⟩ := size0 (txB_size hx)
    have ed : n.d = ⟨#[]⟩ := size0 hd.2
    have ec : n.c = 0 := int0 hc
    have et : n.t = 0 := int0 ht
    have eo : n.o = false := bool0 ho
    have el : n.l = [] := len0 hl.2
    have ez : n.z = [] := len0 hz.2
    simp only [Bool.and_eq_true]
    exact ⟨⟨⟨ha, inB_iff.2 hs⟩, inB_iff.2 he⟩, eqv_yes (by show (⟨0, ⟨#[]⟩, n.x, n.d, n.c, 0, 0, n.t, n.o, n.l, n.z⟩ : Nt) = (⟨0, ⟨#[]⟩, ⟨#[]⟩, ⟨#[]⟩, 0, 0, 0, 0, false, [], []⟩ : Nt); rw [ex, ed, ec, et, eo, el, ez])⟩
  · intro h
    simp only [Bool.and_eq_true] at h
    obtain ⟨⟨⟨t0, t1⟩, t2⟩, te⟩ := h
    have e := eqv_true te
    have ex : n.x = ⟨#[]⟩ := congrArg Nt.x e
    have ed : n.d = ⟨#[]⟩ := congrArg Nt.d e
    have ec : n.c = 0 := congrArg Nt.c e
    have et : n.t = 0 := congrArg Nt.t e
    have eo : n.o = false := congrArg Nt.o e
    have el : n.l = [] := congrArg Nt.l e
    have ez : n.z = [] := congrArg Nt.z e
    refine may_iff.2 ⟨isK_iff.2 (by omega), ?_, fun q => absurd (hk.symm.trans q) (by decide)⟩
    rw [bnd_k (K := 13) hk (by decide) (by decide)]
    exact hold_iff.2 ⟨t0, (by rw [ex]; exact txB_nil), (by rw [ed]; decide), (by rw [ec]; decide), (inB_iff.1 t1), (inB_iff.1 t2), (by rw [et]; decide), (.inr eo), (by rw [el]; decide), (by rw [el]; rfl), (by rw [ez]; decide), (by rw [ez]; rfl)⟩
theorem may_14 {n : Nt} (hk : n.k = 14) : may n = (nmB n.n true && eqv (⟨0, ⟨#[]⟩, n.x, n.d, n.c, n.s, n.e, n.t, n.o, n.l, n.z⟩ : Nt) zN) := by
  rw [Bool.eq_iff_iff]
  constructor
  · intro h
    have q := hold_iff.1 (may_k h 14 hk (by decide) (by decide))
    obtain ⟨ha, hx, hd, hc, hs, he, ht, ho, hl, hli, hz, hzi⟩ := q
    have ex : n.x = ⟨#[]⟩ := size0 (txB_size hx)
    have ed : n.d = ⟨#[]⟩ := size0 hd.2
    have ec : n.c = 0 := int0 hc
    have es : n.s = 0 := int0 hs
    have ee : n.e = 0 := int0 he
    have et : n.t = 0 := int0 ht
    have eo : n.o = false := bool0 ho
    have el : n.l = [] := len0 hl.2
    have ez : n.z = [] := len0 hz.2
    simp only [Bool.and_eq_true]
    exact ⟨ha, eqv_yes (by show (⟨0, ⟨#[]⟩, n.x, n.d, n.c, n.s, n.e, n.t, n.o, n.l, n.z⟩ : Nt) = (⟨0, ⟨#[]⟩, ⟨#[]⟩, ⟨#[]⟩, 0, 0, 0, 0, false, [], []⟩ : Nt); rw [ex, ed, ec, es, ee, et, eo, el, ez])⟩
  · intro h
    simp only [Bool.and_eq_true] at h
    obtain ⟨t0, te⟩ := h
    have e := eqv_true te
    have ex : n.x = ⟨#[]⟩ := congrArg Nt.x e
    have ed : n.d = ⟨#[]⟩ := congrArg Nt.d e
    have ec : n.c = 0 := congrArg Nt.c e
    have es : n.s = 0 := congrArg Nt.s e
    have ee : n.e = 0 := congrArg Nt.e e
    have et : n.t = 0 := congrArg Nt.t e
    have eo : n.o = false := congrArg Nt.o e
    have el : n.l = [] := congrArg Nt.l e
    have ez : n.z = [] := congrArg Nt.z e
    refine may_iff.2 ⟨isK_iff.2 (by omega), ?_, fun q => absurd (hk.symm.trans q) (by decide)⟩
    rw [bnd_k (K := 14) hk (by decide) (by decide)]
    exact hold_iff.2 ⟨t0, (by rw [ex]; exact txB_nil), (by rw [ed]; decide), (by rw [ec]; decide), (by rw [es]; decide), (by rw [ee]; decide), (by rw [et]; decide), (.inr eo), (by rw [el]; decide), (by rw [el]; rfl), (by rw [ez]; decide), (by rw [ez]; rfl)⟩
theorem may_15 {n : Nt} (hk : n.k = 15) : may n = (nmB n.n true && txB n.x 2000 && ((n.d.size : Int) == 8) && eqv (⟨0, ⟨#[]⟩, ⟨#[]⟩, ⟨#[]⟩, n.c, n.s, n.e, n.t, n.o, n.l, n.z⟩ : Nt) zN) := by
  rw [Bool.eq_iff_iff]
  constructor
  · intro h
    have q := hold_iff.1 (may_k h 15 hk (by decide) (by decide))
    obtain ⟨ha, hx, hd, hc, hs, he, ht, ho, hl, hli, hz, hzi⟩ := q
    have ec : n.c = 0 := int0 hc
    have es : n.s = 0 := int0 hs
    have ee : n.e = 0 := int0 he
    have et : n.t = 0 := int0 ht
    have eo : n.o = false := bool0 ho
    have el : n.l = [] := len0 hl.2
    have ez : n.z = [] := len0 hz.2
    have hd' : (8 : Int) ≤ n.d.size ∧ (n.d.size : Int) ≤ 8 := hd
    simp only [Bool.and_eq_true]
    exact ⟨⟨⟨ha, hx⟩, beq_iff_eq.2 (by omega)⟩, eqv_yes (by show (⟨0, ⟨#[]⟩, ⟨#[]⟩, ⟨#[]⟩, n.c, n.s, n.e, n.t, n.o, n.l, n.z⟩ : Nt) = (⟨0, ⟨#[]⟩, ⟨#[]⟩, ⟨#[]⟩, 0, 0, 0, 0, false, [], []⟩ : Nt); rw [ec, es, ee, et, eo, el, ez])⟩
  · intro h
    simp only [Bool.and_eq_true] at h
    obtain ⟨⟨⟨t0, t1⟩, t2⟩, te⟩ := h
    have e := eqv_true te
    have ec : n.c = 0 := congrArg Nt.c e
    have es : n.s = 0 := congrArg Nt.s e
    have ee : n.e = 0 := congrArg Nt.e e
    have et : n.t = 0 := congrArg Nt.t e
    have eo : n.o = false := congrArg Nt.o e
    have el : n.l = [] := congrArg Nt.l e
    have ez : n.z = [] := congrArg Nt.z e
    refine may_iff.2 ⟨isK_iff.2 (by omega), ?_, fun q => absurd (hk.symm.trans q) (by decide)⟩
    rw [bnd_k (K := 15) hk (by decide) (by decide)]
    exact hold_iff.2 ⟨t0, t1, (by have := beq_iff_eq.1 t2; show (8 : Int) ≤ n.d.size ∧ (n.d.size : Int) ≤ 8; omega), (by rw [ec]; decide), (by rw [es]; decide), (by rw [ee]; decide), (by rw [et]; decide), (.inr eo), (by rw [el]; decide), (by rw [el]; rfl), (by rw [ez]; decide), (by rw [ez]; rfl)⟩
theorem may_16 {n : Nt} (hk : n.k = 16) : may n = (nmB n.n true && txB n.x 2000 && ((n.d.size : Int) == 8) && eqv (⟨0, ⟨#[]⟩, ⟨#[]⟩, ⟨#[]⟩, n.c, n.s, n.e, n.t, n.o, n.l, n.z⟩ : Nt) zN) := by
  rw [Bool.eq_iff_iff]
  constructor
  · intro h
    have q := hold_iff.1 (may_k h 16 hk (by decide) (by decide))
    obtain ⟨ha, hx, hd, hc, hs, he, ht, ho, hl, hli, hz, hzi⟩ := q
    have ec : n.c = 0 := int0 hc
    have es : n.s = 0 := int0 hs
    have ee : n.e = 0 := int0 he
    have et : n.t = 0 := int0 ht
    have eo : n.o = false := bool0 ho
    have el : n.l = [] := len0 hl.2
    have ez : n.z = [] := len0 hz.2
    have hd' : (8 : Int) ≤ n.d.size ∧ (n.d.size : Int) ≤ 8 := hd
    simp only [Bool.and_eq_true]
    exact ⟨⟨⟨ha, hx⟩, beq_iff_eq.2 (by omega)⟩, eqv_yes (by show (⟨0, ⟨#[]⟩, ⟨#[]⟩, ⟨#[]⟩, n.c, n.s, n.e, n.t, n.o, n.l, n.z⟩ : Nt) = (⟨0, ⟨#[]⟩, ⟨#[]⟩, ⟨#[]⟩, 0, 0, 0, 0, false, [], []⟩ : Nt); rw [ec, es, ee, et, eo, el, ez])⟩
  · intro h
    simp only [Bool.and_eq_true] at h
    obtain ⟨⟨⟨t0, t1⟩, t2⟩, te⟩ := h
    have e := eqv_true te
    have ec : n.c = 0 := congrArg Nt.c e
    have es : n.s = 0 := congrArg Nt.s e
    have ee : n.e = 0 := congrArg Nt.e e
    have et : n.t = 0 := congrArg Nt.t e
    have eo : n.o = false := congrArg Nt.o e
    have el : n.l = [] := congrArg Nt.l e
    have ez : n.z = [] := congrArg Nt.z e
    refine may_iff.2 ⟨isK_iff.2 (by omega), ?_, fun q => absurd (hk.symm.trans q) (by decide)⟩
    rw [bnd_k (K := 16) hk (by decide) (by decide)]
    exact hold_iff.2 ⟨t0, t1, (by have := beq_iff_eq.1 t2; show (8 : Int) ≤ n.d.size ∧ (n.d.size : Int) ≤ 8; omega), (by rw [ec]; decide), (by rw [es]; decide), (by rw [ee]; decide), (by rw [et]; decide), (.inr eo), (by rw [el]; decide), (by rw [el]; rfl), (by rw [ez]; decide), (by rw [ez]; rfl)⟩
theorem may_17 {n : Nt} (hk : n.k = 17) : may n = (inB n.t 0 4294967295 && inB n.c 0 65535 && eqv (⟨0, n.n, n.x, n.d, 0, n.s, n.e, 0, n.o, n.l, n.z⟩ : Nt) zN) := by
  rw [Bool.eq_iff_iff]
  constructor
  · intro h
    have q := hold_iff.1 (may_k h 17 hk (by decide) (by decide))
    obtain ⟨ha, hx, hd, hc, hs, he, ht, ho, hl, hli, hz, hzi⟩ := q
    have en : n.n = ⟨#[]⟩ := nmB_no ha
    have ex : n.x = ⟨#[]⟩ := size0 (txB_size hx)
    have ed : n.d = ⟨#[]⟩ := size0 hd.2
    have es : n.s = 0 := int0 hs
    have ee : n.e = 0 := int0 he
    have eo : n.o = false := bool0 ho
    have el : n.l = [] := len0 hl.2
    have ez : n.z = [] := len0 hz.2
    simp only [Bool.and_eq_true]
    exact ⟨⟨inB_iff.2 ht, inB_iff.2 hc⟩, eqv_yes (by show (⟨0, n.n, n.x, n.d, 0, n.s, n.e, 0, n.o, n.l, n.z⟩ : Nt) = (⟨0, ⟨#[]⟩, ⟨#[]⟩, ⟨#[]⟩, 0, 0, 0, 0, false, [], []⟩ : Nt); rw [en, ex, ed, es, ee, eo, el, ez])⟩
  · intro h
    simp only [Bool.and_eq_true] at h
    obtain ⟨⟨t0, t1⟩, te⟩ := h
    have e := eqv_true te
    have en : n.n = ⟨#[]⟩ := congrArg Nt.n e
    have ex : n.x = ⟨#[]⟩ := congrArg Nt.x e
    have ed : n.d = ⟨#[]⟩ := congrArg Nt.d e
    have es : n.s = 0 := congrArg Nt.s e
    have ee : n.e = 0 := congrArg Nt.e e
    have eo : n.o = false := congrArg Nt.o e
    have el : n.l = [] := congrArg Nt.l e
    have ez : n.z = [] := congrArg Nt.z e
    refine may_iff.2 ⟨isK_iff.2 (by omega), ?_, fun q => absurd (hk.symm.trans q) (by decide)⟩
    rw [bnd_k (K := 17) hk (by decide) (by decide)]
    exact hold_iff.2 ⟨(by rw [en]; decide), (by rw [ex]; exact txB_nil), (by rw [ed]; decide), (inB_iff.1 t1), (by rw [es]; decide), (by rw [ee]; decide), (inB_iff.1 t0), (.inr eo), (by rw [el]; decide), (by rw [el]; rfl), (by rw [ez]; decide), (by rw [ez]; rfl)⟩
theorem may_18 {n : Nt} (hk : n.k = 18) : may n = ((inB n.l.length 0 100 && n.l.all itB) && inB n.t 0 4294967295 && eqv (⟨0, n.n, n.x, n.d, n.c, n.s, n.e, 0, n.o, [], n.z⟩ : Nt) zN) := by
  rw [Bool.eq_iff_iff]
  constructor
  · intro h
    have q := hold_iff.1 (may_k h 18 hk (by decide) (by decide))
    obtain ⟨ha, hx, hd, hc, hs, he, ht, ho, hl, hli, hz, hzi⟩ := q
    have en : n.n = ⟨#[]⟩ := nmB_no ha
    have ex : n.x = ⟨#[]⟩ := size0 (txB_size hx)
    have ed : n.d = ⟨#[]⟩ := size0 hd.2
    have ec : n.c = 0 := int0 hc
    have es : n.s = 0 := int0 hs
    have ee : n.e = 0 := int0 he
    have eo : n.o = false := bool0 ho
    have ez : n.z = [] := len0 hz.2
    simp only [Bool.and_eq_true]
    exact ⟨⟨⟨inB_iff.2 hl, hli⟩, inB_iff.2 ht⟩, eqv_yes (by show (⟨0, n.n, n.x, n.d, n.c, n.s, n.e, 0, n.o, [], n.z⟩ : Nt) = (⟨0, ⟨#[]⟩, ⟨#[]⟩, ⟨#[]⟩, 0, 0, 0, 0, false, [], []⟩ : Nt); rw [en, ex, ed, ec, es, ee, eo, ez])⟩
  · intro h
    simp only [Bool.and_eq_true] at h
    obtain ⟨⟨t0, t1⟩, te⟩ := h
    have e := eqv_true te
    have en : n.n = ⟨#[]⟩ := congrArg Nt.n e
    have ex : n.x = ⟨#[]⟩ := congrArg Nt.x e
    have ed : n.d = ⟨#[]⟩ := congrArg Nt.d e
    have ec : n.c = 0 := congrArg Nt.c e
    have es : n.s = 0 := congrArg Nt.s e
    have ee : n.e = 0 := congrArg Nt.e e
    have eo : n.o = false := congrArg Nt.o e
    have ez : n.z = [] := congrArg Nt.z e
    refine may_iff.2 ⟨isK_iff.2 (by omega), ?_, fun q => absurd (hk.symm.trans q) (by decide)⟩
    rw [bnd_k (K := 18) hk (by decide) (by decide)]
    exact hold_iff.2 ⟨(by rw [en]; decide), (by rw [ex]; exact txB_nil), (by rw [ed]; decide), (by rw [ec]; decide), (by rw [es]; decide), (by rw [ee]; decide), (inB_iff.1 t1), (.inr eo), (inB_iff.1 t0.1), t0.2, (by rw [ez]; decide), (by rw [ez]; rfl)⟩
theorem may_19 {n : Nt} (hk : n.k = 19) : may n = (inB n.t 0 4294967295 && inB n.c 0 65535 && eqv (⟨0, n.n, n.x, n.d, 0, n.s, n.e, 0, n.o, n.l, n.z⟩ : Nt) zN) := by
  rw [Bool.eq_iff_iff]
  constructor
  · intro h
    have q := hold_iff.1 (may_k h 19 hk (by decide) (by decide))
    obtain ⟨ha, hx, hd, hc, hs, he, ht, ho, hl, hli, hz, hzi⟩ := q
    have en : n.n = ⟨#[]⟩ := nmB_no ha
    have ex : n.x = ⟨#[]⟩ := size0 (txB_size hx)
    have ed : n.d = ⟨#[]⟩ := size0 hd.2
    have es : n.s = 0 := int0 hs
    have ee : n.e = 0 := int0 he
    have eo : n.o = false := bool0 ho
    have el : n.l = [] := len0 hl.2
    have ez : n.z = [] := len0 hz.2
    simp only [Bool.and_eq_true]
    exact ⟨⟨inB_iff.2 ht, inB_iff.2 hc⟩, eqv_yes (by show (⟨0, n.n, n.x, n.d, 0, n.s, n.e, 0, n.o, n.l, n.z⟩ : Nt) = (⟨0, ⟨#[]⟩, ⟨#[]⟩, ⟨#[]⟩, 0, 0, 0, 0, false, [], []⟩ : Nt); rw [en, ex, ed, es, ee, eo, el, ez])⟩
  · intro h
    simp only [Bool.and_eq_true] at h
    obtain ⟨⟨t0, t1⟩, te⟩ := h
    have e := eqv_true te
    have en : n.n = ⟨#[]⟩ := congrArg Nt.n e
    have ex : n.x = ⟨#[]⟩ := congrArg Nt.x e
    have ed : n.d = ⟨#[]⟩ := congrArg Nt.d e
    have es : n.s = 0 := congrArg Nt.s e
    have ee : n.e = 0 := congrArg Nt.e e
    have eo : n.o = false := congrArg Nt.o e
    have el : n.l = [] := congrArg Nt.l e
    have ez : n.z = [] := congrArg Nt.z e
    refine may_iff.2 ⟨isK_iff.2 (by omega), ?_, fun q => absurd (hk.symm.trans q) (by decide)⟩
    rw [bnd_k (K := 19) hk (by decide) (by decide)]
    exact hold_iff.2 ⟨(by rw [en]; decide), (by rw [ex]; exact txB_nil), (by rw [ed]; decide), (inB_iff.1 t1), (by rw [es]; decide), (by rw [ee]; decide), (inB_iff.1 t0), (.inr eo), (by rw [el]; decide), (by rw [el]; rfl), (by rw [ez]; decide), (by rw [ez]; rfl)⟩
theorem may_20 {n : Nt} (hk : n.k = 20) : may n = ((inB n.l.length 1 100 && n.l.all itB) && eqv (⟨0, n.n, n.x, n.d, n.c, n.s, n.e, n.t, n.o, [], n.z⟩ : Nt) zN) := by
  rw [Bool.eq_iff_iff]
  constructor
  · intro h
    have q := hold_iff.1 (may_k h 20 hk (by decide) (by decide))
    obtain ⟨ha, hx, hd, hc, hs, he, ht, ho, hl, hli, hz, hzi⟩ := q
    have en : n.n = ⟨#[]⟩ := nmB_no ha
    have ex : n.x = ⟨#[]⟩ := size0 (txB_size hx)
    have ed : n.d = ⟨#[]⟩ := size0 hd.2
    have ec : n.c = 0 := int0 hc
    have es : n.s = 0 := int0 hs
    have ee : n.e = 0 := int0 he
    have et : n.t = 0 := int0 ht
    have eo : n.o = false := bool0 ho
    have ez : n.z = [] := len0 hz.2
    simp only [Bool.and_eq_true]
    exact ⟨⟨inB_iff.2 hl, hli⟩, eqv_yes (by show (⟨0, n.n, n.x, n.d, n.c, n.s, n.e, n.t, n.o, [], n.z⟩ : Nt) = (⟨0, ⟨#[]⟩, ⟨#[]⟩, ⟨#[]⟩, 0, 0, 0, 0, false, [], []⟩ : Nt); rw [en, ex, ed, ec, es, ee, et, eo, ez])⟩
  · intro h
    simp only [Bool.and_eq_true] at h
    obtain ⟨t0, te⟩ := h
    have e := eqv_true te
    have en : n.n = ⟨#[]⟩ := congrArg Nt.n e
    have ex : n.x = ⟨#[]⟩ := congrArg Nt.x e
    have ed : n.d = ⟨#[]⟩ := congrArg Nt.d e
    have ec : n.c = 0 := congrArg Nt.c e
    have es : n.s = 0 := congrArg Nt.s e
    have ee : n.e = 0 := congrArg Nt.e e
    have et : n.t = 0 := congrArg Nt.t e
    have eo : n.o = false := congrArg Nt.o e
    have ez : n.z = [] := congrArg Nt.z e
    refine may_iff.2 ⟨isK_iff.2 (by omega), ?_, fun q => absurd (hk.symm.trans q) (by decide)⟩
    rw [bnd_k (K := 20) hk (by decide) (by decide)]
    exact hold_iff.2 ⟨(by rw [en]; decide), (by rw [ex]; exact txB_nil), (by rw [ed]; decide), (by rw [ec]; decide), (by rw [es]; decide), (by rw [ee]; decide), (by rw [et]; decide), (.inr eo), (inB_iff.1 t0.1), t0.2, (by rw [ez]; decide), (by rw [ez]; rfl)⟩
theorem may_21 {n : Nt} (hk : n.k = 21) : may n = ((inB n.l.length 1 100 && n.l.all itB) && eqv (⟨0, n.n, n.x, n.d, n.c, n.s, n.e, n.t, n.o, [], n.z⟩ : Nt) zN) := by
  rw [Bool.eq_iff_iff]
  constructor
  · intro h
    have q := hold_iff.1 (may_k h 21 hk (by decide) (by decide))
    obtain ⟨ha, hx, hd, hc, hs, he, ht, ho, hl, hli, hz, hzi⟩ := q
    have en : n.n = ⟨#[]⟩ := nmB_no ha
    have ex : n.x = ⟨#[]⟩ := size0 (txB_size hx)
    have ed : n.d = ⟨#[]⟩ := size0 hd.2
    have ec : n.c = 0 := int0 hc
    have es : n.s = 0 := int0 hs
    have ee : n.e = 0 := int0 he
    have et : n.t = 0 := int0 ht
    have eo : n.o = false := bool0 ho
    have ez : n.z = [] := len0 hz.2
    simp only [Bool.and_eq_true]
    exact ⟨⟨inB_iff.2 hl, hli⟩, eqv_yes (by show (⟨0, n.n, n.x, n.d, n.c, n.s, n.e, n.t, n.o, [], n.z⟩ : Nt) = (⟨0, ⟨#[]⟩, ⟨#[]⟩, ⟨#[]⟩, 0, 0, 0, 0, false, [], []⟩ : Nt); rw [en, ex, ed, ec, es, ee, et, eo, ez])⟩
  · intro h
    simp only [Bool.and_eq_true] at h
    obtain ⟨t0, te⟩ := h
    have e := eqv_true te
    have en : n.n = ⟨#[]⟩ := congrArg Nt.n e
    have ex : n.x = ⟨#[]⟩ := congrArg Nt.x e
    have ed : n.d = ⟨#[]⟩ := congrArg Nt.d e
    have ec : n.c = 0 := congrArg Nt.c e
    have es : n.s = 0 := congrArg Nt.s e
    have ee : n.e = 0 := congrArg Nt.e e
    have et : n.t = 0 := congrArg Nt.t e
    have eo : n.o = false := congrArg Nt.o e
    have ez : n.z = [] := congrArg Nt.z e
    refine may_iff.2 ⟨isK_iff.2 (by omega), ?_, fun q => absurd (hk.symm.trans q) (by decide)⟩
    rw [bnd_k (K := 21) hk (by decide) (by decide)]
    exact hold_iff.2 ⟨(by rw [en]; decide), (by rw [ex]; exact txB_nil), (by rw [ed]; decide), (by rw [ec]; decide), (by rw [es]; decide), (by rw [ee]; decide), (by rw [et]; decide), (.inr eo), (inB_iff.1 t0.1), t0.2, (by rw [ez]; decide), (by rw [ez]; rfl)⟩
theorem may_22 {n : Nt} (hk : n.k = 22) : may n = ((inB n.l.length 1 100 && n.l.all itB) && eqv (⟨0, n.n, n.x, n.d, n.c, n.s, n.e, n.t, n.o, [], n.z⟩ : Nt) zN) := by
  rw [Bool.eq_iff_iff]
  constructor
  · intro h
    have q := hold_iff.1 (may_k h 22 hk (by decide) (by decide))
    obtain ⟨ha, hx, hd, hc, hs, he, ht, ho, hl, hli, hz, hzi⟩ := q
    have en : n.n = ⟨#[]⟩ := nmB_no ha
    have ex : n.x = ⟨#[]⟩ := size0 (txB_size hx)
    have ed : n.d = ⟨#[]⟩ := size0 hd.2
    have ec : n.c = 0 := int0 hc
    have es : n.s = 0 := int0 hs
    have ee : n.e = 0 := int0 he
    have et : n.t = 0 := int0 ht
    have eo : n.o = false := bool0 ho
    have ez : n.z = [] := len0 hz.2
    simp only [Bool.and_eq_true]
    exact ⟨⟨inB_iff.2 hl, hli⟩, eqv_yes (by show (⟨0, n.n, n.x, n.d, n.c, n.s, n.e, n.t, n.o, [], n.z⟩ : Nt) = (⟨0, ⟨#[]⟩, ⟨#[]⟩, ⟨#[]⟩, 0, 0, 0, 0, false, [], []⟩ : Nt); rw [en, ex, ed, ec, es, ee, et, eo, ez])⟩
  · intro h
    simp only [Bool.and_eq_true] at h
    obtain ⟨t0, te⟩ := h
    have e := eqv_true te
    have en : n.n = ⟨#[]⟩ := congrArg Nt.n e
    have ex : n.x = ⟨#[]⟩ := congrArg Nt.x e
    have ed : n.d = ⟨#[]⟩ := congrArg Nt.d e
    have ec : n.c = 0 := congrArg Nt.c e
    have es : n.s = 0 := congrArg Nt.s e
    have ee : n.e = 0 := congrArg Nt.e e
    have et : n.t = 0 := congrArg Nt.t e
    have eo : n.o = false := congrArg Nt.o e
    have ez : n.z = [] := congrArg Nt.z e
    refine may_iff.2 ⟨isK_iff.2 (by omega), ?_, fun q => absurd (hk.symm.trans q) (by decide)⟩
    rw [bnd_k (K := 22) hk (by decide) (by decide)]
    exact hold_iff.2 ⟨(by rw [en]; decide), (by rw [ex]; exact txB_nil), (by rw [ed]; decide), (by rw [ec]; decide), (by rw [es]; decide), (by rw [ee]; decide), (by rw [et]; decide), (.inr eo), (inB_iff.1 t0.1), t0.2, (by rw [ez]; decide), (by rw [ez]; rfl)⟩
theorem may_23 {n : Nt} (hk : n.k = 23) : may n = (eqv (⟨0, n.n, n.x, n.d, n.c, n.s, n.e, n.t, n.o, n.l, n.z⟩ : Nt) zN) := by
  rw [Bool.eq_iff_iff]
  constructor
  · intro h
    have q := hold_iff.1 (may_k h 23 hk (by decide) (by decide))
    obtain ⟨ha, hx, hd, hc, hs, he, ht, ho, hl, hli, hz, hzi⟩ := q
    have en : n.n = ⟨#[]⟩ := nmB_no ha
    have ex : n.x = ⟨#[]⟩ := size0 (txB_size hx)
    have ed : n.d = ⟨#[]⟩ := size0 hd.2
    have ec : n.c = 0 := int0 hc
    have es : n.s = 0 := int0 hs
    have ee : n.e = 0 := int0 he
    have et : n.t = 0 := int0 ht
    have eo : n.o = false := bool0 ho
    have el : n.l = [] := len0 hl.2
    have ez : n.z = [] := len0 hz.2
    exact eqv_yes (by show (⟨0, n.n, n.x, n.d, n.c, n.s, n.e, n.t, n.o, n.l, n.z⟩ : Nt) = (⟨0, ⟨#[]⟩, ⟨#[]⟩, ⟨#[]⟩, 0, 0, 0, 0, false, [], []⟩ : Nt); rw [en, ex, ed, ec, es, ee, et, eo, el, ez])
  · intro h
    have te := h
    have e := eqv_true te
    have en : n.n = ⟨#[]⟩ := congrArg Nt.n e
    have ex : n.x = ⟨#[]⟩ := congrArg Nt.x e
    have ed : n.d = ⟨#[]⟩ := congrArg Nt.d e
    have ec : n.c = 0 := congrArg Nt.c e
    have es : n.s = 0 := congrArg Nt.s e
    have ee : n.e = 0 := congrArg Nt.e e
    have et : n.t = 0 := congrArg Nt.t e
    have eo : n.o = false := congrArg Nt.o e
    have el : n.l = [] := congrArg Nt.l e
    have ez : n.z = [] := congrArg Nt.z e
    refine may_iff.2 ⟨isK_iff.2 (by omega), ?_, fun q => absurd (hk.symm.trans q) (by decide)⟩
    rw [bnd_k (K := 23) hk (by decide) (by decide)]
    exact hold_iff.2 ⟨(by rw [en]; decide), (by rw [ex]; exact txB_nil), (by rw [ed]; decide), (by rw [ec]; decide), (by rw [es]; decide), (by rw [ee]; decide), (by rw [et]; decide), (.inr eo), (by rw [el]; decide), (by rw [el]; rfl), (by rw [ez]; decide), (by rw [ez]; rfl)⟩
theorem may_24 {n : Nt} (hk : n.k = 24) : may n = (eqv (⟨0, n.n, n.x, n.d, n.c, n.s, n.e, n.t, n.o, n.l, n.z⟩ : Nt) zN) := by
  rw [Bool.eq_iff_iff]
  constructor
  · intro h
    have q := hold_iff.1 (may_k h 24 hk (by decide) (by decide))
    obtain ⟨ha, hx, hd, hc, hs, he, ht, ho, hl, hli, hz, hzi⟩ := q
    have en : n.n = ⟨#[]⟩ := nmB_no ha
    have ex : n.x = ⟨#[]⟩ := size0 (txB_size hx)
    have ed : n.d = ⟨#[]⟩ := size0 hd.2
    have ec : n.c = 0 := int0 hc
    have es : n.s = 0 := int0 hs
    have ee : n.e = 0 := int0 he
    have et : n.t = 0 := int0 ht
    have eo : n.o = false := bool0 ho
    have el : n.l = [] := len0 hl.2
    have ez : n.z = [] := len0 hz.2
    exact eqv_yes (by show (⟨0, n.n, n.x, n.d, n.c, n.s, n.e, n.t, n.o, n.l, n.z⟩ : Nt) = (⟨0, ⟨#[]⟩, ⟨#[]⟩, ⟨#[]⟩, 0, 0, 0, 0, false, [], []⟩ : Nt); rw [en, ex, ed, ec, es, ee, et, eo, el, ez])
  · intro h
    have te := h
    have e := eqv_true te
    have en : n.n = ⟨#[]⟩ := congrArg Nt.n e
    have ex : n.x = ⟨#[]⟩ := congrArg Nt.x e
    have ed : n.d = ⟨#[]⟩ := congrArg Nt.d e
    have ec : n.c = 0 := congrArg Nt.c e
    have es : n.s = 0 := congrArg Nt.s e
    have ee : n.e = 0 := congrArg Nt.e e
    have et : n.t = 0 := congrArg Nt.t e
    have eo : n.o = false := congrArg Nt.o e
    have el : n.l = [] := congrArg Nt.l e
    have ez : n.z = [] := congrArg Nt.z e
    refine may_iff.2 ⟨isK_iff.2 (by omega), ?_, fun q => absurd (hk.symm.trans q) (by decide)⟩
    rw [bnd_k (K := 24) hk (by decide) (by decide)]
    exact hold_iff.2 ⟨(by rw [en]; decide), (by rw [ex]; exact txB_nil), (by rw [ed]; decide), (by rw [ec]; decide), (by rw [es]; decide), (by rw [ee]; decide), (by rw [et]; decide), (.inr eo), (by rw [el]; decide), (by rw [el]; rfl), (by rw [ez]; decide), (by rw [ez]; rfl)⟩
theorem may_25 {n : Nt} (hk : n.k = 25) : may n = ((inB n.z.length 1 100 && n.z.all fun c => inB c 0 65535) && eqv (⟨0, n.n, n.x, n.d, n.c, n.s, n.e, n.t, n.o, n.l, []⟩ : Nt) zN) := by
  rw [Bool.eq_iff_iff]
  constructor
  · intro h
    have q := hold_iff.1 (may_k h 25 hk (by decide) (by decide))
    obtain ⟨ha, hx, hd, hc, hs, he, ht, ho, hl, hli, hz, hzi⟩ := q
    have en : n.n = ⟨#[]⟩ := nmB_no ha
    have ex : n.x = ⟨#[]⟩ := size0 (txB_size hx)
    have ed : n.d = ⟨#[]⟩ := size0 hd.2
    have ec : n.c = 0 := int0 hc
    have es : n.s = 0 := int0 hs
    have ee : n.e = 0 := int0 he
    have et : n.t = 0 := int0 ht
    have eo : n.o = false := bool0 ho
    have el : n.l = [] := len0 hl.2
    simp only [Bool.and_eq_true]
    exact ⟨⟨inB_iff.2 hz, hzi⟩, eqv_yes (by show (⟨0, n.n, n.x, n.d, n.c, n.s, n.e, n.t, n.o, n.l, []⟩ : Nt) = (⟨0, ⟨#[]⟩, ⟨#[]⟩, ⟨#[]⟩, 0, 0, 0, 0, false, [], []⟩ : Nt); rw [en, ex, ed, ec, es, ee, et, eo, el])⟩
  · intro h
    simp only [Bool.and_eq_true] at h
    obtain ⟨t0, te⟩ := h
    have e := eqv_true te
    have en : n.n = ⟨#[]⟩ := congrArg Nt.n e
    have ex : n.x = ⟨#[]⟩ := congrArg Nt.x e
    have ed : n.d = ⟨#[]⟩ := congrArg Nt.d e
    have ec : n.c = 0 := congrArg Nt.c e
    have es : n.s = 0 := congrArg Nt.s e
    have ee : n.e = 0 := congrArg Nt.e e
    have et : n.t = 0 := congrArg Nt.t e
    have eo : n.o = false := congrArg Nt.o e
    have el : n.l = [] := congrArg Nt.l e
    refine may_iff.2 ⟨isK_iff.2 (by omega), ?_, fun q => absurd (hk.symm.trans q) (by decide)⟩
    rw [bnd_k (K := 25) hk (by decide) (by decide)]
    exact hold_iff.2 ⟨(by rw [en]; decide), (by rw [ex]; exact txB_nil), (by rw [ed]; decide), (by rw [ec]; decide), (by rw [es]; decide), (by rw [ee]; decide), (by rw [et]; decide), (.inr eo), (by rw [el]; decide), (by rw [el]; rfl), (inB_iff.1 t0.1), t0.2⟩
theorem may_26 {n : Nt} (hk : n.k = 26) : may n = (nmB n.n true && txB n.x 2000 && eqv (⟨0, ⟨#[]⟩, ⟨#[]⟩, n.d, n.c, n.s, n.e, n.t, n.o, n.l, n.z⟩ : Nt) zN) := by
  rw [Bool.eq_iff_iff]
  constructor
  · intro h
    have q := hold_iff.1 (may_k h 26 hk (by decide) (by decide))
    obtain ⟨ha, hx, hd, hc, hs, he, ht, ho, hl, hli, hz, hzi⟩ := q
    have ed : n.d = ⟨#[]⟩ := size0 hd.2
    have ec : n.c = 0 := int0 hc
    have es : n.s = 0 := int0 hs
    have ee : n.e = 0 := int0 he
    have et : n.t = 0 := int0 ht
    have eo : n.o = false := bool0 ho
    have el : n.l = [] := len0 hl.2
    have ez : n.z = [] := len0 hz.2
    simp only [Bool.and_eq_true]
    exact ⟨⟨ha, hx⟩, eqv_yes (by show (⟨0, ⟨#[]⟩, ⟨#[]⟩, n.d, n.c, n.s, n.e, n.t, n.o, n.l, n.z⟩ : Nt) = (⟨0, ⟨#[]⟩, ⟨#[]⟩, ⟨#[]⟩, 0, 0, 0, 0, false, [], []⟩ : Nt); rw [ed, ec, es, ee, et, eo, el, ez])⟩
  · intro h
    simp only [Bool.and_eq_true] at h
    obtain ⟨⟨t0, t1⟩, te⟩ := h
    have e := eqv_true te
    have ed : n.d = ⟨#[]⟩ := congrArg Nt.d e
    have ec : n.c = 0 := congrArg Nt.c e
    have es : n.s = 0 := congrArg Nt.s e
    have ee : n.e = 0 := congrArg Nt.e e
    have et : n.t = 0 := congrArg Nt.t e
    have eo : n.o = false := congrArg Nt.o e
    have el : n.l = [] := congrArg Nt.l e
    have ez : n.z = [] := congrArg Nt.z e
    refine may_iff.2 ⟨isK_iff.2 (by omega), ?_, fun q => absurd (hk.symm.trans q) (by decide)⟩
    rw [bnd_k (K := 26) hk (by decide) (by decide)]
    exact hold_iff.2 ⟨t0, t1, (by rw [ed]; decide), (by rw [ec]; decide), (by rw [es]; decide), (by rw [ee]; decide), (by rw [et]; decide), (.inr eo), (by rw [el]; decide), (by rw [el]; rfl), (by rw [ez]; decide), (by rw [ez]; rfl)⟩
theorem may_27 {n : Nt} (hk : n.k = 27) : may n = (nmB n.n true && txB n.x 2000 && eqv (⟨0, ⟨#[]⟩, ⟨#[]⟩, n.d, n.c, n.s, n.e, n.t, n.o, n.l, n.z⟩ : Nt) zN) := by
  rw [Bool.eq_iff_iff]
  constructor
  · intro h
    have q := hold_iff.1 (may_k h 27 hk (by decide) (by decide))
    obtain ⟨ha, hx, hd, hc, hs, he, ht, ho, hl, hli, hz, hzi⟩ := q
    have ed : n.d = ⟨#[]⟩ := size0 hd.2
    have ec : n.c = 0 := int0 hc
    have es : n.s = 0 := int0 hs
    have ee : n.e = 0 := int0 he
    have et : n.t = 0 := int0 ht
    have eo : n.o = false := bool0 ho
    have el : n.l = [] := len0 hl.2
    have ez : n.z = [] := len0 hz.2
    simp only [Bool.and_eq_true]
    exact ⟨⟨ha, hx⟩, eqv_yes (by show (⟨0, ⟨#[]⟩, ⟨#[]⟩, n.d, n.c, n.s, n.e, n.t, n.o, n.l, n.z⟩ : Nt) = (⟨0, ⟨#[]⟩, ⟨#[]⟩, ⟨#[]⟩, 0, 0, 0, 0, false, [], []⟩ : Nt); rw [ed, ec, es, ee, et, eo, el, ez])⟩
  · intro h
    simp only [Bool.and_eq_true] at h
    obtain ⟨⟨t0, t1⟩, te⟩ := h
    have e := eqv_true te
    have ed : n.d = ⟨#[]⟩ := congrArg Nt.d e
    have ec : n.c = 0 := congrArg Nt.c e
    have es : n.s = 0 := congrArg Nt.s e
    have ee : n.e = 0 := congrArg Nt.e e
    have et : n.t = 0 := congrArg Nt.t e
    have eo : n.o = false := congrArg Nt.o e
    have el : n.l = [] := congrArg Nt.l e
    have ez : n.z = [] := congrArg Nt.z e
    refine may_iff.2 ⟨isK_iff.2 (by omega), ?_, fun q => absurd (hk.symm.trans q) (by decide)⟩
    rw [bnd_k (K := 27) hk (by decide) (by decide)]
    exact hold_iff.2 ⟨t0, t1, (by rw [ed]; decide), (by rw [ec]; decide), (by rw [es]; decide), (by rw [ee]; decide), (by rw [et]; decide), (.inr eo), (by rw [el]; decide), (by rw [el]; rfl), (by rw [ez]; decide), (by rw [ez]; rfl)⟩
theorem may_28 {n : Nt} (hk : n.k = 28) : may n = (nmB n.n true && txB n.x 2000 && eqv (⟨0, ⟨#[]⟩, ⟨#[]⟩, n.d, n.c, n.s, n.e, n.t, false, n.l, n.z⟩ : Nt) zN) := by
  rw [Bool.eq_iff_iff]
  constructor
  · intro h
    have q := hold_iff.1 (may_k h 28 hk (by decide) (by decide))
    obtain ⟨ha, hx, hd, hc, hs, he, ht, ho, hl, hli, hz, hzi⟩ := q
    have ed : n.d = ⟨#[]⟩ := size0 hd.2
    have ec : n.c = 0 := int0 hc
    have es : n.s = 0 := int0 hs
    have ee : n.e = 0 := int0 he
    have et : n.t = 0 := int0 ht
    have el : n.l = [] := len0 hl.2
    have ez : n.z = [] := len0 hz.2
    simp only [Bool.and_eq_true]
    exact ⟨⟨ha, hx⟩, eqv_yes (by show (⟨0, ⟨#[]⟩, ⟨#[]⟩, n.d, n.c, n.s, n.e, n.t, false, n.l, n.z⟩ : Nt) = (⟨0, ⟨#[]⟩, ⟨#[]⟩, ⟨#[]⟩, 0, 0, 0, 0, false, [], []⟩ : Nt); rw [ed, ec, es, ee, et, el, ez])⟩
  · intro h
    simp only [Bool.and_eq_true] at h
    obtain ⟨⟨t0, t1⟩, te⟩ := h
    have e := eqv_true te
    have ed : n.d = ⟨#[]⟩ := congrArg Nt.d e
    have ec : n.c = 0 := congrArg Nt.c e
    have es : n.s = 0 := congrArg Nt.s e
    have ee : n.e = 0 := congrArg Nt.e e
    have et : n.t = 0 := congrArg Nt.t e
    have el : n.l = [] := congrArg Nt.l e
    have ez : n.z = [] := congrArg Nt.z e
    refine may_iff.2 ⟨isK_iff.2 (by omega), ?_, fun q => absurd (hk.symm.trans q) (by decide)⟩
    rw [bnd_k (K := 28) hk (by decide) (by decide)]
    exact hold_iff.2 ⟨t0, t1, (by rw [ed]; decide), (by rw [ec]; decide), (by rw [es]; decide), (by rw [ee]; decide), (by rw [et]; decide), (.inl rfl), (by rw [el]; decide), (by rw [el]; rfl), (by rw [ez]; decide), (by rw [ez]; rfl)⟩
theorem may_29 {n : Nt} (hk : n.k = 29) : may n = (nmB n.n true && txB n.x 2000 && eqv (⟨0, ⟨#[]⟩, ⟨#[]⟩, n.d, n.c, n.s, n.e, n.t, false, n.l, n.z⟩ : Nt) zN) := by
  rw [Bool.eq_iff_iff]
  constructor
  · intro h
    have q := hold_iff.1 (may_k h 29 hk (by decide) (by decide))
    obtain ⟨ha, hx, hd, hc, hs, he, ht, ho, hl, hli, hz, hzi⟩ := q
    have ed : n.d = ⟨#[]⟩ := size0 hd.2
    have ec : n.c = 0 := int0 hc
    have es : n.s = 0 := int0 hs
    have ee : n.e = 0 := int0 he
    have et : n.t = 0 := int0 ht
    have el : n.l = [] := len0 hl.2
    have ez : n.z = [] := len0 hz.2
    simp only [Bool.and_eq_true]
    exact ⟨⟨ha, hx⟩, eqv_yes (by show (⟨0, ⟨#[]⟩, ⟨#[]⟩, n.d, n.c, n.s, n.e, n.t, false, n.l, n.z⟩ : Nt) = (⟨0, ⟨#[]⟩, ⟨#[]⟩, ⟨#[]⟩, 0, 0, 0, 0, false, [], []⟩ : Nt); rw [ed, ec, es, ee, et, el, ez])⟩
  · intro h
    simp only [Bool.and_eq_true] at h
    obtain ⟨⟨t0, t1⟩, te⟩ := h
    have e := eqv_true te
    have ed : n.d = ⟨#[]⟩ := congrArg Nt.d e
    have ec : n.c = 0 := congrArg Nt.c e
    have es : n.s = 0 := congrArg Nt.s e
    have ee : n.e = 0 := congrArg Nt.e e
    have et : n.t = 0 := congrArg Nt.t e
    have el : n.l = [] := congrArg Nt.l e
    have ez : n.z = [] := congrArg Nt.z e
    refine may_iff.2 ⟨isK_iff.2 (by omega), ?_, fun q => absurd (hk.symm.trans q) (by decide)⟩
    rw [bnd_k (K := 29) hk (by decide) (by decide)]
    exact hold_iff.2 ⟨t0, t1, (by rw [ed]; decide), (by rw [ec]; decide), (by rw [es]; decide), (by rw [ee]; decide), (by rw [et]; decide), (.inl rfl), (by rw [el]; decide), (by rw [el]; rfl), (by rw [ez]; decide), (by rw [ez]; rfl)⟩
end Go.Proofs.YtiodjaeonoheiaaGreatDoor.T
