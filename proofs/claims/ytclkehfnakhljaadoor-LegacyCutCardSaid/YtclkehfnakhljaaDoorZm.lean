/- What was put of each kind is read as it was: plain mathematics. No condition. -/
import Derived.Test.YtclkehfnakhljaaDoorZl
namespace Go.Proofs.YtclkehfnakhljaaDoor.T
open Go Go.Lib By

set_option maxRecDepth 100000 in
theorem rdb_1 {a x d : ByteArray} {c s e t : Int} {o : Bool} {l : List It} {z : List Int} (h : may ⟨1, a, x, d, c, s, e, t, o, l, z⟩ = true) (r : List UInt8) : rd 1 (bodyL ⟨1, a, x, d, c, s, e, t, o, l, z⟩ ++ r) = ⟨1, a, x, d, c, s, e, t, o, l, z⟩ := by
  have q := may_k h 1 rfl (by decide) (by decide)
  rw [hold_iff] at q
  obtain ⟨ha, hx, hd, hc, hs, he, ht, ho, hl, hli, hz, hzi⟩ := q
  obtain rfl : a = ⟨#[]⟩ := nmB_no ha
  obtain rfl : x = ⟨#[]⟩ := size0 (txB_size hx)
  obtain rfl : d = ⟨#[]⟩ := size0 hd.2
  obtain rfl : c = 0 := int0 hc
  obtain rfl : s = 0 := int0 hs
  obtain rfl : e = 0 := int0 he
  obtain rfl : t = 0 := int0 ht
  obtain rfl : o = false := bool0 ho
  obtain rfl : l = [] := len0 hl.2
  obtain rfl : z = [] := len0 hz.2
  rw [rd_of 1 _ 1 rfl (by decide) (by decide), bodyL_of _ 1 rfl (by decide) (by decide)]
  rfl
set_option maxRecDepth 100000 in
theorem rdb_2 {a x d : ByteArray} {c s e t : Int} {o : Bool} {l : List It} {z : List Int} (h : may ⟨2, a, x, d, c, s, e, t, o, l, z⟩ = true) (r : List UInt8) : rd 2 (bodyL ⟨2, a, x, d, c, s, e, t, o, l, z⟩ ++ r) = ⟨2, a, x, d, c, s, e, t, o, l, z⟩ := by
  have q := may_k h 2 rfl (by decide) (by decide)
  rw [hold_iff] at q
  obtain ⟨ha, hx, hd, hc, hs, he, ht, ho, hl, hli, hz, hzi⟩ := q
  obtain rfl : a = ⟨#[]⟩ := nmB_no ha
  obtain rfl : x = ⟨#[]⟩ := size0 (txB_size hx)
  have kd : (1 : Int) ≤ d.size ∧ (d.size : Int) ≤ 256 := hd
  obtain rfl : c = 0 := int0 hc
  obtain rfl : s = 0 := int0 hs
  obtain rfl : e = 0 := int0 he
  obtain rfl : t = 0 := int0 ht
  obtain rfl : o = false := bool0 ho
  obtain rfl : l = [] := len0 hl.2
  obtain rfl : z = [] := len0 hz.2
  rw [rd_of 2 _ 2 rfl (by decide) (by decide), bodyL_of _ 2 rfl (by decide) (by decide)]
  have ef : bodyN ⟨2, ⟨#[]⟩, ⟨#[]⟩, d, 0, 0, 0, 0, false, [], []⟩ 2 ++ r = numL' 1 4 ++ (valL 6 d ++ r) := by
    show (numL' 1 4 ++ valL 6 d) ++ r = _
    simp only [List.append_assoc]
  rw [ef]
  have p0 := rnum_four (x := 1) (by decide) (by decide) (valL 6 d ++ r)
  have p1 := rval_put (t := 6) (v := d) (by decide) (by decide) (by omega) r
  show ({ nK 2 with d := rval 6 ((numL' 1 4 ++ (valL 6 d ++ r)).drop 4) } : Nt) = _
  simp only [p0.2, p1.1]
  rfl
set_option maxRecDepth 100000 in
theorem rdb_4 {a x d : ByteArray} {c s e t : Int} {o : Bool} {l : List It} {z : List Int} (h : may ⟨4, a, x, d, c, s, e, t, o, l, z⟩ = true) (r : List UInt8) : rd 4 (bodyL ⟨4, a, x, d, c, s, e, t, o, l, z⟩ ++ r) = ⟨4, a, x, d, c, s, e, t, o, l, z⟩ := by
  have q := may_k h 4 rfl (by decide) (by decide)
  rw [hold_iff] at q
  obtain ⟨ha, hx, hd, hc, hs, he, ht, ho, hl, hli, hz, hzi⟩ := q
  obtain rfl : a = ⟨#[]⟩ := nmB_no ha
  obtain rfl : x = ⟨#[]⟩ := size0 (txB_size hx)
  obtain rfl : d = ⟨#[]⟩ := size0 hd.2
  obtain rfl : c = 0 := int0 hc
  obtain rfl : s = 0 := int0 hs
  obtain rfl : e = 0 := int0 he
  obtain rfl : t = 0 := int0 ht
  obtain rfl : o = false := bool0 ho
  obtain rfl : l = [] := len0 hl.2
  obtain rfl : z = [] := len0 hz.2
  rw [rd_of 4 _ 4 rfl (by decide) (by decide), bodyL_of _ 4 rfl (by decide) (by decide)]
  rfl
set_option maxRecDepth 100000 in
theorem rdb_5 {a x d : ByteArray} {c s e t : Int} {o : Bool} {l : List It} {z : List Int} (h : may ⟨5, a, x, d, c, s, e, t, o, l, z⟩ = true) (r : List UInt8) : rd 5 (bodyL ⟨5, a, x, d, c, s, e, t, o, l, z⟩ ++ r) = ⟨5, a, x, d, c, s, e, t, o, l, z⟩ := by
  have q := may_k h 5 rfl (by decide) (by decide)
  rw [hold_iff] at q
  obtain ⟨ha, hx, hd, hc, hs, he, ht, ho, hl, hli, hz, hzi⟩ := q
  have ka : a.size ≤ 16 := nmB_yes ha
  obtain rfl : x = ⟨#[]⟩ := size0 (txB_size hx)
  obtain rfl : d = ⟨#[]⟩ := size0 hd.2
  obtain rfl : c = 0 := int0 hc
  obtain rfl : s = 0 := int0 hs
  obtain rfl : e = 0 := int0 he
  obtain rfl : t = 0 := int0 ht
  obtain rfl : o = false := bool0 ho
  obtain rfl : l = [] := len0 hl.2
  obtain rfl : z = [] := len0 hz.2
  rw [rd_of 5 _ 5 rfl (by decide) (by decide), bodyL_of _ 5 rfl (by decide) (by decide)]
  have ef : bodyN ⟨5, a, ⟨#[]⟩, ⟨#[]⟩, 0, 0, 0, 0, false, [], []⟩ 5 ++ r = valL 1 a ++ r := rfl
  rw [ef]
  have p0 := rval_put (t := 1) (v := a) (by decide) (by decide) (by omega) r
  show ({ nK 5 with n := rval 1 (valL 1 a ++ r) } : Nt) = _
  simp only [p0.1]
  rfl
set_option maxRecDepth 100000 in
theorem rdb_6 {a x d : ByteArray} {c s e t : Int} {o : Bool} {l : List It} {z : List Int} (h : may ⟨6, a, x, d, c, s, e, t, o, l, z⟩ = true) (r : List UInt8) : rd 6 (bodyL ⟨6, a, x, d, c, s, e, t, o, l, z⟩ ++ r) = ⟨6, a, x, d, c, s, e, t, o, l, z⟩ := by
  have q := may_k h 6 rfl (by decide) (by decide)
  rw [hold_iff] at q
  obtain ⟨ha, hx, hd, hc, hs, he, ht, ho, hl, hli, hz, hzi⟩ := q
  obtain rfl : a = ⟨#[]⟩ := nmB_no ha
  obtain rfl : x = ⟨#[]⟩ := size0 (txB_size hx)
  have kd : (1 : Int) ≤ d.size ∧ (d.size : Int) ≤ 64 := hd
  obtain rfl : c = 0 := int0 hc
  obtain rfl : s = 0 := int0 hs
  obtain rfl : e = 0 := int0 he
  obtain rfl : t = 0 := int0 ht
  obtain rfl : o = false := bool0 ho
  obtain rfl : l = [] := len0 hl.2
  obtain rfl : z = [] := len0 hz.2
  rw [rd_of 6 _ 6 rfl (by decide) (by decide), bodyL_of _ 6 rfl (by decide) (by decide)]
  have ef : bodyN ⟨6, ⟨#[]⟩, ⟨#[]⟩, d, 0, 0, 0, 0, false, [], []⟩ 6 ++ r = txtL d 2 ++ r := rfl
  rw [ef]
  have p0 := rtxt_two (s := d) (by omega) r
  show ({ nK 6 with d := rtxt 2 (txtL d 2 ++ r) } : Nt) = _
  simp only [p0.1]
  rfl
set_option maxRecDepth 100000 in
theorem rdb_7 {a x d : ByteArray} {c s e t : Int} {o : Bool} {l : List It} {z : List Int} (h : may ⟨7, a, x, d, c, s, e, t, o, l, z⟩ = true) (r : List UInt8) : rd 7 (bodyL ⟨7, a, x, d, c, s, e, t, o, l, z⟩ ++ r) = ⟨7, a, x, d, c, s, e, t, o, l, z⟩ := by
  have q := may_k h 7 rfl (by decide) (by decide)
  rw [hold_iff] at q
  obtain ⟨ha, hx, hd, hc, hs, he, ht, ho, hl, hli, hz, hzi⟩ := q
  have ka : a.size ≤ 16 := nmB_yes ha
  obtain rfl : x = ⟨#[]⟩ := size0 (txB_size hx)
  have kd : (16 : Int) ≤ d.size ∧ (d.size : Int) ≤ 16 := hd
  obtain rfl : c = 0 := int0 hc
  obtain rfl : s = 0 := int0 hs
  obtain rfl : e = 0 := int0 he
  obtain rfl : t = 0 := int0 ht
  obtain rfl : o = false := bool0 ho
  obtain rfl : l = [] := len0 hl.2
  obtain rfl : z = [] := len0 hz.2
  rw [rd_of 7 _ 7 rfl (by decide) (by decide), bodyL_of _ 7 rfl (by decide) (by decide)]
  have ef : bodyN ⟨7, a, ⟨#[]⟩, d, 0, 0, 0, 0, false, [], []⟩ 7 ++ r = valL 1 a ++ (valL 37 d ++ r) := by
    show (valL 1 a ++ valL 37 d) ++ r = _
    simp only [List.append_assoc]
  rw [ef]
  have p0 := rval_put (t := 1) (v := a) (by decide) (by decide) (by omega) (valL 37 d ++ r)
  have p1 := rval_put (t := 37) (v := d) (by decide) (by decide) (by omega) r
  show ({ nK 7 with n := rval 1 (valL 1 a ++ (valL 37 d ++ r)), d := rval 37 (rvlR 1 (valL 1 a ++ (valL 37 d ++ r))) } : Nt) = _
  simp only [p0.1, p0.2.1, p1.1]
  rfl
set_option maxRecDepth 100000 in
theorem rdb_9 {a x d : ByteArray} {c s e t : Int} {o : Bool} {l : List It} {z : List Int} (h : may ⟨9, a, x, d, c, s, e, t, o, l, z⟩ = true) (r : List UInt8) : rd 9 (bodyL ⟨9, a, x, d, c, s, e, t, o, l, z⟩ ++ r) = ⟨9, a, x, d, c, s, e, t, o, l, z⟩ := by
  have q := may_k h 9 rfl (by decide) (by decide)
  rw [hold_iff] at q
  obtain ⟨ha, hx, hd, hc, hs, he, ht, ho, hl, hli, hz, hzi⟩ := q
  obtain rfl : a = ⟨#[]⟩ := nmB_no ha
  obtain rfl : x = ⟨#[]⟩ := size0 (txB_size hx)
  obtain rfl : d = ⟨#[]⟩ := size0 hd.2
  obtain rfl : c = 0 := int0 hc
  obtain rfl : s = 0 := int0 hs
  obtain rfl : e = 0 := int0 he
  obtain rfl : t = 0 := int0 ht
  obtain rfl : o = false := bool0 ho
  obtain rfl : l = [] := len0 hl.2
  obtain rfl : z = [] := len0 hz.2
  rw [rd_of 9 _ 9 rfl (by decide) (by decide), bodyL_of _ 9 rfl (by decide) (by decide)]
  rfl
set_option maxRecDepth 100000 in
theorem rdb_10 {a x d : ByteArray} {c s e t : Int} {o : Bool} {l : List It} {z : List Int} (h : may ⟨10, a, x, d, c, s, e, t, o, l, z⟩ = true) (r : List UInt8) : rd 10 (bodyL ⟨10, a, x, d, c, s, e, t, o, l, z⟩ ++ r) = ⟨10, a, x, d, c, s, e, t, o, l, z⟩ := by
  have q := may_k h 10 rfl (by decide) (by decide)
  rw [hold_iff] at q
  obtain ⟨ha, hx, hd, hc, hs, he, ht, ho, hl, hli, hz, hzi⟩ := q
  obtain rfl : a = ⟨#[]⟩ := nmB_no ha
  obtain rfl : x = ⟨#[]⟩ := size0 (txB_size hx)
  obtain rfl : d = ⟨#[]⟩ := size0 hd.2
  obtain rfl : c = 0 := int0 hc
  obtain rfl : s = 0 := int0 hs
  obtain rfl : e = 0 := int0 he
  obtain rfl : t = 0 := int0 ht
  obtain rfl : o = false := bool0 ho
  obtain rfl : l = [] := len0 hl.2
  obtain rfl : z = [] := len0 hz.2
  rw [rd_of 10 _ 10 rfl (by decide) (by decide), bodyL_of _ 10 rfl (by decide) (by decide)]
  rfl
set_option maxRecDepth 100000 in
theorem rdb_11 {a x d : ByteArray} {c s e t : Int} {o : Bool} {l : List It} {z : List Int} (h : may ⟨11, a, x, d, c, s, e, t, o, l, z⟩ = true) (r : List UInt8) : rd 11 (bodyL ⟨11, a, x, d, c, s, e, t, o, l, z⟩ ++ r) = ⟨11, a, x, d, c, s, e, t, o, l, z⟩ := by
  have q := may_k h 11 rfl (by decide) (by decide)
  rw [hold_iff] at q
  obtain ⟨ha, hx, hd, hc, hs, he, ht, ho, hl, hli, hz, hzi⟩ := q
  obtain rfl : a = ⟨#[]⟩ := nmB_no ha
  obtain rfl : x = ⟨#[]⟩ := size0 (txB_size hx)
  obtain rfl : d = ⟨#[]⟩ := size0 hd.2
  obtain rfl : c = 0 := int0 hc
  have ks : 0 ≤ s ∧ s ≤ 65535 := hs
  obtain rfl : e = 0 := int0 he
  obtain rfl : t = 0 := int0 ht
  obtain rfl : o = false := bool0 ho
  obtain rfl : l = [] := len0 hl.2
  obtain rfl : z = [] := len0 hz.2
  rw [rd_of 11 _ 11 rfl (by decide) (by decide), bodyL_of _ 11 rfl (by decide) (by decide)]
  have ef : bodyN ⟨11, ⟨#[]⟩, ⟨#[]⟩, ⟨#[]⟩, 0, s, 0, 0, false, [], []⟩ 11 ++ r = valL 6 (intS s 4) ++ r := rfl
  rw [ef]
  have p0 := rval_put (t := 6) (v := intS s 4) (by decide) (by decide) (intS_lt _ _) r
  have n0 := numV_four (x := s) ks.1 (by omega)
  show ({ nK 11 with s := numV (rval 6 (valL 6 (intS s 4) ++ r)) } : Nt) = _
  simp only [p0.1, n0]
  rfl
set_option maxRecDepth 100000 in
theorem rdb_12 {a x d : ByteArray} {c s e t : Int} {o : Bool} {l : List It} {z : List Int} (h : may ⟨12, a, x, d, c, s, e, t, o, l, z⟩ = true) (r : List UInt8) : rd 12 (bodyL ⟨12, a, x, d, c, s, e, t, o, l, z⟩ ++ r) = ⟨12, a, x, d, c, s, e, t, o, l, z⟩ := by
  have q := may_k h 12 rfl (by decide) (by decide)
  rw [hold_iff] at q
  obtain ⟨ha, hx, hd, hc, hs, he, ht, ho, hl, hli, hz, hzi⟩ := q
  obtain rfl : a = ⟨#[]⟩ := nmB_no ha
  obtain rfl : x = ⟨#[]⟩ := size0 (txB_size hx)
  obtain rfl : d = ⟨#[]⟩ := size0 hd.2
  obtain rfl : c = 0 := int0 hc
  obtain rfl : s = 0 := int0 hs
  have ke : 0 ≤ e ∧ e ≤ 4294967295 := he
  obtain rfl : t = 0 := int0 ht
  obtain rfl : o = false := bool0 ho
  obtain rfl : l = [] := len0 hl.2
  obtain rfl : z = [] := len0 hz.2
  rw [rd_of 12 _ 12 rfl (by decide) (by decide), bodyL_of _ 12 rfl (by decide) (by decide)]
  have ef : bodyN ⟨12, ⟨#[]⟩, ⟨#[]⟩, ⟨#[]⟩, 0, 0, e, 0, false, [], []⟩ 12 ++ r = numL' e 4 ++ r := rfl
  rw [ef]
  have p0 := rnum_four (x := e) ke.1 (by omega) r
  show ({ nK 12 with e := rnum 4 (numL' e 4 ++ r) } : Nt) = _
  simp only [p0.1]
  rfl
set_option maxRecDepth 100000 in
theorem rdb_13 {a x d : ByteArray} {c s e t : Int} {o : Bool} {l : List It} {z : List Int} (h : may ⟨13, a, x, d, c, s, e, t, o, l, z⟩ = true) (r : List UInt8) : rd 13 (bodyL ⟨13, a, x, d, c, s, e, t, o, l, z⟩ ++ r) = ⟨13, a, x, d, c, s, e, t, o, l, z⟩ := by
  have q := may_k h 13 rfl (by decide) (by decide)
  rw [hold_iff] at q
  obtain ⟨ha, hx, hd, hc, hs, he, ht, ho, hl, hli, hz, hzi⟩ := q
  have ka : a.size ≤ 16 := nmB_yes ha
  obtain rfl : x = ⟨#[]⟩ := size0 (txB_size hx)
  obtain rfl : d = ⟨#[]⟩ := size0 hd.2
  obtain rfl : c = 0 := int0 hc
  have ks : 0 ≤ s ∧ s ≤ 65535 := hs
  have ke : 0 ≤ e ∧ e ≤ 65535 := he
  obtain rfl : t = 0 := int0 ht
  obtain rfl : o = false := bool0 ho
  obtain rfl : l = [] := len0 hl.2
  obtain rfl : z = [] := len0 hz.2
  rw [rd_of 13 _ 13 rfl (by decide) (by decide), bodyL_of _ 13 rfl (by decide) (by decide)]
  have ef : bodyN ⟨13, a, ⟨#[]⟩, ⟨#[]⟩, 0, s, e, 0, false, [], []⟩ 13 ++ r = txtL a 1 ++ (valL 6 (intS s 4) ++ (valL 4 (intS e 2) ++ r)) := by
    show (txtL a 1 ++ valL 6 (intS s 4) ++ valL 4 (intS e 2)) ++ r = _
    simp only [List.append_assoc]
  rw [ef]
  have p0 := rtxt_one (s := a) (by omega) (valL 6 (intS s 4) ++ (valL 4 (intS e 2) ++ r))
  have p1 := rval_put (t := 6) (v := intS s 4) (by decide) (by decide) (intS_lt _ _) (valL 4 (intS e 2) ++ r)
  have n1 := numV_four (x := s) ks.1 (by omega)
  have p2 := rval_put (t := 4) (v := intS e 2) (by decide) (by decide) (intS_lt _ _) r
  have n2 := numV_two (x := e) ke.1 (by omega)
  show ({ nK 13 with n := rtxt 1 (txtL a 1 ++ (valL 6 (intS s 4) ++ (valL 4 (intS e 2) ++ r))), s := numV (rval 6 (rtxR 1 (txtL a 1 ++ (valL 6 (intS s 4) ++ (valL 4 (intS e 2) ++ r))))), e := numV (rval 4 (rvlR 6 (rtxR 1 (txtL a 1 ++ (valL 6 (intS s 4) ++ (valL 4 (intS e 2) ++ r)))))) } : Nt) = _
  simp only [p0.1, p0.2, p1.1, p1.2.1, n1, p2.1, n2]
  rfl
set_option maxRecDepth 100000 in
theorem rdb_14 {a x d : ByteArray} {c s e t : Int} {o : Bool} {l : List It} {z : List Int} (h : may ⟨14, a, x, d, c, s, e, t, o, l, z⟩ = true) (r : List UInt8) : rd 14 (bodyL ⟨14, a, x, d, c, s, e, t, o, l, z⟩ ++ r) = ⟨14, a, x, d, c, s, e, t, o, l, z⟩ := by
  have q := may_k h 14 rfl (by decide) (by decide)
  rw [hold_iff] at q
  obtain ⟨ha, hx, hd, hc, hs, he, ht, ho, hl, hli, hz, hzi⟩ := q
  have ka : a.size ≤ 16 := nmB_yes ha
  obtain rfl : x = ⟨#[]⟩ := size0 (txB_size hx)
  obtain rfl : d = ⟨#[]⟩ := size0 hd.2
  obtain rfl : c = 0 := int0 hc
  obtain rfl : s = 0 := int0 hs
  obtain rfl : e = 0 := int0 he
  obtain rfl : t = 0 := int0 ht
  obtain rfl : o = false := bool0 ho
  obtain rfl : l = [] := len0 hl.2
  obtain rfl : z = [] := len0 hz.2
  rw [rd_of 14 _ 14 rfl (by decide) (by decide), bodyL_of _ 14 rfl (by decide) (by decide)]
  have ef : bodyN ⟨14, a, ⟨#[]⟩, ⟨#[]⟩, 0, 0, 0, 0, false, [], []⟩ 14 ++ r = txtL a 1 ++ r := rfl
  rw [ef]
  have p0 := rtxt_one (s := a) (by omega) r
  show ({ nK 14 with n := rtxt 1 (txtL a 1 ++ r) } : Nt) = _
  simp only [p0.1]
  rfl
set_option maxRecDepth 100000 in
theorem rdb_15 {a x d : ByteArray} {c s e t : Int} {o : Bool} {l : List It} {z : List Int} (h : may ⟨15, a, x, d, c, s, e, t, o, l, z⟩ = true) (r : List UInt8) : rd 15 (bodyL ⟨15, a, x, d, c, s, e, t, o, l, z⟩ ++ r) = ⟨15, a, x, d, c, s, e, t, o, l, z⟩ := by
  have q := may_k h 15 rfl (by decide) (by decide)
  rw [hold_iff] at q
  obtain ⟨ha, hx, hd, hc, hs, he, ht, ho, hl, hli, hz, hzi⟩ := q
  have ka : a.size ≤ 16 := nmB_yes ha
  have kx : (x.size : Int) ≤ 2000 := txB_size hx
  have kd : (8 : Int) ≤ d.size ∧ (d.size : Int) ≤ 8 := hd
  obtain rfl : c = 0 := int0 hc
  obtain rfl : s = 0 := int0 hs
  obtain rfl : e = 0 := int0 he
  obtain rfl : t = 0 := int0 ht
  obtain rfl : o = false := bool0 ho
  obtain rfl : l = [] := len0 hl.2
  obtain rfl : z = [] := len0 hz.2
  rw [rd_of 15 _ 15 rfl (by decide) (by decide), bodyL_of _ 15 rfl (by decide) (by decide)]
  have ef : bodyN ⟨15, a, x, d, 0, 0, 0, 0, false, [], []⟩ 15 ++ r = d.data.toList ++ (txtL a 1 ++ (valL 2 x ++ r)) := by
    show (d.data.toList ++ txtL a 1 ++ valL 2 x) ++ r = _
    simp only [List.append_assoc]
  rw [ef]
  have hd8 : d.data.toList.length = 8 := by rw [By.len_size]; omega
  have p0 : mk ((d.data.toList ++ (txtL a 1 ++ (valL 2 x ++ r))).take 8) = d ∧ (d.data.toList ++ (txtL a 1 ++ (valL 2 x ++ r))).drop 8 = (txtL a 1 ++ (valL 2 x ++ r)) := ⟨by rw [List.take_left' hd8, mk_self], List.drop_left' hd8⟩
  have p1 := rtxt_one (s := a) (by omega) (valL 2 x ++ r)
  have p2 := rval_put (t := 2) (v := x) (by decide) (by decide) (by omega) r
  show ({ nK 15 with d := mk ((d.data.toList ++ (txtL a 1 ++ (valL 2 x ++ r))).take 8), n := rtxt 1 ((d.data.toList ++ (txtL a 1 ++ (valL 2 x ++ r))).drop 8), x := rval 2 (rtxR 1 ((d.data.toList ++ (txtL a 1 ++ (valL 2 x ++ r))).drop 8)) } : Nt) = _
  simp only [p0.1, p0.2, p1.1, p1.2, p2.1]
  rfl
set_option maxRecDepth 100000 in
theorem rdb_16 {a x d : ByteArray} {c s e t : Int} {o : Bool} {l : List It} {z : List Int} (h : may ⟨16, a, x, d, c, s, e, t, o, l, z⟩ = true) (r : List UInt8) : rd 16 (bodyL ⟨16, a, x, d, c, s, e, t, o, l, z⟩ ++ r) = ⟨16, a, x, d, c, s, e, t, o, l, z⟩ := by
  have q := may_k h 16 rfl (by decide) (by decide)
  rw [hold_iff] at q
  obtain ⟨ha, hx, hd, hc, hs, he, ht, ho, hl, hli, hz, hzi⟩ := q
  have ka : a.size ≤ 16 := nmB_yes ha
  have kx : (x.size : Int) ≤ 2000 := txB_size hx
  have kd : (8 : Int) ≤ d.size ∧ (d.size : Int) ≤ 8 := hd
  obtain rfl : c = 0 := int0 hc
  obtain rfl : s = 0 := int0 hs
  obtain rfl : e = 0 := int0 he
  obtain rfl : t = 0 := int0 ht
  obtain rfl : o = false := bool0 ho
  obtain rfl : l = [] := len0 hl.2
  obtain rfl : z = [] := len0 hz.2
  rw [rd_of 16 _ 16 rfl (by decide) (by decide), bodyL_of _ 16 rfl (by decide) (by decide)]
  have ef : bodyN ⟨16, a, x, d, 0, 0, 0, 0, false, [], []⟩ 16 ++ r = d.data.toList ++ (txtL a 1 ++ (valL 2 x ++ r)) := by
    show (d.data.toList ++ txtL a 1 ++ valL 2 x) ++ r = _
    simp only [List.append_assoc]
  rw [ef]
  have hd8 : d.data.toList.length = 8 := by rw [By.len_size]; omega
  have p0 : mk ((d.data.toList ++ (txtL a 1 ++ (valL 2 x ++ r))).take 8) = d ∧ (d.data.toList ++ (txtL a 1 ++ (valL 2 x ++ r))).drop 8 = (txtL a 1 ++ (valL 2 x ++ r)) := ⟨by rw [List.take_left' hd8, mk_self], List.drop_left' hd8⟩
  have p1 := rtxt_one (s := a) (by omega) (valL 2 x ++ r)
  have p2 := rval_put (t := 2) (v := x) (by decide) (by decide) (by omega) r
  show ({ nK 16 with d := mk ((d.data.toList ++ (txtL a 1 ++ (valL 2 x ++ r))).take 8), n := rtxt 1 ((d.data.toList ++ (txtL a 1 ++ (valL 2 x ++ r))).drop 8), x := rval 2 (rtxR 1 ((d.data.toList ++ (txtL a 1 ++ (valL 2 x ++ r))).drop 8)) } : Nt) = _
  simp only [p0.1, p0.2, p1.1, p1.2, p2.1]
  rfl
set_option maxRecDepth 100000 in
theorem rdb_17 {a x d : ByteArray} {c s e t : Int} {o : Bool} {l : List It} {z : List Int} (h : may ⟨17, a, x, d, c, s, e, t, o, l, z⟩ = true) (r : List UInt8) : rd 17 (bodyL ⟨17, a, x, d, c, s, e, t, o, l, z⟩ ++ r) = ⟨17, a, x, d, c, s, e, t, o, l, z⟩ := by
  have q := may_k h 17 rfl (by decide) (by decide)
  rw [hold_iff] at q
  obtain ⟨ha, hx, hd, hc, hs, he, ht, ho, hl, hli, hz, hzi⟩ := q
  obtain rfl : a = ⟨#[]⟩ := nmB_no ha
  obtain rfl : x = ⟨#[]⟩ := size0 (txB_size hx)
  obtain rfl : d = ⟨#[]⟩ := size0 hd.2
  have kc : 0 ≤ c ∧ c ≤ 65535 := hc
  obtain rfl : s = 0 := int0 hs
  obtain rfl : e = 0 := int0 he
  have kt : 0 ≤ t ∧ t ≤ 4294967295 := ht
  obtain rfl : o = false := bool0 ho
  obtain rfl : l = [] := len0 hl.2
  obtain rfl : z = [] := len0 hz.2
  rw [rd_of 17 _ 17 rfl (by decide) (by decide), bodyL_of _ 17 rfl (by decide) (by decide)]
  have ef : bodyN ⟨17, ⟨#[]⟩, ⟨#[]⟩, ⟨#[]⟩, c, 0, 0, t, false, [], []⟩ 17 ++ r = numL' t 4 ++ (numL' c 2 ++ r) := by
    show (numL' t 4 ++ numL' c 2) ++ r = _
    simp only [List.append_assoc]
  rw [ef]
  have p0 := rnum_four (x := t) kt.1 (by omega) (numL' c 2 ++ r)
  have p1 := rnum_two (x := c) kc.1 (by omega) r
  show ({ nK 17 with t := rnum 4 (numL' t 4 ++ (numL' c 2 ++ r)), c := rnum 2 ((numL' t 4 ++ (numL' c 2 ++ r)).drop 4) } : Nt) = _
  simp only [p0.1, p0.2, p1.1]
  rfl
set_option maxRecDepth 100000 in
theorem rdb_19 {a x d : ByteArray} {c s e t : Int} {o : Bool} {l : List It} {z : List Int} (h : may ⟨19, a, x, d, c, s, e, t, o, l, z⟩ = true) (r : List UInt8) : rd 19 (bodyL ⟨19, a, x, d, c, s, e, t, o, l, z⟩ ++ r) = ⟨19, a, x, d, c, s, e, t, o, l, z⟩ := by
  have q := may_k h 19 rfl (by decide) (by decide)
  rw [hold_iff] at q
  obtain ⟨ha, hx, hd, hc, hs, he, ht, ho, hl, hli, hz, hzi⟩ := q
  obtain rfl : a = ⟨#[]⟩ := nmB_no ha
  obtain rfl : x = ⟨#[]⟩ := size0 (txB_size hx)
  obtain rfl : d = ⟨#[]⟩ := size0 hd.2
  have kc : 0 ≤ c ∧ c ≤ 65535 := hc
  obtain rfl : s = 0 := int0 hs
  obtain rfl : e = 0 := int0 he
  have kt : 0 ≤ t ∧ t ≤ 4294967295 := ht
  obtain rfl : o = false := bool0 ho
  obtain rfl : l = [] := len0 hl.2
  obtain rfl : z = [] := len0 hz.2
  rw [rd_of 19 _ 19 rfl (by decide) (by decide), bodyL_of _ 19 rfl (by decide) (by decide)]
  have ef : bodyN ⟨19, ⟨#[]⟩, ⟨#[]⟩, ⟨#[]⟩, c, 0, 0, t, false, [], []⟩ 19 ++ r = numL' t 4 ++ (numL' c 2 ++ r) := by
    show (numL' t 4 ++ numL' c 2) ++ r = _
    simp only [List.append_assoc]
  rw [ef]
  have p0 := rnum_four (x := t) kt.1 (by omega) (numL' c 2 ++ r)
  have p1 := rnum_two (x := c) kc.1 (by omega) r
  show ({ nK 19 with t := rnum 4 (numL' t 4 ++ (numL' c 2 ++ r)), c := rnum 2 ((numL' t 4 ++ (numL' c 2 ++ r)).drop 4) } : Nt) = _
  simp only [p0.1, p0.2, p1.1]
  rfl
set_option maxRecDepth 100000 in
theorem rdb_23 {a x d : ByteArray} {c s e t : Int} {o : Bool} {l : List It} {z : List Int} (h : may ⟨23, a, x, d, c, s, e, t, o, l, z⟩ = true) (r : List UInt8) : rd 23 (bodyL ⟨23, a, x, d, c, s, e, t, o, l, z⟩ ++ r) = ⟨23, a, x, d, c, s, e, t, o, l, z⟩ := by
  have q := may_k h 23 rfl (by decide) (by decide)
  rw [hold_iff] at q
  obtain ⟨ha, hx, hd, hc, hs, he, ht, ho, hl, hli, hz, hzi⟩ := q
  obtain rfl : a = ⟨#[]⟩ := nmB_no ha
  obtain rfl : x = ⟨#[]⟩ := size0 (txB_size hx)
  obtain rfl : d = ⟨#[]⟩ := size0 hd.2
  obtain rfl : c = 0 := int0 hc
  obtain rfl : s = 0 := int0 hs
  obtain rfl : e = 0 := int0 he
  obtain rfl : t = 0 := int0 ht
  obtain rfl : o = false := bool0 ho
  obtain rfl : l = [] := len0 hl.2
  obtain rfl : z = [] := len0 hz.2
  rw [rd_of 23 _ 23 rfl (by decide) (by decide), bodyL_of _ 23 rfl (by decide) (by decide)]
  rfl
set_option maxRecDepth 100000 in
theorem rdb_24 {a x d : ByteArray} {c s e t : Int} {o : Bool} {l : List It} {z : List Int} (h : may ⟨24, a, x, d, c, s, e, t, o, l, z⟩ = true) (r : List UInt8) : rd 24 (bodyL ⟨24, a, x, d, c, s, e, t, o, l, z⟩ ++ r) = ⟨24, a, x, d, c, s, e, t, o, l, z⟩ := by
  have q := may_k h 24 rfl (by decide) (by decide)
  rw [hold_iff] at q
  obtain ⟨ha, hx, hd, hc, hs, he, ht, ho, hl, hli, hz, hzi⟩ := q
  obtain rfl : a = ⟨#[]⟩ := nmB_no ha
  obtain rfl : x = ⟨#[]⟩ := size0 (txB_size hx)
  obtain rfl : d = ⟨#[]⟩ := size0 hd.2
  obtain rfl : c = 0 := int0 hc
  obtain rfl : s = 0 := int0 hs
  obtain rfl : e = 0 := int0 he
  obtain rfl : t = 0 := int0 ht
  obtain rfl : o = false := bool0 ho
  obtain rfl : l = [] := len0 hl.2
  obtain rfl : z = [] := len0 hz.2
  rw [rd_of 24 _ 24 rfl (by decide) (by decide), bodyL_of _ 24 rfl (by decide) (by decide)]
  rfl
set_option maxRecDepth 100000 in
theorem rdb_26 {a x d : ByteArray} {c s e t : Int} {o : Bool} {l : List It} {z : List Int} (h : may ⟨26, a, x, d, c, s, e, t, o, l, z⟩ = true) (r : List UInt8) : rd 26 (bodyL ⟨26, a, x, d, c, s, e, t, o, l, z⟩ ++ r) = ⟨26, a, x, d, c, s, e, t, o, l, z⟩ := by
  have q := may_k h 26 rfl (by decide) (by decide)
  rw [hold_iff] at q
  obtain ⟨ha, hx, hd, hc, hs, he, ht, ho, hl, hli, hz, hzi⟩ := q
  have ka : a.size ≤ 16 := nmB_yes ha
  have kx : (x.size : Int) ≤ 2000 := txB_size hx
  obtain rfl : d = ⟨#[]⟩ := size0 hd.2
  obtain rfl : c = 0 := int0 hc
  obtain rfl : s = 0 := int0 hs
  obtain rfl : e = 0 := int0 he
  obtain rfl : t = 0 := int0 ht
  obtain rfl : o = false := bool0 ho
  obtain rfl : l = [] := len0 hl.2
  obtain rfl : z = [] := len0 hz.2
  rw [rd_of 26 _ 26 rfl (by decide) (by decide), bodyL_of _ 26 rfl (by decide) (by decide)]
  have ef : bodyN ⟨26, a, x, ⟨#[]⟩, 0, 0, 0, 0, false, [], []⟩ 26 ++ r = txtL a 1 ++ (txtL x 2 ++ r) := by
    show (txtL a 1 ++ txtL x 2) ++ r = _
    simp only [List.append_assoc]
  rw [ef]
  have p0 := rtxt_one (s := a) (by omega) (txtL x 2 ++ r)
  have p1 := rtxt_two (s := x) (by omega) r
  show ({ nK 26 with n := rtxt 1 (txtL a 1 ++ (txtL x 2 ++ r)), x := rtxt 2 (rtxR 1 (txtL a 1 ++ (txtL x 2 ++ r))) } : Nt) = _
  simp only [p0.1, p0.2, p1.1]
  rfl
set_option maxRecDepth 100000 in
theorem rdb_27 {a x d : ByteArray} {c s e t : Int} {o : Bool} {l : List It} {z : List Int} (h : may ⟨27, a, x, d, c, s, e, t, o, l, z⟩ = true) (r : List UInt8) : rd 27 (bodyL ⟨27, a, x, d, c, s, e, t, o, l, z⟩ ++ r) = ⟨27, a, x, d, c, s, e, t, o, l, z⟩ := by
  have q := may_k h 27 rfl (by decide) (by decide)
  rw [hold_iff] at q
  obtain ⟨ha, hx, hd, hc, hs, he, ht, ho, hl, hli, hz, hzi⟩ := q
  have ka : a.size ≤ 16 := nmB_yes ha
  have kx : (x.size : Int) ≤ 2000 := txB_size hx
  obtain rfl : d = ⟨#[]⟩ := size0 hd.2
  obtain rfl : c = 0 := int0 hc
  obtain rfl : s = 0 := int0 hs
  obtain rfl : e = 0 := int0 he
  obtain rfl : t = 0 := int0 ht
  obtain rfl : o = false := bool0 ho
  obtain rfl : l = [] := len0 hl.2
  obtain rfl : z = [] := len0 hz.2
  rw [rd_of 27 _ 27 rfl (by decide) (by decide), bodyL_of _ 27 rfl (by decide) (by decide)]
  have ef : bodyN ⟨27, a, x, ⟨#[]⟩, 0, 0, 0, 0, false, [], []⟩ 27 ++ r = txtL a 1 ++ (txtL x 2 ++ r) := by
    show (txtL a 1 ++ txtL x 2) ++ r = _
    simp only [List.append_assoc]
  rw [ef]
  have p0 := rtxt_one (s := a) (by omega) (txtL x 2 ++ r)
  have p1 := rtxt_two (s := x) (by omega) r
  show ({ nK 27 with n := rtxt 1 (txtL a 1 ++ (txtL x 2 ++ r)), x := rtxt 2 (rtxR 1 (txtL a 1 ++ (txtL x 2 ++ r))) } : Nt) = _
  simp only [p0.1, p0.2, p1.1]
  rfl
set_option maxRecDepth 100000 in
theorem rdb_28 {a x d : ByteArray} {c s e t : Int} {o : Bool} {l : List It} {z : List Int} (h : may ⟨28, a, x, d, c, s, e, t, o, l, z⟩ = true) (r : List UInt8) : rd 28 (bodyL ⟨28, a, x, d, c, s, e, t, o, l, z⟩ ++ r) = ⟨28, a, x, d, c, s, e, t, o, l, z⟩ := by
  have q := may_k h 28 rfl (by decide) (by decide)
  rw [hold_iff] at q
  obtain ⟨ha, hx, hd, hc, hs, he, ht, ho, hl, hli, hz, hzi⟩ := q
  have ka : a.size ≤ 16 := nmB_yes ha
  have kx : (x.size : Int) ≤ 2000 := txB_size hx
  obtain rfl : d = ⟨#[]⟩ := size0 hd.2
  obtain rfl : c = 0 := int0 hc
  obtain rfl : s = 0 := int0 hs
  obtain rfl : e = 0 := int0 he
  obtain rfl : t = 0 := int0 ht
  obtain rfl : l = [] := len0 hl.2
  obtain rfl : z = [] := len0 hz.2
  rw [rd_of 28 _ 28 rfl (by decide) (by decide), bodyL_of _ 28 rfl (by decide) (by decide)]
  have ef : bodyN ⟨28, a, x, ⟨#[]⟩, 0, 0, 0, 0, o, [], []⟩ 28 ++ r = txtL a 1 ++ (numL' (if o = true then 1 else 0) 1 ++ (txtL x 2 ++ r)) := by
    show (txtL a 1 ++ numL' (if o = true then 1 else 0) 1 ++ txtL x 2) ++ r = _
    simp only [List.append_assoc]
  rw [ef]
  have p0 := rtxt_one (s := a) (by omega) (numL' (if o = true then 1 else 0) 1 ++ (txtL x 2 ++ r))
  have p1 := rnum_one (x := if o = true then 1 else 0) (by split <;> decide) (by split <;> decide) (txtL x 2 ++ r)
  have o1 : decide ((if o = true then (1 : Int) else 0) ≠ 0) = o := by cases o <;> rfl
  have p2 := rtxt_two (s := x) (by omega) r
  show ({ nK 28 with n := rtxt 1 (txtL a 1 ++ (numL' (if o = true then 1 else 0) 1 ++ (txtL x 2 ++ r))), o := decide (rnum 1 (rtxR 1 (txtL a 1 ++ (numL' (if o = true then 1 else 0) 1 ++ (txtL x 2 ++ r)))) ≠ 0), x := rtxt 2 ((rtxR 1 (txtL a 1 ++ (numL' (if o = true then 1 else 0) 1 ++ (txtL x 2 ++ r)))).drop 1) } : Nt) = _
  simp only [p0.1, p0.2, p1.1, p1.2, o1, p2.1]
  rfl
set_option maxRecDepth 100000 in
theorem rdb_29 {a x d : ByteArray} {c s e t : Int} {o : Bool} {l : List It} {z : List Int} (h : may ⟨29, a, x, d, c, s, e, t, o, l, z⟩ = true) (r : List UInt8) : rd 29 (bodyL ⟨29, a, x, d, c, s, e, t, o, l, z⟩ ++ r) = ⟨29, a, x, d, c, s, e, t, o, l, z⟩ := by
  have q := may_k h 29 rfl (by decide) (by decide)
  rw [hold_iff] at q
  obtain ⟨ha, hx, hd, hc, hs, he, ht, ho, hl, hli, hz, hzi⟩ := q
  have ka : a.size ≤ 16 := nmB_yes ha
  have kx : (x.size : Int) ≤ 2000 := txB_size hx
  obtain rfl : d = ⟨#[]⟩ := size0 hd.2
  obtain rfl : c = 0 := int0 hc
  obtain rfl : s = 0 := int0 hs
  obtain rfl : e = 0 := int0 he
  obtain rfl : t = 0 := int0 ht
  obtain rfl : l = [] := len0 hl.2
  obtain rfl : z = [] := len0 hz.2
  rw [rd_of 29 _ 29 rfl (by decide) (by decide), bodyL_of _ 29 rfl (by decide) (by decide)]
  have ef : bodyN ⟨29, a, x, ⟨#[]⟩, 0, 0, 0, 0, o, [], []⟩ 29 ++ r = txtL a 1 ++ (numL' (if o = true then 1 else 0) 1 ++ (txtL x 2 ++ r)) := by
    show (txtL a 1 ++ numL' (if o = true then 1 else 0) 1 ++ txtL x 2) ++ r = _
    simp only [List.append_assoc]
  rw [ef]
  have p0 := rtxt_one (s := a) (by omega) (numL' (if o = true then 1 else 0) 1 ++ (txtL x 2 ++ r))
  have p1 := rnum_one (x := if o = true then 1 else 0) (by split <;> decide) (by split <;> decide) (txtL x 2 ++ r)
  have o1 : decide ((if o = true then (1 : Int) else 0) ≠ 0) = o := by cases o <;> rfl
  have p2 := rtxt_two (s := x) (by omega) r
  show ({ nK 29 with n := rtxt 1 (txtL a 1 ++ (numL' (if o = true then 1 else 0) 1 ++ (txtL x 2 ++ r))), o := decide (rnum 1 (rtxR 1 (txtL a 1 ++ (numL' (if o = true then 1 else 0) 1 ++ (txtL x 2 ++ r)))) ≠ 0), x := rtxt 2 ((rtxR 1 (txtL a 1 ++ (numL' (if o = true then 1 else 0) 1 ++ (txtL x 2 ++ r)))).drop 1) } : Nt) = _
  simp only [p0.1, p0.2, p1.1, p1.2, o1, p2.1]
  rfl
set_option maxRecDepth 100000 in
theorem rdb_3 {a x d : ByteArray} {c s e t : Int} {o : Bool} {l : List It} {z : List Int} (h : may ⟨3, a, x, d, c, s, e, t, o, l, z⟩ = true) : rd 3 (bodyL ⟨3, a, x, d, c, s, e, t, o, l, z⟩) = ⟨3, a, x, d, c, s, e, t, o, l, z⟩ := by
  have q := may_k h 3 rfl (by decide) (by decide)
  rw [hold_iff] at q
  obtain ⟨ha, hx, hd, hc, hs, he, ht, ho, hl, hli, hz, hzi⟩ := q
  obtain rfl : a = ⟨#[]⟩ := nmB_no ha
  obtain rfl : x = ⟨#[]⟩ := size0 (txB_size hx)
  obtain rfl : d = ⟨#[]⟩ := size0 hd.2
  have kc : 0 ≤ c ∧ c ≤ 65535 := hc
  obtain rfl : s = 0 := int0 hs
  obtain rfl : e = 0 := int0 he
  obtain rfl : t = 0 := int0 ht
  obtain rfl : o = false := bool0 ho
  obtain rfl : l = [] := len0 hl.2
  obtain rfl : z = [] := len0 hz.2
  rw [rd_of 3 _ 3 rfl (by decide) (by decide), bodyL_of _ 3 rfl (by decide) (by decide)]
  show ({ nK 3 with c := numV (rval 9 (if c = 0 then [] else valL 9 (intS c 2))) } : Nt) = _
  by_cases c0 : c = 0
  · subst c0
    rw [if_pos rfl, (rval_no (hasV_nil (t := 9) (by decide) (by decide))).1, numV_nil]; rfl
  · rw [if_neg c0]
    have p := (rval_put (t := 9) (v := intS c 2) (by decide) (by decide) (intS_lt _ _) []).1
    rw [List.append_nil] at p
    rw [p, numV_two kc.1 (by omega)]; rfl
set_option maxRecDepth 100000 in
theorem rdb_18 {a x d : ByteArray} {c s e t : Int} {o : Bool} {l : List It} {z : List Int} (h : may ⟨18, a, x, d, c, s, e, t, o, l, z⟩ = true) (r : List UInt8) : rd 18 (bodyL ⟨18, a, x, d, c, s, e, t, o, l, z⟩ ++ r) = ⟨18, a, x, d, c, s, e, t, o, l, z⟩ := by
  have q := may_k h 18 rfl (by decide) (by decide)
  rw [hold_iff] at q
  obtain ⟨ha, hx, hd, hc, hs, he, ht, ho, hl, hli, hz, hzi⟩ := q
  obtain rfl : a = ⟨#[]⟩ := nmB_no ha
  obtain rfl : x = ⟨#[]⟩ := size0 (txB_size hx)
  obtain rfl : d = ⟨#[]⟩ := size0 hd.2
  obtain rfl : c = 0 := int0 hc
  obtain rfl : s = 0 := int0 hs
  obtain rfl : e = 0 := int0 he
  have kt : 0 ≤ t ∧ t ≤ 4294967295 := ht
  obtain rfl : o = false := bool0 ho
  have kl : (0 : Int) ≤ l.length ∧ (l.length : Int) ≤ 100 := hl
  have klm := items_in (l := l) hli
  obtain rfl : z = [] := len0 hz.2
  rw [rd_of 18 _ 18 rfl (by decide) (by decide), bodyL_of _ 18 rfl (by decide) (by decide)]
  have ef : bodyN ⟨18, ⟨#[]⟩, ⟨#[]⟩, ⟨#[]⟩, 0, 0, 0, t, false, l, []⟩ 18 ++ r = numL' l.length 2 ++ (itsL l ++ (numL' t 4 ++ r)) := by
    show (numL' l.length 2 ++ itsL l ++ numL' t 4) ++ r = _
    simp only [List.append_assoc]
  rw [ef]
  have p := rnum_two (x := l.length) (by omega) (by omega) (itsL l ++ (numL' t 4 ++ r))
  have q := rdIts_put (l := l) klm (numL' t 4 ++ r)
  have u := rnum_four (x := t) kt.1 (by omega) r
  show ({ nK 18 with l := rdIts (rnum 2 (numL' l.length 2 ++ (itsL l ++ (numL' t 4 ++ r)))).toNat ((numL' l.length 2 ++ (itsL l ++ (numL' t 4 ++ r))).drop 2), t := rnum 4 (rdItsR (rnum 2 (numL' l.length 2 ++ (itsL l ++ (numL' t 4 ++ r)))).toNat ((numL' l.length 2 ++ (itsL l ++ (numL' t 4 ++ r))).drop 2)) } : Nt) = _
  rw [p.1, p.2, Int.toNat_natCast, q.1, q.2, u.1]; rfl
set_option maxRecDepth 100000 in
theorem rdb_20 {a x d : ByteArray} {c s e t : Int} {o : Bool} {l : List It} {z : List Int} (h : may ⟨20, a, x, d, c, s, e, t, o, l, z⟩ = true) : rd 20 (bodyL ⟨20, a, x, d, c, s, e, t, o, l, z⟩) = ⟨20, a, x, d, c, s, e, t, o, l, z⟩ := by
  have q := may_k h 20 rfl (by decide) (by decide)
  rw [hold_iff] at q
  obtain ⟨ha, hx, hd, hc, hs, he, ht, ho, hl, hli, hz, hzi⟩ := q
  obtain rfl : a = ⟨#[]⟩ := nmB_no ha
  obtain rfl : x = ⟨#[]⟩ := size0 (txB_size hx)
  obtain rfl : d = ⟨#[]⟩ := size0 hd.2
  obtain rfl : c = 0 := int0 hc
  obtain rfl : s = 0 := int0 hs
  obtain rfl : e = 0 := int0 he
  obtain rfl : t = 0 := int0 ht
  obtain rfl : o = false := bool0 ho
  have kl : (1 : Int) ≤ l.length ∧ (l.length : Int) ≤ 100 := hl
  have klm := items_in (l := l) hli
  obtain rfl : z = [] := len0 hz.2
  rw [rd_of 20 _ 20 rfl (by decide) (by decide), bodyL_of _ 20 rfl (by decide) (by decide)]
  show ({ nK 20 with l := rdIts 100 (itsL l) } : Nt) = _
  rw [rdIts_all 100 klm (by omega)]; rfl
set_option maxRecDepth 100000 in
theorem rdb_21 {a x d : ByteArray} {c s e t : Int} {o : Bool} {l : List It} {z : List Int} (h : may ⟨21, a, x, d, c, s, e, t, o, l, z⟩ = true) : rd 21 (bodyL ⟨21, a, x, d, c, s, e, t, o, l, z⟩) = ⟨21, a, x, d, c, s, e, t, o, l, z⟩ := by
  have q := may_k h 21 rfl (by decide) (by decide)
  rw [hold_iff] at q
  obtain ⟨ha, hx, hd, hc, hs, he, ht, ho, hl, hli, hz, hzi⟩ := q
  obtain rfl : a = ⟨#[]⟩ := nmB_no ha
  obtain rfl : x = ⟨#[]⟩ := size0 (txB_size hx)
  obtain rfl : d = ⟨#[]⟩ := size0 hd.2
  obtain rfl : c = 0 := int0 hc
  obtain rfl : s = 0 := int0 hs
  obtain rfl : e = 0 := int0 he
  obtain rfl : t = 0 := int0 ht
  obtain rfl : o = false := bool0 ho
  have kl : (1 : Int) ≤ l.length ∧ (l.length : Int) ≤ 100 := hl
  have klm := items_in (l := l) hli
  obtain rfl : z = [] := len0 hz.2
  rw [rd_of 21 _ 21 rfl (by decide) (by decide), bodyL_of _ 21 rfl (by decide) (by decide)]
  show ({ nK 21 with l := rdIts 100 (itsL l) } : Nt) = _
  rw [rdIts_all 100 klm (by omega)]; rfl
set_option maxRecDepth 100000 in
theorem rdb_22 {a x d : ByteArray} {c s e t : Int} {o : Bool} {l : List It} {z : List Int} (h : may ⟨22, a, x, d, c, s, e, t, o, l, z⟩ = true) : rd 22 (bodyL ⟨22, a, x, d, c, s, e, t, o, l, z⟩) = ⟨22, a, x, d, c, s, e, t, o, l, z⟩ := by
  have q := may_k h 22 rfl (by decide) (by decide)
  rw [hold_iff] at q
  obtain ⟨ha, hx, hd, hc, hs, he, ht, ho, hl, hli, hz, hzi⟩ := q
  obtain rfl : a = ⟨#[]⟩ := nmB_no ha
  obtain rfl : x = ⟨#[]⟩ := size0 (txB_size hx)
  obtain rfl : d = ⟨#[]⟩ := size0 hd.2
  obtain rfl : c = 0 := int0 hc
  obtain rfl : s = 0 := int0 hs
  obtain rfl : e = 0 := int0 he
  obtain rfl : t = 0 := int0 ht
  obtain rfl : o = false := bool0 ho
  have kl : (1 : Int) ≤ l.length ∧ (l.length : Int) ≤ 100 := hl
  have klm := items_in (l := l) hli
  obtain rfl : z = [] := len0 hz.2
  rw [rd_of 22 _ 22 rfl (by decide) (by decide), bodyL_of _ 22 rfl (by decide) (by decide)]
  show ({ nK 22 with l := rdIts 100 (itsL l) } : Nt) = _
  rw [rdIts_all 100 klm (by omega)]; rfl
set_option maxRecDepth 100000 in
theorem rdb_25 {a x d : ByteArray} {c s e t : Int} {o : Bool} {l : List It} {z : List Int} (h : may ⟨25, a, x, d, c, s, e, t, o, l, z⟩ = true) : rd 25 (bodyL ⟨25, a, x, d, c, s, e, t, o, l, z⟩) = ⟨25, a, x, d, c, s, e, t, o, l, z⟩ := by
  have q := may_k h 25 rfl (by decide) (by decide)
  rw [hold_iff] at q
  obtain ⟨ha, hx, hd, hc, hs, he, ht, ho, hl, hli, hz, hzi⟩ := q
  obtain rfl : a = ⟨#[]⟩ := nmB_no ha
  obtain rfl : x = ⟨#[]⟩ := size0 (txB_size hx)
  obtain rfl : d = ⟨#[]⟩ := size0 hd.2
  obtain rfl : c = 0 := int0 hc
  obtain rfl : s = 0 := int0 hs
  obtain rfl : e = 0 := int0 he
  obtain rfl : t = 0 := int0 ht
  obtain rfl : o = false := bool0 ho
  obtain rfl : l = [] := len0 hl.2
  have kz : (1 : Int) ≤ z.length ∧ (z.length : Int) ≤ 100 := hz
  have kzm := codes_in (z := z) hzi
  rw [rd_of 25 _ 25 rfl (by decide) (by decide), bodyL_of _ 25 rfl (by decide) (by decide)]
  show ({ nK 25 with z := rdCds (cdsL z).length (cdsL z) } : Nt) = _
  rw [rdCds_put kzm _ (cdsL_ge kzm)]; rfl
/-- A letter's answer: what it holds is one of the two. -/
theorem letB_two {a x d : ByteArray} {k c s e t : Int} {o : Bool} {l : List It} {z : List Int} (h : letB ⟨k, a, x, d, c, s, e, t, o, l, z⟩ = true) : (d.size = 0 ∧ c ≠ 0) ∨ (d.size ≠ 0 ∧ c = 0) := by
  unfold letB at h
  show (d.size = 0 ∧ c ≠ 0) ∨ (d.size ≠ 0 ∧ c = 0)
  by_cases h1 : d.size = 0 <;> by_cases h2 : c = 0
  · rw [show decide (({ k := k, n := a, x := x, d := d, c := c, s := s, e := e, t := t, o := o, l := l, z := z } : Nt).d.size ≠ 0) = false from decide_eq_false (fun q => q h1), show decide (({ k := k, n := a, x := x, d := d, c := c, s := s, e := e, t := t, o := o, l := l, z := z } : Nt).c ≠ 0) = false from decide_eq_false (fun q => q h2)] at h
    cases h
  · exact Or.inl ⟨h1, h2⟩
  · exact Or.inr ⟨h1, h2⟩
  · rw [show decide (({ k := k, n := a, x := x, d := d, c := c, s := s, e := e, t := t, o := o, l := l, z := z } : Nt).d.size ≠ 0) = true from decide_eq_true h1, show decide (({ k := k, n := a, x := x, d := d, c := c, s := s, e := e, t := t, o := o, l := l, z := z } : Nt).c ≠ 0) = true from decide_eq_true h2] at h
    cases h
set_option maxRecDepth 100000 in
theorem rdb_8c {a x d : ByteArray} {c s e t : Int} {o : Bool} {l : List It} {z : List Int} (h : may ⟨8, a, x, d, c, s, e, t, o, l, z⟩ = true) (hz : d.size = 0) (r : List UInt8) : rd 8 (bodyL ⟨8, a, x, d, c, s, e, t, o, l, z⟩ ++ r) = ⟨8, a, x, d, c, s, e, t, o, l, z⟩ := by
  have q := may_k h 8 rfl (by decide) (by decide)
  rw [hold_iff] at q
  obtain ⟨ha, hx, hd, hc, hs, he, ht, ho, hl, hli, hz', hzi⟩ := q
  have ka : a.size ≤ 16 := nmB_yes ha
  obtain rfl : x = ⟨#[]⟩ := size0 (txB_size hx)
  have kd : (0 : Int) ≤ d.size ∧ (d.size : Int) ≤ 256 := hd
  have kc : 0 ≤ c ∧ c ≤ 65535 := hc
  obtain rfl : s = 0 := int0 hs
  obtain rfl : e = 0 := int0 he
  obtain rfl : t = 0 := int0 ht
  obtain rfl : o = false := bool0 ho
  obtain rfl : l = [] := len0 hl.2
  obtain rfl : z = [] := len0 hz'.2
  have ef : bodyN ⟨8, a, ⟨#[]⟩, d, c, 0, 0, 0, false, [], []⟩ 8 ++ r = (valL 1 a ++ (valL 8 (intS c 2) ++ r)) := by
    show (valL 1 a ++ (if d.size = 0 then valL 8 (intS c 2) else valL 6 d)) ++ r = _
    rw [if_pos hz, List.append_assoc]
  rw [rd_of 8 _ 8 rfl (by decide) (by decide), bodyL_of _ 8 rfl (by decide) (by decide)]
  rw [ef]
  have p := rval_put (t := 1) (v := a) (by decide) (by decide) (by omega) (valL 8 (intS c 2) ++ r)
  have q := rval_put (t := 8) (v := intS c 2) (by decide) (by decide) (intS_lt _ _) r
  have u := rval_no (hasV_other (t := 6) (u := 8) (v := intS c 2) (by decide) (by decide) (by decide) (by decide) (intS_lt _ _) (by decide) r)
  obtain rfl : d = ⟨#[]⟩ := By.empty_of hz
  show ({ nK 8 with n := rval 1 (valL 1 a ++ (valL 8 (intS c 2) ++ r)), d := rval 6 (rvlR 1 (valL 1 a ++ (valL 8 (intS c 2) ++ r))), c := numV (rval 8 (rvlR 6 (rvlR 1 (valL 1 a ++ (valL 8 (intS c 2) ++ r))))) } : Nt) = _
  rw [p.1, p.2.1, u.1, u.2, q.1, numV_two kc.1 (by omega)]; rfl
set_option maxRecDepth 100000 in
theorem rdb_8d {a x d : ByteArray} {c s e t : Int} {o : Bool} {l : List It} {z : List Int} (h : may ⟨8, a, x, d, c, s, e, t, o, l, z⟩ = true) (hz : d.size ≠ 0) (r : List UInt8) : (rd 8 (bodyL ⟨8, a, x, d, c, s, e, t, o, l, z⟩ ++ r)).n = a ∧ (rd 8 (bodyL ⟨8, a, x, d, c, s, e, t, o, l, z⟩ ++ r)).d = d ∧ (r = [] → rd 8 (bodyL ⟨8, a, x, d, c, s, e, t, o, l, z⟩ ++ r) = ⟨8, a, x, d, c, s, e, t, o, l, z⟩) := by
  have h2 := (may_iff.1 h).2.2 rfl
  have q := may_k h 8 rfl (by decide) (by decide)
  rw [hold_iff] at q
  obtain ⟨ha, hx, hd, hc, hs, he, ht, ho, hl, hli, hz', hzi⟩ := q
  have ka : a.size ≤ 16 := nmB_yes ha
  obtain rfl : x = ⟨#[]⟩ := size0 (txB_size hx)
  have kd : (0 : Int) ≤ d.size ∧ (d.size : Int) ≤ 256 := hd
  have kc : 0 ≤ c ∧ c ≤ 65535 := hc
  obtain rfl : s = 0 := int0 hs
  obtain rfl : e = 0 := int0 he
  obtain rfl : t = 0 := int0 ht
  obtain rfl : o = false := bool0 ho
  obtain rfl : l = [] := len0 hl.2
  obtain rfl : z = [] := len0 hz'.2
  have ef : bodyN ⟨8, a, ⟨#[]⟩, d, c, 0, 0, 0, false, [], []⟩ 8 ++ r = (valL 1 a ++ (valL 6 d ++ r)) := by
    show (valL 1 a ++ (if d.size = 0 then valL 8 (intS c 2) else valL 6 d)) ++ r = _
    rw [if_neg hz, List.append_assoc]
  rw [rd_of 8 _ 8 rfl (by decide) (by decide), bodyL_of _ 8 rfl (by decide) (by decide)]
  rw [ef]
  have p := rval_put (t := 1) (v := a) (by decide) (by decide) (by omega) (valL 6 d ++ r)
  have q := rval_put (t := 6) (v := d) (by decide) (by decide) (by omega) r
  obtain rfl : c = 0 := by
    rcases letB_two h2 with y | y
    · exact absurd y.1 hz
    · exact y.2
  have g : rdN 8 (valL 1 a ++ (valL 6 d ++ r)) 8 = ⟨8, a, ⟨#[]⟩, d, numV (rval 8 (rvlR 6 (valL 6 d ++ r))), 0, 0, 0, false, [], []⟩ := by
    show ({ nK 8 with n := rval 1 (valL 1 a ++ (valL 6 d ++ r)), d := rval 6 (rvlR 1 (valL 1 a ++ (valL 6 d ++ r))), c := numV (rval 8 (rvlR 6 (rvlR 1 (valL 1 a ++ (valL 6 d ++ r))))) } : Nt) = _
    rw [p.1, p.2.1, q.1]; rfl
  refine ⟨by rw [g], by rw [g], ?_⟩
  · rintro rfl
    show ({ nK 8 with n := rval 1 (valL 1 a ++ (valL 6 d ++ [])), d := rval 6 (rvlR 1 (valL 1 a ++ (valL 6 d ++ []))), c := numV (rval 8 (rvlR 6 (rvlR 1 (valL 1 a ++ (valL 6 d ++ []))))) } : Nt) = _
    rw [p.1, p.2.1, q.1, q.2.1, (rval_no (hasV_nil (t := 8) (by decide) (by decide))).1, numV_nil]; rfl
theorem k_lit {k : Int} (h : isK k = true) : ∃ K : Nat, k = K ∧ 1 ≤ K ∧ K ≤ 29 := by
  unfold isK at h
  rw [Bool.and_eq_true, decide_eq_true_eq, decide_eq_true_eq] at h
  exact ⟨k.toNat, by omega, by omega, by omega⟩
/-- What was put is read as it was. -/
theorem rd_back {n : Nt} (h : may n = true) : rd n.k (bodyL n) = n := by
  obtain ⟨K, hK, h1, h2⟩ := k_lit (may_iff.1 h).1
  obtain ⟨k, a, x, d, c, s, e, t, o, l, z⟩ := n
  subst hK
  have g : ∀ (k : Int) (m : Nt), (∀ r, rd k (bodyL m ++ r) = m) → rd k (bodyL m) = m := fun k m q => by have := q []; rwa [List.append_nil] at this
  show rd (K : Int) _ = _
  have hC : K = 1 ∨ K = 2 ∨ K = 3 ∨ K = 4 ∨ K = 5 ∨ K = 6 ∨ K = 7 ∨ K = 8 ∨ K = 9 ∨ K = 10 ∨ K = 11 ∨ K = 12 ∨ K = 13 ∨ K = 14 ∨ K = 15 ∨ K = 16 ∨ K = 17 ∨ K = 18 ∨ K = 19 ∨ K = 20 ∨ K = 21 ∨ K = 22 ∨ K = 23 ∨ K = 24 ∨ K = 25 ∨ K = 26 ∨ K = 27 ∨ K = 28 ∨ K = 29 := by omega
  rcases hC with rfl | rfl | rfl | rfl | rfl | rfl | rfl | rfl | rfl | rfl | rfl | rfl | rfl | rfl | rfl | rfl | rfl | rfl | rfl | rfl | rfl | rfl | rfl | rfl | rfl | rfl | rfl | rfl | rfl
  · exact g _ _ (rdb_1 h)
  · exact g _ _ (rdb_2 h)
  · exact rdb_3 h
  · exact g _ _ (rdb_4 h)
  · exact g _ _ (rdb_5 h)
  · exact g _ _ (rdb_6 h)
  · exact g _ _ (rdb_7 h)
  · by_cases hz : d.size = 0
    · exact g _ _ (rdb_8c h hz)
    · have := (rdb_8d h hz []).2.2 rfl
      rwa [List.append_nil] at this
  · exact g _ _ (rdb_9 h)
  · exact g _ _ (rdb_10 h)
  · exact g _ _ (rdb_11 h)
  · exact g _ _ (rdb_12 h)
  · exact g _ _ (rdb_13 h)
  · exact g _ _ (rdb_14 h)
  · exact g _ _ (rdb_15 h)
  · exact g _ _ (rdb_16 h)
  · exact g _ _ (rdb_17 h)
  · exact g _ _ (rdb_18 h)
  · exact g _ _ (rdb_19 h)
  · exact rdb_20 h
  · exact rdb_21 h
  · exact rdb_22 h
  · exact g _ _ (rdb_23 h)
  · exact g _ _ (rdb_24 h)
  · exact rdb_25 h
  · exact g _ _ (rdb_26 h)
  · exact g _ _ (rdb_27 h)
  · exact g _ _ (rdb_28 h)
  · exact g _ _ (rdb_29 h)
/-- And whatever is behind it. -/
theorem rd_pre {n : Nt} (h : may n = true) (h3 : n.k ≠ 3) (h8 : n.k ≠ 8) (h20 : n.k ≠ 20) (h21 : n.k ≠ 21) (h22 : n.k ≠ 22) (h25 : n.k ≠ 25) (r : List UInt8) : rd n.k (bodyL n ++ r) = n := by
  obtain ⟨K, hK, h1, h2⟩ := k_lit (may_iff.1 h).1
  obtain ⟨k, a, x, d, c, s, e, t, o, l, z⟩ := n
  subst hK
  show rd (K : Int) _ = _
  have hC : K = 1 ∨ K = 2 ∨ K = 3 ∨ K = 4 ∨ K = 5 ∨ K = 6 ∨ K = 7 ∨ K = 8 ∨ K = 9 ∨ K = 10 ∨ K = 11 ∨ K = 12 ∨ K = 13 ∨ K = 14 ∨ K = 15 ∨ K = 16 ∨ K = 17 ∨ K = 18 ∨ K = 19 ∨ K = 20 ∨ K = 21 ∨ K = 22 ∨ K = 23 ∨ K = 24 ∨ K = 25 ∨ K = 26 ∨ K = 27 ∨ K = 28 ∨ K = 29 := by omega
  rcases hC with rfl | rfl | rfl | rfl | rfl | rfl | rfl | rfl | rfl | rfl | rfl | rfl | rfl | rfl | rfl | rfl | rfl | rfl | rfl | rfl | rfl | rfl | rfl | rfl | rfl | rfl | rfl | rfl | rfl
  · exact rdb_1 h r
  · exact rdb_2 h r
  · exact absurd rfl h3
  · exact rdb_4 h r
  · exact rdb_5 h r
  · exact rdb_6 h r
  · exact rdb_7 h r
  · exact absurd rfl h8
  · exact rdb_9 h r
  · exact rdb_10 h r
  · exact rdb_11 h r
  · exact rdb_12 h r
  · exact rdb_13 h r
  · exact rdb_14 h r
  · exact rdb_15 h r
  · exact rdb_16 h r
  · exact rdb_17 h r
  · exact rdb_18 h r
  · exact rdb_19 h r
  · exact absurd rfl h20
  · exact absurd rfl h21
  · exact absurd rfl h22
  · exact rdb_23 h r
  · exact rdb_24 h r
  · exact absurd rfl h25
  · exact rdb_26 h r
  · exact rdb_27 h r
  · exact rdb_28 h r
  · exact rdb_29 h r
end Go.Proofs.YtclkehfnakhljaaDoor.T
