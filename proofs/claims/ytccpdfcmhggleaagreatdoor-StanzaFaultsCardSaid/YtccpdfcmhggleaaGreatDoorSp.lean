/- The contract of stanza.Read: the stanza that an element tells. Condition: an element of at most 18000 letters. -/
import Derived.Test.YtccpdfcmhggleaaGreatDoorSo
import Derived.Test.YtccpdfcmhggleaaGreatDoorSm
namespace Go.Proofs.YtccpdfcmhggleaaGreatDoor
open Go.RowKit Go.Lib Go.Shelf Tg St

/-- What Read gives. -/
def RdP (o : Option S) (w : World) (e : Ending) (w' : World) : Prop := (match o with
  | none => e = .returned (.tuple #[.agg stZ, .int .i64 90])
  | some s => ∃ a c, e = .returned (.tuple #[.agg (stC s a c), .int .i64 0]) ∧ KsS (fun b => w.heap.size ≤ b) w' a s.ld) ∧ Below w.heap.size w w'
theorem pj_parts (o : Option Jd.J) : ∃ f1 f2 f3 z, Jn.pj o = .tuple #[.agg #[.string f1, .string f2, .string f3], .int .i64 z] ∧ (o = none → z = 30) ∧ (∀ j, o = some j → f1 = Jn.mk j.n ∧ f2 = Jn.mk j.d ∧ f3 = Jn.mk j.r ∧ z = 0) := by
  cases o with
  | none => exact ⟨_, _, _, _, rfl, fun _ => rfl, fun j h => by cases h⟩
  | some j => exact ⟨_, _, _, _, rfl, (fun h => by cases h), fun k h => by cases h; exact ⟨rfl, rfl, rfl, rfl⟩⟩
theorem rd_none {e : El} (h : eqb e.sp SP = false ∨ Jd.ps (attrV e.atr aFrom).data.toList = none ∨ Jd.ps (attrV e.atr aTo).data.toList = none ∨ (e.atr.any fun a => strange a.1) = true) : rd e = none := by
  unfold rd
  split
  · rename_i f t hf ht
    rcases h with h | h | h | h
    · rw [if_pos (by rw [h]; rfl)]
    · rw [h] at hf; cases hf
    · rw [h] at ht; cases ht
    · rw [if_pos (by rw [h]; simp)]
  · rfl
theorem rd_then {e : El} {f t : Jd.J} (h1 : eqb e.sp SP = true) (h2 : Jd.ps (attrV e.atr aFrom).data.toList = some f) (h3 : Jd.ps (attrV e.atr aTo).data.toList = some t) (h4 : (e.atr.any fun a => strange a.1) = false) :
    rd e = if okS (withKids (bare e (.of f) (.of t)) e.ks) = true then some (withKids (bare e (.of f) (.of t)) e.ks) else none := by
  unfold rd
  rw [h2, h3]
  simp only
  rw [if_neg (by rw [h1, h4]; decide)]
/-- What the operations give that put the stanza together. -/
def psR (w : World) (e : El) (aA aK : Option Addr) (cA cK : Nat) (f1 f2 f3 t1 t2 t3 : ByteArray) (N : Nat) (j : Nat) (v : Value) (W : World) : Prop := match j with
  | 0 => v = .pointer (some ⟨w.heap.size, 1, none⟩)
  | 1 => v = .string e.nm
  | 2 => v = .int .i64 (kindOf e.nm)
  | 3 => v = .agg #[.string e.sp, .string e.nm, .slice aA e.atr.length cA, .string e.tx, .slice aK e.ks.length cK]
  | 4 => v = .string (attrV e.atr aType)
  | 5 => v = .agg #[.string f1, .string f2, .string f3]
  | 6 => v = .agg #[.string t1, .string t2, .string t3]
  | 7 => v = .agg #[.string e.sp, .string e.nm, .slice aA e.atr.length cA, .string e.tx, .slice aK e.ks.length cK]
  | 8 => v = .string (attrV e.atr aId)
  | 9 => v = .agg #[.int .i64 (kindOf e.nm), .string (attrV e.atr aType), .string f1, .string f2, .string f3, .string t1, .string t2, .string t3, .string (attrV e.atr aId), .string ⟨#[]⟩, .string ⟨#[]⟩, .string ⟨#[]⟩, .slice none 0 0, .string ⟨#[]⟩]
  | _ => ∃ P, v = .pointer (some ⟨P, 0, none⟩) ∧ N ≤ P ∧ W.heap[P]? = some (.cells #[.int .i64 0, .string ⟨#[]⟩, .string ⟨#[]⟩, .string ⟨#[]⟩, .string ⟨#[]⟩, .string ⟨#[]⟩, .string ⟨#[]⟩, .string ⟨#[]⟩, .string ⟨#[]⟩, .string ⟨#[]⟩, .string ⟨#[]⟩, .string ⟨#[]⟩, .slice none 0 0, .string ⟨#[]⟩] 26 (0, 0))
theorem psR_mono (w : World) (e : El) (aA aK : Option Addr) (cA cK : Nat) (f1 f2 f3 t1 t2 t3 : ByteArray) (N : Nat) (j : Nat) (v : Value) (W W' : World) (hb : Below W.heap.size W W') (h : psR w e aA aK cA cK f1 f2 f3 t1 t2 t3 N j v W) : psR w e aA aK cA cK f1 f2 f3 t1 t2 t3 N j v W' := by
  unfold psR at h ⊢
  split at h <;> first
    | exact h
    | (obtain ⟨P, h1, h2, h3⟩ := h; exact ⟨P, h1, h2, (hb.block _ (heap_lt h3)).trans h3⟩)
set_option maxRecDepth 100000 in
set_option maxHeartbeats 16000000 in
theorem read_any (e : El) (v : Value) (w : World) (hin : In w.heap.size w e v) (hw : wt e ≤ 18000) :
    Calls Tryz.prog 11 #[v] w (RdP (rd e) w) := by
  obtain ⟨aA, cA, aK, cK, rfl, _, _, hA, hK⟩ := hin.out
  clear hin
  have hwt := wt_eq e
  have hwa : ∀ a ∈ e.atr, a.2.size ≤ 18000 := fun a ha => by have := wtA_mem ha; omega
  have CA := Lib.hid (fun (n : ByteArray) (W : World) (hb : Below w.heap.size w W) => tAttr_any e.sp e.nm e.tx n e.atr aA aK cA e.ks.length cK w.heap.size W (hA.below hb) hb.size (by unfold maxLen; omega) (fun a ha => by have := hwa a ha; omega))
  have CT := Lib.hid (fun (W : World) (hb : Below w.heap.size w W) => CA.out ⟨#[116, 121, 112, 101]⟩ W hb)
  have CI := Lib.hid (fun (W : World) (hb : Below w.heap.size w W) => CA.out ⟨#[105, 100]⟩ W hb)
  have CKN := Lib.hid (fun (W : World) (_ : Below w.heap.size w W) => kindOf_any e.nm W)
  have CX := Lib.hid (fun (W : World) (hb : Below w.heap.size w W) => attrs_any e.atr aA cA w.heap.size W (by omega) (hA.below hb) hb.size)
  have HAS : Hid (∀ n, (attrV e.atr n).size ≤ 1048576) := fun n => by have := attrV_size (b := 18000) hwa n; omega
  have HK := Lib.hid hK
  have HW := Lib.hid hw
  have HWK : Hid (wts e.ks ≤ 20000) := by show _ ≤ _; omega
  generalize hpost : RdP (rd e) w = POST
  have HB0 : Hid (Below w.heap.size w ((w.alloc (.cells #[.string e.sp, .string e.nm, .slice aA e.atr.length cA, .string e.tx, .slice aK e.ks.length cK] 29)).alloc (.cells #[.int .i64 0, .string ⟨#[]⟩, .string ⟨#[]⟩, .string ⟨#[]⟩, .string ⟨#[]⟩, .string ⟨#[]⟩, .string ⟨#[]⟩, .string ⟨#[]⟩, .string ⟨#[]⟩, .string ⟨#[]⟩, .string ⟨#[]⟩, .string ⟨#[]⟩, .slice none 0 0, .string ⟨#[]⟩] 26))) := ((Below.refl _ w).alloc (Nat.le_refl _) _).alloc (by simp) _
  have HX0 : Hid (((w.alloc (.cells #[.string e.sp, .string e.nm, .slice aA e.atr.length cA, .string e.tx, .slice aK e.ks.length cK] 29)).alloc (.cells #[.int .i64 0, .string ⟨#[]⟩, .string ⟨#[]⟩, .string ⟨#[]⟩, .string ⟨#[]⟩, .string ⟨#[]⟩, .string ⟨#[]⟩, .string ⟨#[]⟩, .string ⟨#[]⟩, .string ⟨#[]⟩, .string ⟨#[]⟩, .string ⟨#[]⟩, .slice none 0 0, .string ⟨#[]⟩] 26)).heap[w.heap.size]? = some (.cells #[.string e.sp, .string e.nm, .slice aA e.atr.length cA, .string e.tx, .slice aK e.ks.length cK] 29 (0, 0))) := (Below.heap_alloc _ _ _ (by simp)).trans (box_new w _ _)
  have HY0 : Hid (((w.alloc (.cells #[.string e.sp, .string e.nm, .slice aA e.atr.length cA, .string e.tx, .slice aK e.ks.length cK] 29)).alloc (.cells #[.int .i64 0, .string ⟨#[]⟩, .string ⟨#[]⟩, .string ⟨#[]⟩, .string ⟨#[]⟩, .string ⟨#[]⟩, .string ⟨#[]⟩, .string ⟨#[]⟩, .string ⟨#[]⟩, .string ⟨#[]⟩, .string ⟨#[]⟩, .string ⟨#[]⟩, .slice none 0 0, .string ⟨#[]⟩] 26)).heap[w.heap.size + 1]? = some (.cells #[.int .i64 0, .string ⟨#[]⟩, .string ⟨#[]⟩, .string ⟨#[]⟩, .string ⟨#[]⟩, .string ⟨#[]⟩, .string ⟨#[]⟩, .string ⟨#[]⟩, .string ⟨#[]⟩, .string ⟨#[]⟩, .string ⟨#[]⟩, .string ⟨#[]⟩, .slice none 0 0, .string ⟨#[]⟩] 26 (0, 0))) := box_snd w _ _ _ _
  clear hA hK hw hwt hwa
  go_enter Tryz.func11, Tryz.ntmps11
  go_upto_region 1 with fail
  generalize (w.alloc (.cells #[.string e.sp, .string e.nm, .slice aA e.atr.length cA, .string e.tx, .slice aK e.ks.length cK] 29)).alloc (.cells #[.int .i64 0, .string ⟨#[]⟩, .string ⟨#[]⟩, .string ⟨#[]⟩, .string ⟨#[]⟩, .string ⟨#[]⟩, .string ⟨#[]⟩, .string ⟨#[]⟩, .string ⟨#[]⟩, .string ⟨#[]⟩, .string ⟨#[]⟩, .string ⟨#[]⟩, .slice none 0 0, .string ⟨#[]⟩] 26) = w0 at HB0 HX0 HY0 ⊢
  obtain ⟨x0, x1, x2, x3, x4⟩ := bx5 HX0.out
  go_wp2_with fail
  refine ((CA.out ⟨#[102, 114, 111, 109]⟩ _ HB0.out)).mono ?_
  rintro r v0 ⟨rfl, hb⟩
  have HB0a := Lib.hid (more HB0.out (Nat.le_refl _) hb)
  have HX0a := Lib.hid ((hb.block _ (heap_lt HX0.out)).trans HX0.out)
  have HY0a := Lib.hid ((hb.block _ (heap_lt HY0.out)).trans HY0.out)
  clear hb HB0 HX0 HY0 x0 x1 x2 x3 x4
  go_wp2_with fail
  refine (Jn.parse_any (attrV e.atr ⟨#[102, 114, 111, 109]⟩) _ (HAS.out _)).mono ?_
  rintro r u0 ⟨rfl, hb⟩
  obtain ⟨f1, f2, f3, z1, hfe, hfn, hfs⟩ := pj_parts (Jd.ps (attrV e.atr ⟨#[102, 114, 111, 109]⟩).data.toList)
  have HfN := Lib.hid hfn
  have HfS := Lib.hid hfs
  have HB0b := Lib.hid (more HB0a.out (Nat.le_refl _) hb)
  have HX0b := Lib.hid ((hb.block _ (heap_lt HX0a.out)).trans HX0a.out)
  have HY0b := Lib.hid ((hb.block _ (heap_lt HY0a.out)).trans HY0a.out)
  clear hb HB0a HX0a HY0a hfn hfs
  rw [hfe]
  clear hfe
  have HB1 := Lib.hid (HB0b.out.alloc HB0b.out.size (.cells #[.string f1, .string f2, .string f3] 23))
  have HX1 := Lib.hid ((Below.heap_alloc u0 (.cells #[.string f1, .string f2, .string f3] 23) _ (heap_lt HX0b.out)).trans HX0b.out)
  have HY1 := Lib.hid ((Below.heap_alloc u0 (.cells #[.string f1, .string f2, .string f3] 23) _ (heap_lt HY0b.out)).trans HY0b.out)
  have HT1 := Lib.hid (box_new u0 #[.string f1, .string f2, .string f3] 23)
  go_upto_region 2 with fail
  generalize u0.heap.size = T4 at HT1 ⊢
  generalize u0.alloc (.cells #[.string f1, .string f2, .string f3] 23) = w1 at HB1 HX1 HY1 HT1 ⊢
  clear HB0b HX0b HY0b
  obtain ⟨x0, x1, x2, x3, x4⟩ := bx5 HX1.out
  go_wp2_with fail
  refine ((CA.out ⟨#[116, 111]⟩ _ HB1.out)).mono ?_
  rintro r v1 ⟨rfl, hb⟩
  have HB1a := Lib.hid (more HB1.out (Nat.le_refl _) hb)
  have HX1a := Lib.hid ((hb.block _ (heap_lt HX1.out)).trans HX1.out)
  have HY1a := Lib.hid ((hb.block _ (heap_lt HY1.out)).trans HY1.out)
  have HF1a := Lib.hid ((hb.block _ (heap_lt HT1.out)).trans HT1.out)
  clear hb HB1 HX1 HY1 x0 x1 x2 x3 x4
  go_wp2_with fail
  refine (Jn.parse_any (attrV e.atr ⟨#[116, 111]⟩) _ (HAS.out _)).mono ?_
  rintro r u1 ⟨rfl, hb⟩
  obtain ⟨t1, t2, t3, z2, hte, htn, hts⟩ := pj_parts (Jd.ps (attrV e.atr ⟨#[116, 111]⟩).data.toList)
  have HtN := Lib.hid htn
  have HtS := Lib.hid hts
  have HB1b := Lib.hid (more HB1a.out (Nat.le_refl _) hb)
  have HX1b := Lib.hid ((hb.block _ (heap_lt HX1a.out)).trans HX1a.out)
  have HY1b := Lib.hid ((hb.block _ (heap_lt HY1a.out)).trans HY1a.out)
  have HF1b := Lib.hid ((hb.block _ (heap_lt HF1a.out)).trans HF1a.out)
  clear hb HB1a HX1a HY1a htn hts
  rw [hte]
  clear hte
  have HB2 := Lib.hid (HB1b.out.alloc HB1b.out.size (.cells #[.string t1, .string t2, .string t3] 23))
  have HX2 := Lib.hid ((Below.heap_alloc u1 (.cells #[.string t1, .string t2, .string t3] 23) _ (heap_lt HX1b.out)).trans HX1b.out)
  have HY2 := Lib.hid ((Below.heap_alloc u1 (.cells #[.string t1, .string t2, .string t3] 23) _ (heap_lt HY1b.out)).trans HY1b.out)
  have HT2 := Lib.hid (box_new u1 #[.string t1, .string t2, .string t3] 23)
  have HF2 := Lib.hid ((Below.heap_alloc u1 (.cells #[.string t1, .string t2, .string t3] 23) _ (heap_lt HF1b.out)).trans HF1b.out)
  clear HF1a HT1
  go_upto_region 3 with fail
  generalize u1.heap.size = T6 at HT2 ⊢
  generalize u1.alloc (.cells #[.string t1, .string t2, .string t3] 23) = w2 at HB2 HX2 HY2 HT2 HF2 ⊢
  clear HB1b HX1b HY1b HF1b
  obtain ⟨x0, x1, x2, x3, x4⟩ := bx5 HX2.out
  have HE1 : Hid (eqb e.sp SP = (e.sp.toList == [106, 97, 98, 98, 101, 114, 58, 99, 111, 109, 112, 111, 110, 101, 110, 116, 58, 97, 99, 99, 101, 112, 116])) := by show _ = _; unfold eqb; rw [show SP.toList = [106, 97, 98, 98, 101, 114, 58, 99, 111, 109, 112, 111, 110, 101, 110, 116, 58, 97, 99, 99, 101, 112, 116] by rw [ByteArray.toList_eq]; rfl]
  generalize m1 : (e.sp.toList == [106, 97, 98, 98, 101, 114, 58, 99, 111, 109, 112, 111, 110, 101, 110, 116, 58, 97, 99, 99, 101, 112, 116]) = b1 at HE1
  cases b1 with
  | false =>
    have n1 : ¬ e.sp.toList = [106, 97, 98, 98, 101, 114, 58, 99, 111, 109, 112, 111, 110, 101, 110, 116, 58, 97, 99, 99, 101, 112, 116] := by
      intro h; rw [h] at m1; exact absurd m1 (by decide)
    have p1 : (e.sp.toList != [106, 97, 98, 98, 101, 114, 58, 99, 111, 109, 112, 111, 110, 101, 110, 116, 58, 97, 99, 99, 101, 112, 116]) = true := by rw [bne, m1]; rfl
    obtain ⟨y0, y1, y2, y3, y4, y5, y6, y7, y8, y9, y10, y11, y12, y13⟩ := bx14 HY2.out
    have fq0 := Lib.frozen_of_heap HY2.out 0
    have fq1 := Lib.frozen_of_heap HY2.out 1
    have fq2 := Lib.frozen_of_heap HY2.out 2
    have fq3 := Lib.frozen_of_heap HY2.out 3
    have fq4 := Lib.frozen_of_heap HY2.out 4
    have fq5 := Lib.frozen_of_heap HY2.out 5
    have fq6 := Lib.frozen_of_heap HY2.out 6
    have fq7 := Lib.frozen_of_heap HY2.out 7
    have fq8 := Lib.frozen_of_heap HY2.out 8
    have fq9 := Lib.frozen_of_heap HY2.out 9
    have fq10 := Lib.frozen_of_heap HY2.out 10
    have fq11 := Lib.frozen_of_heap HY2.out 11
    have fq12 := Lib.frozen_of_heap HY2.out 12
    have fq13 := Lib.frozen_of_heap HY2.out 13
    go_wp2_with fail
    obtain ⟨wz, hwz, hz1, hz2, hz3⟩ := st14 (vs := #[Value.int .i64 0, .string ⟨#[]⟩, .string ⟨#[]⟩, .string ⟨#[]⟩, .string ⟨#[]⟩, .string ⟨#[]⟩, .string ⟨#[]⟩, .string ⟨#[]⟩, .string ⟨#[]⟩, .string ⟨#[]⟩, .string ⟨#[]⟩, .string ⟨#[]⟩, .slice none 0 0, .string ⟨#[]⟩]) HY2.out HB2.out (Nat.le_succ _) (Value.int .i64 0) (.string ⟨#[]⟩) (.string ⟨#[]⟩) (.string ⟨#[]⟩) (.string ⟨#[]⟩) (.string ⟨#[]⟩) (.string ⟨#[]⟩) (.string ⟨#[]⟩) (.string ⟨#[]⟩) (.string ⟨#[]⟩) (.string ⟨#[]⟩) (.string ⟨#[]⟩) (.slice none 0 0) (.string ⟨#[]⟩) rfl rfl
    rw [← hwz]
    obtain ⟨q0, q1, q2, q3, q4, q5, q6, q7, q8, q9, q10, q11, q12, q13⟩ := bx14 hz1
    refine bodyPost_ret (v := .tuple #[.agg stZ, .int .i64 90]) (by simp [results, Tryz.results11, go_sem, q0, q1, q2, q3, q4, q5, q6, q7, q8, q9, q10, q11, q12, q13]) rfl ?_
    rw [← hpost, rd_none (.inl HE1.out)]
    exact ⟨rfl, hz3⟩
  | true =>
  have p1 : (e.sp.toList != [106, 97, 98, 98, 101, 114, 58, 99, 111, 109, 112, 111, 110, 101, 110, 116, 58, 97, 99, 99, 101, 112, 116]) = false := by rw [bne, m1]; rfl
  cases hf : Jd.ps (attrV e.atr aFrom).data.toList with
  | none =>
    obtain rfl := HfN.out hf
    obtain ⟨y0, y1, y2, y3, y4, y5, y6, y7, y8, y9, y10, y11, y12, y13⟩ := bx14 HY2.out
    have fq0 := Lib.frozen_of_heap HY2.out 0
    have fq1 := Lib.frozen_of_heap HY2.out 1
    have fq2 := Lib.frozen_of_heap HY2.out 2
    have fq3 := Lib.frozen_of_heap HY2.out 3
    have fq4 := Lib.frozen_of_heap HY2.out 4
    have fq5 := Lib.frozen_of_heap HY2.out 5
    have fq6 := Lib.frozen_of_heap HY2.out 6
    have fq7 := Lib.frozen_of_heap HY2.out 7
    have fq8 := Lib.frozen_of_heap HY2.out 8
    have fq9 := Lib.frozen_of_heap HY2.out 9
    have fq10 := Lib.frozen_of_heap HY2.out 10
    have fq11 := Lib.frozen_of_heap HY2.out 11
    have fq12 := Lib.frozen_of_heap HY2.out 12
    have fq13 := Lib.frozen_of_heap HY2.out 13
    go_wp2_with fail
    obtain ⟨wz, hwz, hz1, hz2, hz3⟩ := st14 (vs := #[Value.int .i64 0, .string ⟨#[]⟩, .string ⟨#[]⟩, .string ⟨#[]⟩, .string ⟨#[]⟩, .string ⟨#[]⟩, .string ⟨#[]⟩, .string ⟨#[]⟩, .string ⟨#[]⟩, .string ⟨#[]⟩, .string ⟨#[]⟩, .string ⟨#[]⟩, .slice none 0 0, .string ⟨#[]⟩]) HY2.out HB2.out (Nat.le_succ _) (Value.int .i64 0) (.string ⟨#[]⟩) (.string ⟨#[]⟩) (.string ⟨#[]⟩) (.string ⟨#[]⟩) (.string ⟨#[]⟩) (.string ⟨#[]⟩) (.string ⟨#[]⟩) (.string ⟨#[]⟩) (.string ⟨#[]⟩) (.string ⟨#[]⟩) (.string ⟨#[]⟩) (.slice none 0 0) (.string ⟨#[]⟩) rfl rfl
    rw [← hwz]
    obtain ⟨q0, q1, q2, q3, q4, q5, q6, q7, q8, q9, q10, q11, q12, q13⟩ := bx14 hz1
    refine bodyPost_ret (v := .tuple #[.agg stZ, .int .i64 90]) (by simp [results, Tryz.results11, go_sem, q0, q1, q2, q3, q4, q5, q6, q7, q8, q9, q10, q11, q12, q13]) rfl ?_
    rw [← hpost, rd_none (.inr (.inl hf))]
    exact ⟨rfl, hz3⟩
  | some jf =>
  obtain ⟨hf1, hf2, hf3, rfl⟩ := HfS.out jf hf
  cases ht : Jd.ps (attrV e.atr aTo).data.toList with
  | none =>
    obtain rfl := HtN.out ht
    obtain ⟨y0, y1, y2, y3, y4, y5, y6, y7, y8, y9, y10, y11, y12, y13⟩ := bx14 HY2.out
    have fq0 := Lib.frozen_of_heap HY2.out 0
    have fq1 := Lib.frozen_of_heap HY2.out 1
    have fq2 := Lib.frozen_of_heap HY2.out 2
    have fq3 := Lib.frozen_of_heap HY2.out 3
    have fq4 := Lib.frozen_of_heap HY2.out 4
    have fq5 := Lib.frozen_of_heap HY2.out 5
    have fq6 := Lib.frozen_of_heap HY2.out 6
    have fq7 := Lib.frozen_of_heap HY2.out 7
    have fq8 := Lib.frozen_of_heap HY2.out 8
    have fq9 := Lib.frozen_of_heap HY2.out 9
    have fq10 := Lib.frozen_of_heap HY2.out 10
    have fq11 := Lib.frozen_of_heap HY2.out 11
    have fq12 := Lib.frozen_of_heap HY2.out 12
    have fq13 := Lib.frozen_of_heap HY2.out 13
    go_wp2_with fail
    obtain ⟨wz, hwz, hz1, hz2, hz3⟩ := st14 (vs := #[Value.int .i64 0, .string ⟨#[]⟩, .string ⟨#[]⟩, .string ⟨#[]⟩, .string ⟨#[]⟩, .string ⟨#[]⟩, .string ⟨#[]⟩, .string ⟨#[]⟩, .string ⟨#[]⟩, .string ⟨#[]⟩, .string ⟨#[]⟩, .string ⟨#[]⟩, .slice none 0 0, .string ⟨#[]⟩]) HY2.out HB2.out (Nat.le_succ _) (Value.int .i64 0) (.string ⟨#[]⟩) (.string ⟨#[]⟩) (.string ⟨#[]⟩) (.string ⟨#[]⟩) (.string ⟨#[]⟩) (.string ⟨#[]⟩) (.string ⟨#[]⟩) (.string ⟨#[]⟩) (.string ⟨#[]⟩) (.string ⟨#[]⟩) (.string ⟨#[]⟩) (.slice none 0 0) (.string ⟨#[]⟩) rfl rfl
    rw [← hwz]
    obtain ⟨q0, q1, q2, q3, q4, q5, q6, q7, q8, q9, q10, q11, q12, q13⟩ := bx14 hz1
    refine bodyPost_ret (v := .tuple #[.agg stZ, .int .i64 90]) (by simp [results, Tryz.results11, go_sem, q0, q1, q2, q3, q4, q5, q6, q7, q8, q9, q10, q11, q12, q13]) rfl ?_
    rw [← hpost, rd_none (.inr (.inr (.inl ht)))]
    exact ⟨rfl, hz3⟩
  | some jt =>
  obtain ⟨ht1, ht2, ht3, rfl⟩ := HtS.out jt ht
  cases hs : (e.atr.any fun a => strange a.1) with
  | true =>
    rw [hs] at CX
    go_wp2_with fail
    refine (CX.out _ HB2.out).mono ?_
    rintro r w3 ⟨rfl, hb⟩
    have HB3 := Lib.hid (more HB2.out (Nat.le_refl _) hb)
    have HY3 := Lib.hid ((hb.block _ (heap_lt HY2.out)).trans HY2.out)
    clear hb HB2 HX2 HY2 x0 x1 x2 x3 x4
    obtain ⟨y0, y1, y2, y3, y4, y5, y6, y7, y8, y9, y10, y11, y12, y13⟩ := bx14 HY3.out
    have fq0 := Lib.frozen_of_heap HY3.out 0
    have fq1 := Lib.frozen_of_heap HY3.out 1
    have fq2 := Lib.frozen_of_heap HY3.out 2
    have fq3 := Lib.frozen_of_heap HY3.out 3
    have fq4 := Lib.frozen_of_heap HY3.out 4
    have fq5 := Lib.frozen_of_heap HY3.out 5
    have fq6 := Lib.frozen_of_heap HY3.out 6
    have fq7 := Lib.frozen_of_heap HY3.out 7
    have fq8 := Lib.frozen_of_heap HY3.out 8
    have fq9 := Lib.frozen_of_heap HY3.out 9
    have fq10 := Lib.frozen_of_heap HY3.out 10
    have fq11 := Lib.frozen_of_heap HY3.out 11
    have fq12 := Lib.frozen_of_heap HY3.out 12
    have fq13 := Lib.frozen_of_heap HY3.out 13
    go_wp2_with fail
    obtain ⟨wz, hwz, hz1, hz2, hz3⟩ := st14 (vs := #[Value.int .i64 0, .string ⟨#[]⟩, .string ⟨#[]⟩, .string ⟨#[]⟩, .string ⟨#[]⟩, .string ⟨#[]⟩, .string ⟨#[]⟩, .string ⟨#[]⟩, .string ⟨#[]⟩, .string ⟨#[]⟩, .string ⟨#[]⟩, .string ⟨#[]⟩, .slice none 0 0, .string ⟨#[]⟩]) HY3.out HB3.out (Nat.le_succ _) (Value.int .i64 0) (.string ⟨#[]⟩) (.string ⟨#[]⟩) (.string ⟨#[]⟩) (.string ⟨#[]⟩) (.string ⟨#[]⟩) (.string ⟨#[]⟩) (.string ⟨#[]⟩) (.string ⟨#[]⟩) (.string ⟨#[]⟩) (.string ⟨#[]⟩) (.string ⟨#[]⟩) (.slice none 0 0) (.string ⟨#[]⟩) rfl rfl
    rw [← hwz]
    obtain ⟨q0, q1, q2, q3, q4, q5, q6, q7, q8, q9, q10, q11, q12, q13⟩ := bx14 hz1
    refine bodyPost_ret (v := .tuple #[.agg stZ, .int .i64 90]) (by simp [results, Tryz.results11, go_sem, q0, q1, q2, q3, q4, q5, q6, q7, q8, q9, q10, q11, q12, q13]) rfl ?_
    rw [← hpost, rd_none (.inr (.inr (.inr hs)))]
    exact ⟨rfl, hz3⟩
  | false =>
    rw [hs] at CX
    have HRD := Lib.hid (rd_then HE1.out hf ht hs)
    have HWS := Lib.hid (wtS_kids e (.of jf) (.of jt) (by have := of_size hf; simpa using this) (by have := of_size ht; simpa using this))
    have HAF : Hid (Ad.of jf = ⟨f1, f2, f3⟩) := by show _ = _; unfold Ad.of; rw [hf1, hf2, hf3]
    have HAT : Hid (Ad.of jt = ⟨t1, t2, t3⟩) := by show _ = _; unfold Ad.of; rw [ht1, ht2, ht3]
    clear hf1 hf2 hf3 ht1 ht2 ht3 hf ht hs HfN HfS HtN HtS HE1
    go_wp2_with fail
    refine (CX.out _ HB2.out).mono ?_
    rintro r w3 ⟨rfl, hb⟩
    have HBR := Lib.hid (more HB2.out (Nat.le_refl _) hb)
    have HXR := Lib.hid ((hb.block _ (heap_lt HX2.out)).trans HX2.out)
    have HYR := Lib.hid ((hb.block _ (heap_lt HY2.out)).trans HY2.out)
    have HFR := Lib.hid ((hb.block _ (heap_lt HF2.out)).trans HF2.out)
    have HTR := Lib.hid ((hb.block _ (heap_lt HT2.out)).trans HT2.out)
    clear hb HB2 HX2 HY2 HF2 HT2 CX x0 x1 x2 x3 x4 m1 p1
    go_upto_region 5 with fail
    refine region_psi 11 (fun j => [38, 39, 40, 41, 42, 43, 44, 45, 46, 47, 8].getD j 0) (psR w e aA aK cA cK f1 f2 f3 t1 t2 t3 w3.heap.size) (by kernel_rfl) (by kernel_rfl) (by kernel_rfl) (by kernel_rfl) (by decide) (by kernel_rfl) (by kernel_rfl) (psR_mono w e aA aK cA cK f1 f2 f3 t1 t2 t3 w3.heap.size) ?_ ?_
    · intro i o hi ho a W hsz hout hbel hdep
      obtain ⟨x0, x1, x2, x3, x4⟩ := bx5 ((hbel.block _ (heap_lt HXR.out)).trans HXR.out)
      obtain ⟨g0, g1, g2⟩ := bx3 ((hbel.block _ (heap_lt HFR.out)).trans HFR.out)
      obtain ⟨k0, k1, k2⟩ := bx3 ((hbel.block _ (heap_lt HTR.out)).trans HTR.out)
      have hc : i = 0 ∨ i = 1 ∨ i = 2 ∨ i = 3 ∨ i = 4 ∨ i = 5 ∨ i = 6 ∨ i = 7 ∨ i = 8 ∨ i = 9 ∨ i = 10 := by omega
      rcases hc with rfl | rfl | rfl | rfl | rfl | rfl | rfl | rfl | rfl | rfl | rfl
      · -- 0
        cases ho
        have e1 : a.eval (.tmp 1) = .pointer (some ⟨w.heap.size, 0, none⟩) := hout 1 (by decide)
        refine gives_read (v := .pointer (some ⟨w.heap.size, 1, none⟩)) ?_ rfl
        unfold execOp
        dsimp only
        rw [e1]
        go_simp
      · -- 1
        cases ho
        have e38 : a.eval (.tmp 38) = .pointer (some ⟨w.heap.size, 1, none⟩) := hdep ⟨0, .data⟩ (by simp) rfl (by decide)
        refine gives_read (v := .string e.nm) ?_ rfl
        unfold execOp
        dsimp only
        rw [e38]
        go_simp
      · -- 2
        cases ho
        have e39 : a.eval (.tmp 39) = .string e.nm := hdep ⟨1, .data⟩ (by simp) rfl (by decide)
        refine gives_call (f := 32) (args := #[.string e.nm]) ?_ ((CKN.out W (HBR.out.trans (hbel.mono HBR.out.size))).mono ?_)
        · unfold execOp
          dsimp only
          simp only [resolve, List.map_toArray, List.map_cons, List.map_nil, e39]
          go_simp
        · rintro r W' ⟨rfl, hb⟩
          exact ⟨_, rfl, hb, rfl⟩
      · -- 3
        cases ho
        have e1 : a.eval (.tmp 1) = .pointer (some ⟨w.heap.size, 0, none⟩) := hout 1 (by decide)
        refine gives_read (v := .agg #[.string e.sp, .string e.nm, .slice aA e.atr.length cA, .string e.tx, .slice aK e.ks.length cK]) ?_ rfl
        unfold execOp
        dsimp only
        rw [e1]
        go_simp
      · -- 4
        cases ho
        have e41 : a.eval (.tmp 41) = .agg #[.string e.sp, .string e.nm, .slice aA e.atr.length cA, .string e.tx, .slice aK e.ks.length cK] := hdep ⟨3, .data⟩ (by simp) rfl (by decide)
        refine gives_call (f := 29) (args := #[.agg #[.string e.sp, .string e.nm, .slice aA e.atr.length cA, .string e.tx, .slice aK e.ks.length cK], .string ⟨#[116, 121, 112, 101]⟩]) ?_ ((CT.out W (HBR.out.trans (hbel.mono HBR.out.size))).mono ?_)
        · unfold execOp
          dsimp only
          simp only [resolve, List.map_toArray, List.map_cons, List.map_nil, e41]
          go_simp
        · rintro r W' ⟨rfl, hb⟩
          exact ⟨_, rfl, hb, rfl⟩
      · -- 5
        cases ho
        have e4 : a.eval (.tmp 4) = .pointer (some ⟨T4, 0, none⟩) := hout 4 (by decide)
        refine gives_read (v := .agg #[.string f1, .string f2, .string f3]) ?_ rfl
        unfold execOp
        dsimp only
        rw [e4]
        go_simp
      · -- 6
        cases ho
        have e6 : a.eval (.tmp 6) = .pointer (some ⟨T6, 0, none⟩) := hout 6 (by decide)
        refine gives_read (v := .agg #[.string t1, .string t2, .string t3]) ?_ rfl
        unfold execOp
        dsimp only
        rw [e6]
        go_simp
      · -- 7
        cases ho
        have e1 : a.eval (.tmp 1) = .pointer (some ⟨w.heap.size, 0, none⟩) := hout 1 (by decide)
        refine gives_read (v := .agg #[.string e.sp, .string e.nm, .slice aA e.atr.length cA, .string e.tx, .slice aK e.ks.length cK]) ?_ rfl
        unfold execOp
        dsimp only
        rw [e1]
        go_simp
      · -- 8
        cases ho
        have e45 : a.eval (.tmp 45) = .agg #[.string e.sp, .string e.nm, .slice aA e.atr.length cA, .string e.tx, .slice aK e.ks.length cK] := hdep ⟨7, .data⟩ (by simp) rfl (by decide)
        refine gives_call (f := 29) (args := #[.agg #[.string e.sp, .string e.nm, .slice aA e.atr.length cA, .string e.tx, .slice aK e.ks.length cK], .string ⟨#[105, 100]⟩]) ?_ ((CI.out W (HBR.out.trans (hbel.mono HBR.out.size))).mono ?_)
        · unfold execOp
          dsimp only
          simp only [resolve, List.map_toArray, List.map_cons, List.map_nil, e45]
          go_simp
        · rintro r W' ⟨rfl, hb⟩
          exact ⟨_, rfl, hb, rfl⟩
      · -- 9
        cases ho
        have e40 : a.eval (.tmp 40) = .int .i64 (kindOf e.nm) := hdep ⟨2, .data⟩ (by simp) rfl (by decide)
        have e42 : a.eval (.tmp 42) = .string (attrV e.atr aType) := hdep ⟨4, .data⟩ (by simp) rfl (by decide)
        have e43 : a.eval (.tmp 43) = .agg #[.string f1, .string f2, .string f3] := hdep ⟨5, .data⟩ (by simp) rfl (by decide)
        have e44 : a.eval (.tmp 44) = .agg #[.string t1, .string t2, .string t3] := hdep ⟨6, .data⟩ (by simp) rfl (by decide)
        have e46 : a.eval (.tmp 46) = .string (attrV e.atr aId) := hdep ⟨8, .data⟩ (by simp) rfl (by decide)
        refine gives_read (v := .agg #[.int .i64 (kindOf e.nm), .string (attrV e.atr aType), .string f1, .string f2, .string f3, .string t1, .string t2, .string t3, .string (attrV e.atr aId), .string ⟨#[]⟩, .string ⟨#[]⟩, .string ⟨#[]⟩, .slice none 0 0, .string ⟨#[]⟩]) ?_ rfl
        unfold execOp
        dsimp only
        simp only [List.map_toArray, List.map_cons, List.map_nil, e40, e42, e43, e44, e46]
        go_simp
      · -- 10
        cases ho
        refine gives_run (W' := W.alloc (.cells #[.int .i64 0, .string ⟨#[]⟩, .string ⟨#[]⟩, .string ⟨#[]⟩, .string ⟨#[]⟩, .string ⟨#[]⟩, .string ⟨#[]⟩, .string ⟨#[]⟩, .string ⟨#[]⟩, .string ⟨#[]⟩, .string ⟨#[]⟩, .string ⟨#[]⟩, .slice none 0 0, .string ⟨#[]⟩] 26)) (v := .pointer (some ⟨W.heap.size, 0, none⟩)) ?_ ((Below.refl _ W).alloc (Nat.le_refl _) _) ⟨W.heap.size, rfl, hbel.size, box_new W _ _⟩
        unfold execOp
        dsimp only
        go_simp
    · intro a W ha hbel hv
      have e47 : a.eval (.tmp 47) = .agg #[.int .i64 (kindOf e.nm), .string (attrV e.atr aType), .string f1, .string f2, .string f3, .string t1, .string t2, .string t3, .string (attrV e.atr aId), .string ⟨#[]⟩, .string ⟨#[]⟩, .string ⟨#[]⟩, .slice none 0 0, .string ⟨#[]⟩] := hv 9 (by decide)
      obtain ⟨P, e8, hP, hPb⟩ : ∃ P, a.eval (.tmp 8) = .pointer (some ⟨P, 0, none⟩) ∧ w3.heap.size ≤ P ∧ W.heap[P]? = some (.cells #[.int .i64 0, .string ⟨#[]⟩, .string ⟨#[]⟩, .string ⟨#[]⟩, .string ⟨#[]⟩, .string ⟨#[]⟩, .string ⟨#[]⟩, .string ⟨#[]⟩, .string ⟨#[]⟩, .string ⟨#[]⟩, .string ⟨#[]⟩, .string ⟨#[]⟩, .slice none 0 0, .string ⟨#[]⟩] 26 (0, 0)) := hv 10 (by decide)
      have HB4 := Lib.hid (HBR.out.trans (hbel.mono HBR.out.size))
      have HX4 := Lib.hid ((hbel.block _ (heap_lt HXR.out)).trans HXR.out)
      have HY4 := Lib.hid ((hbel.block _ (heap_lt HYR.out)).trans HYR.out)
      have HP4 := Lib.hid hPb
      have HPG : Hid (w.heap.size + 1 < P) := Nat.lt_of_lt_of_le (heap_lt HYR.out) hP
      have ha2 : a = canonL a [38, 39, 40, 41, 42, 43, 44, 45, 46, 47, 8] _ := ha
      simp only [canonL] at ha2
      rw [e47, e8] at ha2
      clear ha hv e47 e8 hP hPb HBR HXR HYR HFR HTR hbel CT CI CKN
      generalize a.eval (.tmp 38) = g38 at ha2
      generalize a.eval (.tmp 39) = g39 at ha2
      generalize a.eval (.tmp 40) = g40 at ha2
      generalize a.eval (.tmp 41) = g41 at ha2
      generalize a.eval (.tmp 42) = g42 at ha2
      generalize a.eval (.tmp 43) = g43 at ha2
      generalize a.eval (.tmp 44) = g44 at ha2
      generalize a.eval (.tmp 45) = g45 at ha2
      generalize a.eval (.tmp 46) = g46 at ha2
      subst ha2
      obtain ⟨x0, x1, x2, x3, x4, x5, x6, x7, x8, x9, x10, x11, x12, x13⟩ := bx14 HP4.out
      have fq0 := Lib.frozen_of_heap HP4.out 0
      have fq1 := Lib.frozen_of_heap HP4.out 1
      have fq2 := Lib.frozen_of_heap HP4.out 2
      have fq3 := Lib.frozen_of_heap HP4.out 3
      have fq4 := Lib.frozen_of_heap HP4.out 4
      have fq5 := Lib.frozen_of_heap HP4.out 5
      have fq6 := Lib.frozen_of_heap HP4.out 6
      have fq7 := Lib.frozen_of_heap HP4.out 7
      have fq8 := Lib.frozen_of_heap HP4.out 8
      have fq9 := Lib.frozen_of_heap HP4.out 9
      have fq10 := Lib.frozen_of_heap HP4.out 10
      have fq11 := Lib.frozen_of_heap HP4.out 11
      have fq12 := Lib.frozen_of_heap HP4.out 12
      have fq13 := Lib.frozen_of_heap HP4.out 13
      go_upto_region 6 with fail
      obtain ⟨wz, hwz, hz1, hz2, hz3⟩ := st14 (vs := #[.int .i64 (kindOf e.nm), .string (attrV e.atr aType), .string f1, .string f2, .string f3, .string t1, .string t2, .string t3, .string (attrV e.atr aId), .string ⟨#[]⟩, .string ⟨#[]⟩, .string ⟨#[]⟩, .slice none 0 0, .string ⟨#[]⟩]) HP4.out HB4.out (by have := HPG.out; omega) (.int .i64 (kindOf e.nm)) (.string (attrV e.atr aType)) (.string f1) (.string f2) (.string f3) (.string t1) (.string t2) (.string t3) (.string (attrV e.atr aId)) (.string ⟨#[]⟩) (.string ⟨#[]⟩) (.string ⟨#[]⟩) (.slice none 0 0) (.string ⟨#[]⟩) rfl rfl
      rw [← hwz]
      have HB5 := Lib.hid hz3
      have HX5 := Lib.hid ((hz2 w.heap.size (by have := HPG.out; omega)).trans HX4.out)
      have HY5 := Lib.hid ((hz2 (w.heap.size + 1) (by have := HPG.out; omega)).trans HY4.out)
      have CR := Lib.hid (readKids_any e aA aK cA cK P w.heap.size (kindOf e.nm) (attrV e.atr aType) f1 f2 f3 t1 t2 t3 (attrV e.atr aId) wz hz1 (by have := HPG.out; omega) (HK.out.below hz3) HWK.out)
      clear hwz hz1 hz2 hz3 HB4 HX4 HY4 HP4 x0 x1 x2 x3 x4 x5 x6 x7 x8 x9 x10 x11 x12 x13 fq0 fq1 fq2 fq3 fq4 fq5 fq6 fq7 fq8 fq9 fq10 fq11 fq12 fq13
      obtain ⟨x0, x1, x2, x3, x4⟩ := bx5 HX5.out
      go_wp2_with fail
      refine CR.out.mono ?_
      rintro r w5 ⟨rfl, aL, cL, hP5, hks, hb5, hkeep⟩
      dsimp only at hP5
      have HB6 := Lib.hid (HB5.out.trans hb5)
      have HY6 := Lib.hid ((hkeep _ (heap_lt HY5.out) (by have := HPG.out; omega)).trans HY5.out)
      obtain ⟨kd, ty, id, sh, st, bd, ld, cd, HP6, HKS, HRD2, HWS2⟩ : ∃ (kd : Int) (ty id sh st bd : ByteArray) (ld : List El) (cd : ByteArray), Hid (w5.heap[P]? = some (.cells #[.int .i64 kd, .string ty, .string f1, .string f2, .string f3, .string t1, .string t2, .string t3, .string id, .string sh, .string st, .string bd, .slice aL ld.length cL, .string cd] 26 (0, 0))) ∧ Hid (KsIn w5.heap.size w5 aL ld) ∧ Hid (rd e = if okS ⟨kd, ty, ⟨f1, f2, f3⟩, ⟨t1, t2, t3⟩, id, sh, st, bd, ld, cd⟩ = true then some ⟨kd, ty, ⟨f1, f2, f3⟩, ⟨t1, t2, t3⟩, id, sh, st, bd, ld, cd⟩ else none) ∧ Hid (wtS ⟨kd, ty, ⟨f1, f2, f3⟩, ⟨t1, t2, t3⟩, id, sh, st, bd, ld, cd⟩ ≤ 18030) :=
        ⟨_, _, _, _, _, _, _, _, hP5, hks, (by show _ = _; rw [HRD.out, HAF.out, HAT.out]; rfl), (by have h1 := HWS.out; rw [HAF.out, HAT.out] at h1; have h2 := HW.out; exact Nat.le_trans h1 (by omega))⟩
      have hcd : cd.size ≤ 18030 := by have h1 := HWS2.out; unfold wtS at h1; simp only at h1; omega
      have hwl : wts ld ≤ 20000 := by have h1 := HWS2.out; unfold wtS at h1; simp only at h1; omega
      have CH := Lib.hid (stCheck_any ld w5.heap.size kd ty f1 f2 f3 t1 t2 t3 id sh st bd cd aL cL w5 HKS.out (Nat.le_refl _) (by have h1 := HWS2.out; omega) (by omega))
      have CP := Lib.hid (fun (W : World) (hb : Below w5.heap.size w5 W) => apart_any ld aL cL w5.heap.size W (HKS.out.below hb) hb.size hwl)
      clear hP5 hks hb5 hkeep HB5 HX5 HY5 CR HRD HWS HAF HAT hcd hwl HKS HWS2 x0 x1 x2 x3 x4
      obtain ⟨x0, x1, x2, x3, x4, x5, x6, x7, x8, x9, x10, x11, x12, x13⟩ := bx14 HP6.out
      cases hok : okS ⟨kd, ty, ⟨f1, f2, f3⟩, ⟨t1, t2, t3⟩, id, sh, st, bd, ld, cd⟩ with
      | false =>
        rw [hok] at CH
        go_wp2_with fail
        refine CH.out.mono ?_
        rintro r w6 ⟨rfl, hb⟩
        have HB7 := Lib.hid (more HB6.out (Nat.le_refl _) hb)
        have HY7 := Lib.hid ((hb.block _ (heap_lt HY6.out)).trans HY6.out)
        clear hb HB6 HY6 HP6 CH CP x0 x1 x2 x3 x4 x5 x6 x7 x8 x9 x10 x11 x12 x13
        dsimp only [cdS]
        obtain ⟨y0, y1, y2, y3, y4, y5, y6, y7, y8, y9, y10, y11, y12, y13⟩ := bx14 HY7.out
        have fq0 := Lib.frozen_of_heap HY7.out 0
        have fq1 := Lib.frozen_of_heap HY7.out 1
        have fq2 := Lib.frozen_of_heap HY7.out 2
        have fq3 := Lib.frozen_of_heap HY7.out 3
        have fq4 := Lib.frozen_of_heap HY7.out 4
        have fq5 := Lib.frozen_of_heap HY7.out 5
        have fq6 := Lib.frozen_of_heap HY7.out 6
        have fq7 := Lib.frozen_of_heap HY7.out 7
        have fq8 := Lib.frozen_of_heap HY7.out 8
        have fq9 := Lib.frozen_of_heap HY7.out 9
        have fq10 := Lib.frozen_of_heap HY7.out 10
        have fq11 := Lib.frozen_of_heap HY7.out 11
        have fq12 := Lib.frozen_of_heap HY7.out 12
        have fq13 := Lib.frozen_of_heap HY7.out 13
        go_wp2_with fail
        obtain ⟨wz, hwz, hz1, hz2, hz3⟩ := st14 (vs := #[Value.int .i64 0, .string ⟨#[]⟩, .string ⟨#[]⟩, .string ⟨#[]⟩, .string ⟨#[]⟩, .string ⟨#[]⟩, .string ⟨#[]⟩, .string ⟨#[]⟩, .string ⟨#[]⟩, .string ⟨#[]⟩, .string ⟨#[]⟩, .string ⟨#[]⟩, .slice none 0 0, .string ⟨#[]⟩]) HY7.out HB7.out (Nat.le_succ _) (Value.int .i64 0) (.string ⟨#[]⟩) (.string ⟨#[]⟩) (.string ⟨#[]⟩) (.string ⟨#[]⟩) (.string ⟨#[]⟩) (.string ⟨#[]⟩) (.string ⟨#[]⟩) (.string ⟨#[]⟩) (.string ⟨#[]⟩) (.string ⟨#[]⟩) (.string ⟨#[]⟩) (.slice none 0 0) (.string ⟨#[]⟩) rfl rfl
        rw [← hwz]
        obtain ⟨q0, q1, q2, q3, q4, q5, q6, q7, q8, q9, q10, q11, q12, q13⟩ := bx14 hz1
        refine bodyPost_ret (v := .tuple #[.agg stZ, .int .i64 90]) (by simp [results, Tryz.results11, go_sem, q0, q1, q2, q3, q4, q5, q6, q7, q8, q9, q10, q11, q12, q13]) rfl ?_
        rw [← hpost, HRD2.out, hok, if_neg (by simp)]
        exact ⟨rfl, hz3⟩
      | true =>
        rw [hok] at CH
        go_wp2_with fail
        refine CH.out.mono ?_
        rintro r w6 ⟨rfl, hb⟩
        have HB7 := Lib.hid (more HB6.out (Nat.le_refl _) hb)
        have HY7 := Lib.hid ((hb.block _ (heap_lt HY6.out)).trans HY6.out)
        have HP7 := Lib.hid ((hb.block _ (heap_lt HP6.out)).trans HP6.out)
        have CP2 := Lib.hid (CP.out w6 hb)
        clear hb HB6 HY6 HP6 CH CP x0 x1 x2 x3 x4 x5 x6 x7 x8 x9 x10 x11 x12 x13
        dsimp only [cdS]
        obtain ⟨x0, x1, x2, x3, x4, x5, x6, x7, x8, x9, x10, x11, x12, x13⟩ := bx14 HP7.out
        go_wp2_with fail
        refine CP2.out.mono ?_
        rintro r w7 ⟨a2, c2, rfl, hsl, hb⟩
        have HB8 := Lib.hid (more HB7.out (Nat.le_refl _) hb)
        have HY8 := Lib.hid ((hb.block _ (heap_lt HY7.out)).trans HY7.out)
        have HP8 := Lib.hid ((hb.block _ (heap_lt HP7.out)).trans HP7.out)
        have HSL := Lib.hid hsl
        have HL7 := Lib.hid (heap_lt HP7.out)
        have HL8 := Lib.hid HB7.out.size
        clear hb hsl HB7 HY7 HP7 CP2 x0 x1 x2 x3 x4 x5 x6 x7 x8 x9 x10 x11 x12 x13
        obtain ⟨x0, x1, x2, x3, x4, x5, x6, x7, x8, x9, x10, x11, x12, x13⟩ := bx14 HP8.out
        have f12 := Lib.frozen_of_heap HP8.out 12
        have hPl := heap_lt HP8.out
        have HP9 : Hid ((w7.setCell ⟨P, 12, none⟩ (.slice a2 ld.length c2)).heap[P]? = some (.cells #[.int .i64 kd, .string ty, .string f1, .string f2, .string f3, .string t1, .string t2, .string t3, .string id, .string sh, .string st, .string bd, .slice a2 ld.length c2, .string cd] 26 (0, 0))) := setI HP8.out 12 (.slice a2 ld.length c2)
        have HY9 := Lib.hid ((setCell_other (w := w7) (b := P) (i := 12) (u := .slice a2 ld.length c2) (k := w.heap.size + 1) (by have := HPG.out; omega)).trans HY8.out)
        have HB9 := Lib.hid (HB8.out.setCell (p := ⟨P, 12, none⟩) (by have := HPG.out; show w.heap.size ≤ P; omega) (.slice a2 ld.length c2))
        have HS9 : Hid (SlK (fun b => w6.heap.size ≤ b) (w7.setCell ⟨P, 12, none⟩ (.slice a2 ld.length c2)) (.slice a2 ld.length c2) ld) := HSL.out.keep fun b hb _ => setCell_other (by have := HL7.out; omega)
        go_upto_region 10 with fail
        generalize w7.setCell ⟨P, 12, none⟩ (.slice a2 ld.length c2) = w8 at HP9 HY9 HB9 HS9 ⊢
        clear HP8 HY8 HB8 HSL f12 hPl x0 x1 x2 x3 x4 x5 x6 x7 x8 x9 x10 x11 x12 x13
        obtain ⟨x0, x1, x2, x3, x4, x5, x6, x7, x8, x9, x10, x11, x12, x13⟩ := bx14 HP9.out
        obtain ⟨y0, y1, y2, y3, y4, y5, y6, y7, y8, y9, y10, y11, y12, y13⟩ := bx14 HY9.out
        have fq0 := Lib.frozen_of_heap HY9.out 0
        have fq1 := Lib.frozen_of_heap HY9.out 1
        have fq2 := Lib.frozen_of_heap HY9.out 2
        have fq3 := Lib.frozen_of_heap HY9.out 3
        have fq4 := Lib.frozen_of_heap HY9.out 4
        have fq5 := Lib.frozen_of_heap HY9.out 5
        have fq6 := Lib.frozen_of_heap HY9.out 6
        have fq7 := Lib.frozen_of_heap HY9.out 7
        have fq8 := Lib.frozen_of_heap HY9.out 8
        have fq9 := Lib.frozen_of_heap HY9.out 9
        have fq10 := Lib.frozen_of_heap HY9.out 10
        have fq11 := Lib.frozen_of_heap HY9.out 11
        have fq12 := Lib.frozen_of_heap HY9.out 12
        have fq13 := Lib.frozen_of_heap HY9.out 13
        go_wp2_with fail
        obtain ⟨wy, hwz, hz1, hz2, hz3⟩ := st14 (vs := #[.int .i64 kd, .string ty, .string f1, .string f2, .string f3, .string t1, .string t2, .string t3, .string id, .string sh, .string st, .string bd, .slice a2 ld.length c2, .string cd]) HY9.out HB9.out (Nat.le_succ _) (.int .i64 kd) (.string ty) (.string f1) (.string f2) (.string f3) (.string t1) (.string t2) (.string t3) (.string id) (.string sh) (.string st) (.string bd) (.slice a2 ld.length c2) (.string cd) rfl rfl
        rw [← hwz]
        obtain ⟨q0, q1, q2, q3, q4, q5, q6, q7, q8, q9, q10, q11, q12, q13⟩ := bx14 hz1
        refine bodyPost_ret (v := .tuple #[.agg #[.int .i64 kd, .string ty, .string f1, .string f2, .string f3, .string t1, .string t2, .string t3, .string id, .string sh, .string st, .string bd, .slice a2 ld.length c2, .string cd], .int .i64 0]) (by simp [results, Tryz.results11, go_sem, q0, q1, q2, q3, q4, q5, q6, q7, q8, q9, q10, q11, q12, q13]) rfl ?_
        rw [← hpost, HRD2.out, if_pos hok]
        exact ⟨⟨a2, c2, rfl, (ksS_keep HS9.out (by have := HL7.out; have := HPG.out; omega) hz2).weak fun b _ hb => Nat.le_trans HL8.out hb⟩, hz3⟩
end Go.Proofs.YtccpdfcmhggleaaGreatDoor
