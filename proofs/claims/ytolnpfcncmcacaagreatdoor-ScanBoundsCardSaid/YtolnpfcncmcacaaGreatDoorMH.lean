/- Layer 6 in one text: begin. Conditions: those of each theorem's head. -/
import Derived.Test.YtolnpfcncmcacaaGreatDoorMG
import Derived.Deep.AppendLies
import Derived.Deep.RegionLaw

/- The contract of (*Scanner).begin, first part: tags that begin no element. Condition: texts, children and open elements are at most 1048576; the tag is text. -/
namespace Go.Proofs.YtolnpfcncmcacaaGreatDoor
open Go.RowKit Go.Lib Go.Shelf Tg Sn

theorem readBg_fit {t : ByteArray} {b : Bg} (ht : t.size ≤ 1048576) (h : readBg t.data.toList = some b) : Fit 1048576 b.attrs ∧ b.attrs.length ≤ 1048576 ∧ b.name.size ≤ 1048576 := by
  have h2 : (inner2 t.data.toList).length ≤ 1048576 := by
    have := By.len_size t
    unfold inner2 Sn.inner
    split <;> simp <;> omega
  cases hf : full ((inner2 t.data.toList).takeWhile (fun c => !bk c)) with
  | false => rw [readBg_no hf] at h; cases h
  | true =>
    rw [readBg_yes hf] at h
    cases hr : raws ((inner2 t.data.toList).dropWhile (fun c => !bk c)) with
    | none => rw [hr] at h; cases h
    | some l =>
      rw [hr] at h
      simp only [Option.map_some, Option.some.injEq] at h
      subst h
      have hd := drop_le (inner2 t.data.toList)
      have hl : ((inner2 t.data.toList).dropWhile (fun c => !bk c)).length ≤ 1048576 := by
        have := (List.dropWhile_sublist (l := inner2 t.data.toList) (p := fun c => !bk c)).length_le
        omega
      obtain ⟨f1, f2⟩ := raws_fit 1048576 hl hr
      refine ⟨f1, f2, ?_⟩
      show (Sn.mk _).size ≤ _
      rw [Sn.mk_size]
      have := (List.takeWhile_sublist (l := inner2 t.data.toList) (p := fun c => !bk c)).length_le
      omega
theorem tb_none {s : St} {t : B8} (h : readBg t = none) : tagBegin s t = (s, Ev0, 60) := by unfold tagBegin; rw [h]
theorem tb_err {s : St} {t : B8} {b : Bg} {n : Nat} {o : Sn.Op} (h : readBg t = some b) (h2 : Sn.read s.os b = (n, o)) (hn : n ≠ 0) : tagBegin s t = (s, Ev0, n) := by
  unfold tagBegin
  rw [h]
  cases n with
  | zero => exact absurd rfl hn
  | succ n => simp only [h2]
theorem tb_top0 {s : St} {t : B8} {b : Bg} {o : Sn.Op} (h : readBg t = some b) (h2 : Sn.read s.os b = (0, o)) (h3 : s.os.length = 0) (h4 : b.empty = true) : tagBegin s t = (s, Ev0, 60) := by
  unfold tagBegin
  rw [h]
  simp only [h2]
  rw [if_pos h3, if_pos h4]
theorem tb_top {s : St} {t : B8} {b : Bg} {o : Sn.Op} (h : readBg t = some b) (h2 : Sn.read s.os b = (0, o)) (h3 : s.os.length = 0) (h4 : b.empty = false) : tagBegin s t = ({ s with os := [⟨o.decl, o.name, El0⟩] }, ⟨1, o.elem, 0⟩, 0) := by
  unfold tagBegin
  rw [h]
  simp only [h2]
  rw [if_pos h3, if_neg (by rw [h4]; exact Bool.false_ne_true)]
theorem tb_big {s : St} {t : B8} {b : Bg} {o : Sn.Op} (h : readBg t = some b) (h2 : Sn.read s.os b = (0, o)) (h3 : 16 < s.os.length) : tagBegin s t = (s, Ev0, 62) := by
  unfold tagBegin
  rw [h]
  simp only [h2]
  rw [if_neg (by omega), if_pos h3]
theorem tb_in0 {s : St} {t : B8} {b : Bg} {o : Sn.Op} (h : readBg t = some b) (h2 : Sn.read s.os b = (0, o)) (h3 : s.os.length ≠ 0) (h4 : ¬ 16 < s.os.length) (h5 : b.empty = true) : tagBegin s t = ((shut { s with os := s.os ++ [o] }).1, (shut { s with os := s.os ++ [o] }).2, 0) := by
  unfold tagBegin
  rw [h]
  simp only [h2]
  rw [if_neg h3, if_neg h4, if_pos h5]
theorem tb_in {s : St} {t : B8} {b : Bg} {o : Sn.Op} (h : readBg t = some b) (h2 : Sn.read s.os b = (0, o)) (h3 : s.os.length ≠ 0) (h4 : ¬ 16 < s.os.length) (h5 : b.empty = false) : tagBegin s t = ({ s with os := s.os ++ [o] }, Ev0, 0) := by
  unfold tagBegin
  rw [h]
  simp only [h2]
  rw [if_neg h3, if_neg h4, if_neg (by rw [h5]; exact Bool.false_ne_true)]
set_option maxRecDepth 100000 in
set_option maxHeartbeats 8000000 in
theorem begin_none (N P : Nat) (v : Vw) (s : St) (t : ByteArray) (w : World) (h : Sc N P v w s) (hov : s.over = false) (ht : t.size ≤ 1048576) (h2 : 2 ≤ t.size) {cs : List Nat} (hT : Sg.IsT (inner2 t.data.toList) cs) (hol : s.os.length ≤ 1048576) (hb : readBg t.data.toList = none) :
    Calls Tryz.prog 74 #[.pointer (some ⟨P, 0, none⟩), .string t] w (ResP N P v w (tagBegin s t.data.toList)) := by
  have HOL := Lib.hid hol
  have B := Lib.hid (fun W => readBeginning_any t W ht h2 hT)
  have HS := Lib.hid h
  have HO := Lib.hid hov
  have HB0 : Hid (Below w.heap.size w (w.alloc (.cells #[.int .i64 0, .string ⟨#[]⟩, .string ⟨#[]⟩, .slice none 0 0, .string ⟨#[]⟩, .slice none 0 0, .int .i64 0] 50))) := (Below.refl _ _).alloc (Nat.le_refl _) _
  have HR0 : Hid ((w.alloc (.cells #[.int .i64 0, .string ⟨#[]⟩, .string ⟨#[]⟩, .slice none 0 0, .string ⟨#[]⟩, .slice none 0 0, .int .i64 0] 50)).heap[w.heap.size]? = some (.cells #[.int .i64 0, .string ⟨#[]⟩, .string ⟨#[]⟩, .slice none 0 0, .string ⟨#[]⟩, .slice none 0 0, .int .i64 0] 50 (0, 0))) := box_new w _ _
  have T := Lib.hid (tb_none (s := s) hb)
  rw [hb] at B
  unfold RbP at B
  simp only [reduceCtorEq, false_and, exists_const, exists_false, or_false, true_and] at B
  clear h hov ht h2 hT hol hb
  go_enter Tryz.func74, Tryz.ntmps74
  go_wp2_with fail
  generalize w.alloc (.cells #[.int .i64 0, .string ⟨#[]⟩, .string ⟨#[]⟩, .slice none 0 0, .string ⟨#[]⟩, .slice none 0 0, .int .i64 0] 50) = W0 at HB0 HR0 ⊢
  refine (B.out _).mono ?_
  rintro r w1 ⟨rfl, hb⟩
  have HB1 := Lib.hid (HB0.out.trans (hb.mono HB0.out.size))
  have HR1 := Lib.hid ((hb.block _ (heap_lt HR0.out)).trans HR0.out)
  have hRl := heap_lt HR1.out
  clear hb
  obtain ⟨z0, z1, z2, z3, z4, z5, z6⟩ := bx7 HR1.out
  have fz := bx7e HR1.out
  have fz0 := fz 0
  have fz1 := fz 1
  have fz2 := fz 2
  have fz3 := fz 3
  have fz4 := fz 4
  have fz5 := fz 5
  have fz6 := fz 6
  clear fz
  go_wp2_with fail
  exact bodyPost_ret (v := .tuple #[(.agg #[.int .i64 0, .string ⟨#[]⟩, .string ⟨#[]⟩, .slice none 0 0, .string ⟨#[]⟩, .slice none 0 0, .int .i64 0]), .int .i64 60]) (by simp [results, Tryz.results74, go_sem, z0, z1, z2, z3, z4, z5, z6, hRl]) rfl (ResP.bad HS.out HO.out T.out rfl ((set7 HB1.out (Nat.le_refl _) _ _ _ _ _ _ _).alloc (by simp [World.setCell]; omega) _))
set_option maxRecDepth 100000 in
set_option maxHeartbeats 8000000 in
theorem begin_err (N P : Nat) (v : Vw) (s : St) (t : ByteArray) (w : World) (h : Sc N P v w s) (hov : s.over = false) (ht : t.size ≤ 1048576) (h2 : 2 ≤ t.size) {cs : List Nat} (hT : Sg.IsT (inner2 t.data.toList) cs) (hol : s.os.length ≤ 1048576) {b : Bg} (hb : readBg t.data.toList = some b) {n : Nat} {o : Sn.Op} (hr : Sn.read s.os b = (n, o)) (hn : n ≠ 0) :
    Calls Tryz.prog 74 #[.pointer (some ⟨P, 0, none⟩), .string t] w (ResP N P v w (tagBegin s t.data.toList)) := by
  have HOL := Lib.hid hol
  have B := Lib.hid (fun W => readBeginning_any t W ht h2 hT)
  have HS := Lib.hid h
  have HO := Lib.hid hov
  have HB0 : Hid (Below w.heap.size w (w.alloc (.cells #[.int .i64 0, .string ⟨#[]⟩, .string ⟨#[]⟩, .slice none 0 0, .string ⟨#[]⟩, .slice none 0 0, .int .i64 0] 50))) := (Below.refl _ _).alloc (Nat.le_refl _) _
  have HR0 : Hid ((w.alloc (.cells #[.int .i64 0, .string ⟨#[]⟩, .string ⟨#[]⟩, .slice none 0 0, .string ⟨#[]⟩, .slice none 0 0, .int .i64 0] 50)).heap[w.heap.size]? = some (.cells #[.int .i64 0, .string ⟨#[]⟩, .string ⟨#[]⟩, .slice none 0 0, .string ⟨#[]⟩, .slice none 0 0, .int .i64 0] 50 (0, 0))) := box_new w _ _
  have T := Lib.hid (tb_err hb hr hn)
  obtain ⟨f1, f2, f3⟩ := readBg_fit ht hb
  have RD := Lib.hid (fun (va : Option Addr) (vc : Nat) W (hbw : Below w.heap.size w W) hA => read_any N P v s b va vc W (h.below hbw) hol f2 f1 f3 hA)
  rw [hb] at B
  rw [hr] at RD
  unfold RbP at B
  unfold RdP at RD
  simp only [reduceCtorEq, false_and, false_or, Option.some.injEq] at B
  have HN := Lib.hid hn
  have HBL := Lib.hid f2
  clear h hov ht h2 hT hol hb hr hn f1 f2 f3
  obtain ⟨nm, al, em⟩ := b
  go_enter Tryz.func74, Tryz.ntmps74
  go_wp2_with fail
  generalize w.alloc (.cells #[.int .i64 0, .string ⟨#[]⟩, .string ⟨#[]⟩, .slice none 0 0, .string ⟨#[]⟩, .slice none 0 0, .int .i64 0] 50) = W0 at HB0 HR0 ⊢
  refine (B.out _).mono ?_
  rintro r w1 ⟨⟨b2, vv, rfl, rfl, hsl⟩, hb⟩
  obtain ⟨va, vc, rfl, hat⟩ := sla_form hsl
  have HA1 := Lib.hid (hat.weak (S' := Any8) (fun _ _ _ => trivial))
  have HB1 := Lib.hid (HB0.out.trans (hb.mono HB0.out.size))
  have HR1 := Lib.hid ((hb.block _ (heap_lt HR0.out)).trans HR0.out)
  have hRl := heap_lt HR1.out
  clear hb hsl hat B
  simp only at *
  go_wp2_with fail
  have HB2 := Lib.hid (HB1.out.alloc HB1.out.size (.cells #[.string nm, .slice va al.length vc, .bool em] 159))
  have HR2 := Lib.hid ((Below.heap_alloc w1 (.cells #[.string nm, .slice va al.length vc, .bool em] 159) _ hRl).trans HR1.out)
  have HX2 := Lib.hid (box_new w1 #[.string nm, .slice va al.length vc, .bool em] 159)
  have HA2 := Lib.hid (HA1.out.below ((Below.refl _ w1).alloc (Nat.le_refl _) (.cells #[.string nm, .slice va al.length vc, .bool em] 159)))
  generalize w1.alloc (.cells #[.string nm, .slice va al.length vc, .bool em] 159) = W2 at HB2 HR2 HX2 HA2 ⊢
  generalize w1.heap.size = Bk at HX2 hRl ⊢
  have C := Lib.hid (RD.out va vc W2 HB2.out HA2.out)
  clear HB0 HR0 HB1 HR1 HA1 RD HA2
  have en : ((n : Int) != 0) = true := by rw [bne_iff_ne]; have := HN.out; omega
  refine C.out.mono ?_
  rintro r w3 ⟨⟨_, rfl⟩ | ⟨h0, _⟩, hb⟩
  case inr => exact absurd h0 HN.out
  have HB3 := Lib.hid (HB2.out.trans (hb.mono HB2.out.size))
  have HR3 := Lib.hid ((hb.block _ (heap_lt HR2.out)).trans HR2.out)
  have hR3 := heap_lt HR3.out
  clear hb C HB2 HR2
  obtain ⟨z0, z1, z2, z3, z4, z5, z6⟩ := bx7 HR3.out
  have fz := bx7e HR3.out
  have fz0 := fz 0
  have fz1 := fz 1
  have fz2 := fz 2
  have fz3 := fz 3
  have fz4 := fz 4
  have fz5 := fz 5
  have fz6 := fz 6
  clear fz
  go_wp2_with fail
  exact bodyPost_ret (v := .tuple #[(.agg #[.int .i64 0, .string ⟨#[]⟩, .string ⟨#[]⟩, .slice none 0 0, .string ⟨#[]⟩, .slice none 0 0, .int .i64 0]), .int .i64 n]) (by simp [results, Tryz.results74, go_sem, z0, z1, z2, z3, z4, z5, z6, hR3]) rfl (ResP.bad HS.out HO.out T.out rfl ((set7 HB3.out (Nat.le_refl _) _ _ _ _ _ _ _).alloc (by simp [World.setCell]; omega) _))
end Go.Proofs.YtolnpfcncmcacaaGreatDoor

/- The contract of (*Scanner).begin, second part: an element that may not begin here. Condition: texts, children and open elements are at most 1048576; the tag is text. -/
namespace Go.Proofs.YtolnpfcncmcacaaGreatDoor
open Go.RowKit Go.Lib Go.Shelf Tg Sn

set_option maxRecDepth 100000 in
set_option maxHeartbeats 8000000 in
theorem begin_big (N P : Nat) (v : Vw) (s : St) (t : ByteArray) (w : World) (h : Sc N P v w s) (hov : s.over = false) (ht : t.size ≤ 1048576) (h2 : 2 ≤ t.size) {cs : List Nat} (hT : Sg.IsT (inner2 t.data.toList) cs) (hol : s.os.length ≤ 1048576) {b : Bg} (hb : readBg t.data.toList = some b) {o : Sn.Op} (hr : Sn.read s.os b = (0, o)) (h16 : 16 < s.os.length) :
    Calls Tryz.prog 74 #[.pointer (some ⟨P, 0, none⟩), .string t] w (ResP N P v w (tagBegin s t.data.toList)) := by
  have HOL := Lib.hid hol
  have B := Lib.hid (fun W => readBeginning_any t W ht h2 hT)
  have HS := Lib.hid h
  have HO := Lib.hid hov
  have HB0 : Hid (Below w.heap.size w (w.alloc (.cells #[.int .i64 0, .string ⟨#[]⟩, .string ⟨#[]⟩, .slice none 0 0, .string ⟨#[]⟩, .slice none 0 0, .int .i64 0] 50))) := (Below.refl _ _).alloc (Nat.le_refl _) _
  have HR0 : Hid ((w.alloc (.cells #[.int .i64 0, .string ⟨#[]⟩, .string ⟨#[]⟩, .slice none 0 0, .string ⟨#[]⟩, .slice none 0 0, .int .i64 0] 50)).heap[w.heap.size]? = some (.cells #[.int .i64 0, .string ⟨#[]⟩, .string ⟨#[]⟩, .slice none 0 0, .string ⟨#[]⟩, .slice none 0 0, .int .i64 0] 50 (0, 0))) := box_new w _ _
  have T := Lib.hid (tb_big hb hr h16)
  have H16 := Lib.hid h16
  obtain ⟨oa, oc, hop⟩ := h.opnIs
  have HOP := Lib.hid hop
  clear h16 hop
  obtain ⟨f1, f2, f3⟩ := readBg_fit ht hb
  have RD := Lib.hid (fun (va : Option Addr) (vc : Nat) W (hbw : Below w.heap.size w W) hA => read_any N P v s b va vc W (h.below hbw) hol f2 f1 f3 hA)
  rw [hb] at B
  rw [hr] at RD
  unfold RbP at B
  unfold RdP at RD
  simp only [reduceCtorEq, false_and, false_or, Option.some.injEq] at B
  have HBL := Lib.hid f2
  clear h hov ht h2 hT hol hb hr f1 f2 f3
  obtain ⟨nm, al, em⟩ := b
  go_enter Tryz.func74, Tryz.ntmps74
  go_wp2_with fail
  generalize w.alloc (.cells #[.int .i64 0, .string ⟨#[]⟩, .string ⟨#[]⟩, .slice none 0 0, .string ⟨#[]⟩, .slice none 0 0, .int .i64 0] 50) = W0 at HB0 HR0 ⊢
  refine (B.out _).mono ?_
  rintro r w1 ⟨⟨b2, vv, rfl, rfl, hsl⟩, hb⟩
  obtain ⟨va, vc, rfl, hat⟩ := sla_form hsl
  have HA1 := Lib.hid (hat.weak (S' := Any8) (fun _ _ _ => trivial))
  have HB1 := Lib.hid (HB0.out.trans (hb.mono HB0.out.size))
  have HR1 := Lib.hid ((hb.block _ (heap_lt HR0.out)).trans HR0.out)
  have hRl := heap_lt HR1.out
  clear hb hsl hat B
  simp only at *
  go_wp2_with fail
  have HB2 := Lib.hid (HB1.out.alloc HB1.out.size (.cells #[.string nm, .slice va al.length vc, .bool em] 159))
  have HR2 := Lib.hid ((Below.heap_alloc w1 (.cells #[.string nm, .slice va al.length vc, .bool em] 159) _ hRl).trans HR1.out)
  have HX2 := Lib.hid (box_new w1 #[.string nm, .slice va al.length vc, .bool em] 159)
  have HA2 := Lib.hid (HA1.out.below ((Below.refl _ w1).alloc (Nat.le_refl _) (.cells #[.string nm, .slice va al.length vc, .bool em] 159)))
  generalize w1.alloc (.cells #[.string nm, .slice va al.length vc, .bool em] 159) = W2 at HB2 HR2 HX2 HA2 ⊢
  generalize w1.heap.size = Bk at HX2 hRl ⊢
  have C := Lib.hid (RD.out va vc W2 HB2.out HA2.out)
  clear HB0 HR0 HB1 HR1 HA1 RD HA2
  refine C.out.mono ?_
  rintro r w3 ⟨⟨h0, _⟩ | ⟨_, bv, av, rfl, hsd, hsa⟩, hb⟩
  case inl => exact absurd rfl h0
  have HB3 := Lib.hid (HB2.out.trans (hb.mono HB2.out.size))
  have HR3 := Lib.hid ((hb.block _ (heap_lt HR2.out)).trans HR2.out)
  have HX3 := Lib.hid ((hb.block _ (heap_lt HX2.out)).trans HX2.out)
  have hW2 := HB2.out.size
  have hR2 := heap_lt HR2.out
  have HSD := Lib.hid hsd
  have HSA := Lib.hid hsa
  obtain ⟨ba, bc, rfl, _⟩ := sla_form hsd
  obtain ⟨aa, ac, rfl, _⟩ := sla_form hsa
  generalize o.decl.length = bn at HSD ⊢
  generalize o.elem.atr.length = an at HSA ⊢
  have hR3 := heap_lt HR3.out
  have hX3 := heap_lt HX3.out
  have HB4 := Lib.hid (HB3.out.alloc HB3.out.size (.cells #[.slice ba bn bc, .string o.name, .string o.elem.sp, .string o.elem.nm, .slice aa an ac, .string ⟨#[]⟩, .slice none 0 0] 155))
  have HR4 := Lib.hid ((Below.heap_alloc w3 (.cells #[.slice ba bn bc, .string o.name, .string o.elem.sp, .string o.elem.nm, .slice aa an ac, .string ⟨#[]⟩, .slice none 0 0] 155) _ hR3).trans HR3.out)
  have HX4 := Lib.hid ((Below.heap_alloc w3 (.cells #[.slice ba bn bc, .string o.name, .string o.elem.sp, .string o.elem.nm, .slice aa an ac, .string ⟨#[]⟩, .slice none 0 0] 155) _ hX3).trans HX3.out)
  have HE4 := Lib.hid (box_new w3 #[.slice ba bn bc, .string o.name, .string o.elem.sp, .string o.elem.nm, .slice aa an ac, .string ⟨#[]⟩, .slice none 0 0] 155)
  have HD4 := Lib.hid (HSD.out.below ((Below.refl _ w3).alloc (Nat.le_refl _) (.cells #[.slice ba bn bc, .string o.name, .string o.elem.sp, .string o.elem.nm, .slice aa an ac, .string ⟨#[]⟩, .slice none 0 0] 155)))
  have HA4 := Lib.hid (HSA.out.below ((Below.refl _ w3).alloc (Nat.le_refl _) (.cells #[.slice ba bn bc, .string o.name, .string o.elem.sp, .string o.elem.nm, .slice aa an ac, .string ⟨#[]⟩, .slice none 0 0] 155)))
  clear hb C hsd hsa HSD HSA HB2 HR2 HX2
  have hPl := (HS.out.below HB3.out).boxlt
  have x3 : w3.cell? ⟨P, 3, none⟩ = some (.slice oa s.os.length oc) := by
    have := (bxS (HS.out.below HB3.out).box).1.2.2.2.1
    rw [HOP.out] at this; exact this
  have e0 : ((s.os.length : Int) == 0) = false := by rw [beq_eq_false_iff_ne]; have := H16.out; omega
  have e1 : decide ((16 : Int) < (s.os.length : Int)) = true := by rw [decide_eq_true_iff]; have := H16.out; omega
  obtain ⟨z0, z1, z2, z3, z4, z5, z6⟩ := bx7 HR3.out
  have fz := bx7e HR3.out
  have fz0 := fz 0
  have fz1 := fz 1
  have fz2 := fz 2
  have fz3 := fz 3
  have fz4 := fz 4
  have fz5 := fz 5
  have fz6 := fz 6
  clear fz
  go_wp2_with fail
  exact bodyPost_ret (v := .tuple #[(.agg #[.int .i64 0, .string ⟨#[]⟩, .string ⟨#[]⟩, .slice none 0 0, .string ⟨#[]⟩, .slice none 0 0, .int .i64 0]), .int .i64 62]) (by simp [results, Tryz.results74, go_sem, z0, z1, z2, z3, z4, z5, z6, hR3]) rfl (ResP.bad HS.out HO.out T.out rfl ((set7 HB3.out (Nat.le_refl _) _ _ _ _ _ _ _).alloc (by simp [World.setCell]; omega) _))
set_option maxRecDepth 100000 in
set_option maxHeartbeats 8000000 in
theorem begin_top0 (N P : Nat) (v : Vw) (s : St) (t : ByteArray) (w : World) (h : Sc N P v w s) (hov : s.over = false) (ht : t.size ≤ 1048576) (h2 : 2 ≤ t.size) {cs : List Nat} (hT : Sg.IsT (inner2 t.data.toList) cs) (hol : s.os.length ≤ 1048576) {b : Bg} (hb : readBg t.data.toList = some b) {o : Sn.Op} (hr : Sn.read s.os b = (0, o)) (h0 : s.os.length = 0) (hem : b.empty = true) :
    Calls Tryz.prog 74 #[.pointer (some ⟨P, 0, none⟩), .string t] w (ResP N P v w (tagBegin s t.data.toList)) := by
  have HOL := Lib.hid hol
  have B := Lib.hid (fun W => readBeginning_any t W ht h2 hT)
  have HS := Lib.hid h
  have HO := Lib.hid hov
  have HB0 : Hid (Below w.heap.size w (w.alloc (.cells #[.int .i64 0, .string ⟨#[]⟩, .string ⟨#[]⟩, .slice none 0 0, .string ⟨#[]⟩, .slice none 0 0, .int .i64 0] 50))) := (Below.refl _ _).alloc (Nat.le_refl _) _
  have HR0 : Hid ((w.alloc (.cells #[.int .i64 0, .string ⟨#[]⟩, .string ⟨#[]⟩, .slice none 0 0, .string ⟨#[]⟩, .slice none 0 0, .int .i64 0] 50)).heap[w.heap.size]? = some (.cells #[.int .i64 0, .string ⟨#[]⟩, .string ⟨#[]⟩, .slice none 0 0, .string ⟨#[]⟩, .slice none 0 0, .int .i64 0] 50 (0, 0))) := box_new w _ _
  have T := Lib.hid (tb_top0 hb hr h0 hem)
  have H0 := Lib.hid h0
  obtain ⟨oa, oc, hop⟩ := h.opnIs
  rw [h0] at hop
  have HOP := Lib.hid hop
  have HEM := Lib.hid hem
  clear h0 hop hem
  obtain ⟨f1, f2, f3⟩ := readBg_fit ht hb
  have RD := Lib.hid (fun (va : Option Addr) (vc : Nat) W (hbw : Below w.heap.size w W) hA => read_any N P v s b va vc W (h.below hbw) hol f2 f1 f3 hA)
  rw [hb] at B
  rw [hr] at RD
  unfold RbP at B
  unfold RdP at RD
  simp only [reduceCtorEq, false_and, false_or, Option.some.injEq] at B
  have HBL := Lib.hid f2
  clear h hov ht h2 hT hol hb hr f1 f2 f3
  obtain ⟨nm, al, em⟩ := b
  go_enter Tryz.func74, Tryz.ntmps74
  go_wp2_with fail
  generalize w.alloc (.cells #[.int .i64 0, .string ⟨#[]⟩, .string ⟨#[]⟩, .slice none 0 0, .string ⟨#[]⟩, .slice none 0 0, .int .i64 0] 50) = W0 at HB0 HR0 ⊢
  refine (B.out _).mono ?_
  rintro r w1 ⟨⟨b2, vv, rfl, rfl, hsl⟩, hb⟩
  obtain ⟨va, vc, rfl, hat⟩ := sla_form hsl
  have HA1 := Lib.hid (hat.weak (S' := Any8) (fun _ _ _ => trivial))
  have HB1 := Lib.hid (HB0.out.trans (hb.mono HB0.out.size))
  have HR1 := Lib.hid ((hb.block _ (heap_lt HR0.out)).trans HR0.out)
  have hRl := heap_lt HR1.out
  clear hb hsl hat B
  simp only at *
  go_wp2_with fail
  have HB2 := Lib.hid (HB1.out.alloc HB1.out.size (.cells #[.string nm, .slice va al.length vc, .bool em] 159))
  have HR2 := Lib.hid ((Below.heap_alloc w1 (.cells #[.string nm, .slice va al.length vc, .bool em] 159) _ hRl).trans HR1.out)
  have HX2 := Lib.hid (box_new w1 #[.string nm, .slice va al.length vc, .bool em] 159)
  have HA2 := Lib.hid (HA1.out.below ((Below.refl _ w1).alloc (Nat.le_refl _) (.cells #[.string nm, .slice va al.length vc, .bool em] 159)))
  generalize w1.alloc (.cells #[.string nm, .slice va al.length vc, .bool em] 159) = W2 at HB2 HR2 HX2 HA2 ⊢
  generalize w1.heap.size = Bk at HX2 hRl ⊢
  have C := Lib.hid (RD.out va vc W2 HB2.out HA2.out)
  clear HB0 HR0 HB1 HR1 HA1 RD HA2
  refine C.out.mono ?_
  rintro r w3 ⟨⟨h0, _⟩ | ⟨_, bv, av, rfl, hsd, hsa⟩, hb⟩
  case inl => exact absurd rfl h0
  have HB3 := Lib.hid (HB2.out.trans (hb.mono HB2.out.size))
  have HR3 := Lib.hid ((hb.block _ (heap_lt HR2.out)).trans HR2.out)
  have HX3 := Lib.hid ((hb.block _ (heap_lt HX2.out)).trans HX2.out)
  have hW2 := HB2.out.size
  have hR2 := heap_lt HR2.out
  have HSD := Lib.hid hsd
  have HSA := Lib.hid hsa
  obtain ⟨ba, bc, rfl, _⟩ := sla_form hsd
  obtain ⟨aa, ac, rfl, _⟩ := sla_form hsa
  generalize o.decl.length = bn at HSD ⊢
  generalize o.elem.atr.length = an at HSA ⊢
  have hR3 := heap_lt HR3.out
  have hX3 := heap_lt HX3.out
  have HB4 := Lib.hid (HB3.out.alloc HB3.out.size (.cells #[.slice ba bn bc, .string o.name, .string o.elem.sp, .string o.elem.nm, .slice aa an ac, .string ⟨#[]⟩, .slice none 0 0] 155))
  have HR4 := Lib.hid ((Below.heap_alloc w3 (.cells #[.slice ba bn bc, .string o.name, .string o.elem.sp, .string o.elem.nm, .slice aa an ac, .string ⟨#[]⟩, .slice none 0 0] 155) _ hR3).trans HR3.out)
  have HX4 := Lib.hid ((Below.heap_alloc w3 (.cells #[.slice ba bn bc, .string o.name, .string o.elem.sp, .string o.elem.nm, .slice aa an ac, .string ⟨#[]⟩, .slice none 0 0] 155) _ hX3).trans HX3.out)
  have HE4 := Lib.hid (box_new w3 #[.slice ba bn bc, .string o.name, .string o.elem.sp, .string o.elem.nm, .slice aa an ac, .string ⟨#[]⟩, .slice none 0 0] 155)
  have HD4 := Lib.hid (HSD.out.below ((Below.refl _ w3).alloc (Nat.le_refl _) (.cells #[.slice ba bn bc, .string o.name, .string o.elem.sp, .string o.elem.nm, .slice aa an ac, .string ⟨#[]⟩, .slice none 0 0] 155)))
  have HA4 := Lib.hid (HSA.out.below ((Below.refl _ w3).alloc (Nat.le_refl _) (.cells #[.slice ba bn bc, .string o.name, .string o.elem.sp, .string o.elem.nm, .slice aa an ac, .string ⟨#[]⟩, .slice none 0 0] 155)))
  clear hb C hsd hsa HSD HSA HB2 HR2 HX2
  have hPl := (HS.out.below HB3.out).boxlt
  have x3 : w3.cell? ⟨P, 3, none⟩ = some (.slice oa 0 oc) := by
    have := (bxS (HS.out.below HB3.out).box).1.2.2.2.1
    rw [HOP.out] at this; exact this
  have hX := HX3.out
  rw [show em = true from HEM.out] at hX
  obtain ⟨y0, y1, y2⟩ := bx3 hX
  clear hX
  obtain ⟨z0, z1, z2, z3, z4, z5, z6⟩ := bx7 HR3.out
  have fz := bx7e HR3.out
  have fz0 := fz 0
  have fz1 := fz 1
  have fz2 := fz 2
  have fz3 := fz 3
  have fz4 := fz 4
  have fz5 := fz 5
  have fz6 := fz 6
  clear fz
  go_wp2_with fail
  exact bodyPost_ret (v := .tuple #[(.agg #[.int .i64 0, .string ⟨#[]⟩, .string ⟨#[]⟩, .slice none 0 0, .string ⟨#[]⟩, .slice none 0 0, .int .i64 0]), .int .i64 60]) (by simp [results, Tryz.results74, go_sem, z0, z1, z2, z3, z4, z5, z6, hR3]) rfl (ResP.bad HS.out HO.out T.out rfl ((set7 HB3.out (Nat.le_refl _) _ _ _ _ _ _ _).alloc (by simp [World.setCell]; omega) _))
end Go.Proofs.YtolnpfcncmcacaaGreatDoor

/- One more element is open: what lies behind the append to the row of the open elements. No condition. -/
namespace Go.Proofs.YtolnpfcncmcacaaGreatDoor
open Go.RowKit Go.Lib Go.Shelf Tg Sn

theorem imm_new {N P R B : Nat} {v : Vw} {w : World} {s : St} (h : Sc N P v w s) (hR : w.heap.size ≤ R) (hB : R < B) {b : Nat} (hb : B ≤ b) : Imm N P (plus v R) b := by
  refine ⟨by have := h.low.2.2; omega, fun hm => by have := h.mutlt (b := b) hm; omega, fun hf => ?_⟩
  rcases hf with e | e
  · have := (h.off b e).1; omega
  · omega
theorem pushed {N P R B g cap : Nat} {v : Vw} {w W4 w5 : World} {s : St} {o : Sn.Op} {x : Ov} {ob ob2 : Obj} (h : Sc N P v w s) (hb : Below w.heap.size w W4) (hR : w.heap.size ≤ R) (hr : W4.heap[R]? = some ob2) (hB : R < B)
    (hd : SlA (fun b => B ≤ b) W4 x.b o.decl) (ha : SlA (fun b => B ≤ b) W4 x.a o.elem.atr) (hk : x.k = .slice none 0 0) (hks : o.elem.ks = []) (hz : Szd o.elem.sp o.elem.nm o.elem.tx o.elem.atr) (hf : Fit 1048576 o.decl ∧ o.decl.length ≤ 1048576 ∧ o.name.size ≤ 1048576)
    (hown : w5.ownsRow N 155 7 (.slice (some ⟨g, 0, none⟩) (s.os.length + 1) cap) (s.os.length + 1) (cellsO s.os v.os ++ cells1 o x)) (hgrow : (W4.alloc ob).drew.grownBy w5 v.opn.ownBlock) (hat : v.opn.ownBlock = some g ∨ g = W4.heap.size + 1) :
    Sc N P { plus v R with opn := .slice (some ⟨g, 0, none⟩) (s.os.length + 1) cap, os := v.os ++ [x] } (w5.setCell ⟨P, 3, none⟩ (.slice (some ⟨g, 0, none⟩) (s.os.length + 1) cap)) { s with os := s.os ++ [o] } ∧
      Fr P (plus v R) W4 (w5.setCell ⟨P, 3, none⟩ (.slice (some ⟨g, 0, none⟩) (s.os.length + 1) cap)) { plus v R with opn := .slice (some ⟨g, 0, none⟩) (s.os.length + 1) cap, os := v.os ++ [x] } := by
  obtain ⟨hS, _⟩ := h.addFar hb hR (heap_lt hr)
  have hPo : ∀ b, v.opn.ownBlock = some b → b ≠ P ∧ b < w.heap.size := fun b e => by
    obtain ⟨_, c, hc⟩ := own_heap h.opn e
    exact ⟨ne_of_type hc h.box (by decide), heap_lt hc⟩
  have hgP : g ≠ P := by
    rcases hat with e | e
    · exact (hPo g e).1
    · have := hS.boxlt; omega
  have ho : Ow (fun b => b = P ∨ (plus v R).opn.ownBlock = some b) W4 (w5.setCell ⟨P, 3, none⟩ (.slice (some ⟨g, 0, none⟩) (s.os.length + 1) cap)) := by
    have o1 : Ow (fun b => b = P ∨ (plus v R).opn.ownBlock = some b) W4 (W4.alloc ob) := (Ow.refl _ W4).alloc ob
    exact ((o1.call (bel_drew (W4.alloc ob) 1)).grown hgrow (fun b e _ => .inr e)).set (fun _ => .inl rfl) _
  refine hS.push ho ?_ ?_ ?_ (by rw [hk]; rfl) fun hF => ?_
  · have hP5 : w5.heap[P]? = some (.cells (scells (plus v R) s) 62 (0, 0)) := (hgrow.block P (by have := hS.boxlt; simp; omega) (fun e => (hPo P e.symm).1 rfl)).trans ((Below.heap_alloc _ _ _ hS.boxlt).trans hS.box)
    exact setCell_heap hP5 rfl
  · exact own_keep hown fun b e => by cases e; exact setCell_other hgP
  · intro b e
    have e' : g = b := by cases e; rfl
    subst e'
    rcases hat with e | e
    · exact .inl e
    · exact .inr (by omega)
  · have d1 : SlA (Imm N P (plus v R)) W4 x.b o.decl := hd.weak fun b _ hb' => imm_new h hR hB hb'
    have a1 : SlA (Imm N P (plus v R)) W4 x.a o.elem.atr := ha.weak fun b _ hb' => imm_new h hR hB hb'
    refine ⟨d1.fr hF, a1.fr hF, ?_, hz, hf⟩
    rw [hk, hks]
    exact KidsRow.nil _ _ _
end Go.Proofs.YtolnpfcncmcacaaGreatDoor

/- The contract of (*Scanner).begin, third part: an element within another. Condition: texts, children and open elements are at most 1048576; the tag is text. -/
namespace Go.Proofs.YtolnpfcncmcacaaGreatDoor
open Go.RowKit Go.Lib Go.Shelf Tg Sn

theorem infoElt : (Tryz.prog.info? 155).map (fun i => (i.zero, i.size, i.bytes)) = some (some (.agg #[.slice none 0 0, .string ⟨#[]⟩, .string ⟨#[]⟩, .string ⟨#[]⟩, .slice none 0 0, .string ⟨#[]⟩, .slice none 0 0]), 7, 136) := by kernel_rfl
set_option maxRecDepth 100000 in
set_option maxHeartbeats 8000000 in
theorem begin_in (N P : Nat) (v : Vw) (s : St) (t : ByteArray) (w : World) (h : Sc N P v w s) (hov : s.over = false) (ht : t.size ≤ 1048576) (h2 : 2 ≤ t.size) {cs : List Nat} (hT : Sg.IsT (inner2 t.data.toList) cs) (hol : s.os.length ≤ 1048576) {b : Bg} (hb : readBg t.data.toList = some b) {o : Sn.Op} (hr : Sn.read s.os b = (0, o)) (h0 : s.os.length ≠ 0) (h16 : ¬ 16 < s.os.length) (hem : b.empty = false) :
    Calls Tryz.prog 74 #[.pointer (some ⟨P, 0, none⟩), .string t] w (ResP N P v w (tagBegin s t.data.toList)) := by
  have HOL := Lib.hid hol
  have B := Lib.hid (fun W => readBeginning_any t W ht h2 hT)
  have HS := Lib.hid h
  have HO := Lib.hid hov
  have HB0 : Hid (Below w.heap.size w (w.alloc (.cells #[.int .i64 0, .string ⟨#[]⟩, .string ⟨#[]⟩, .slice none 0 0, .string ⟨#[]⟩, .slice none 0 0, .int .i64 0] 50))) := (Below.refl _ _).alloc (Nat.le_refl _) _
  have HR0 : Hid ((w.alloc (.cells #[.int .i64 0, .string ⟨#[]⟩, .string ⟨#[]⟩, .slice none 0 0, .string ⟨#[]⟩, .slice none 0 0, .int .i64 0] 50)).heap[w.heap.size]? = some (.cells #[.int .i64 0, .string ⟨#[]⟩, .string ⟨#[]⟩, .slice none 0 0, .string ⟨#[]⟩, .slice none 0 0, .int .i64 0] 50 (0, 0))) := box_new w _ _
  have T := Lib.hid (tb_in hb hr h0 h16 hem)
  have H0 := Lib.hid h0
  have H16 := Lib.hid h16
  obtain ⟨oa, oc, hop⟩ := h.opnIs
  have HOP := Lib.hid hop
  have HEM := Lib.hid hem
  have hos : ∀ o ∈ s.os, Fit 1048576 o.decl := fun o ho => by
    obtain ⟨i, hi, rfl⟩ := List.getElem_of_mem ho
    exact (h.part i hi (by rw [h.len]; exact hi)).f.1
  have HFT := Lib.hid (read_fit hr (readBg_fit ht hb).1 (readBg_fit ht hb).2.1 (readBg_fit ht hb).2.2 hos)
  clear h0 h16 hop hem hos
  obtain ⟨f1, f2, f3⟩ := readBg_fit ht hb
  have RD := Lib.hid (fun (va : Option Addr) (vc : Nat) W (hbw : Below w.heap.size w W) hA => read_any N P v s b va vc W (h.below hbw) hol f2 f1 f3 hA)
  rw [hb] at B
  rw [hr] at RD
  unfold RbP at B
  unfold RdP at RD
  simp only [reduceCtorEq, false_and, false_or, Option.some.injEq] at B
  have HBL := Lib.hid f2
  clear h hov ht h2 hT hol hb hr f1 f2 f3
  obtain ⟨nm, al, em⟩ := b
  go_enter Tryz.func74, Tryz.ntmps74
  go_wp2_with fail
  generalize w.alloc (.cells #[.int .i64 0, .string ⟨#[]⟩, .string ⟨#[]⟩, .slice none 0 0, .string ⟨#[]⟩, .slice none 0 0, .int .i64 0] 50) = W0 at HB0 HR0 ⊢
  refine (B.out _).mono ?_
  rintro r w1 ⟨⟨b2, vv, rfl, rfl, hsl⟩, hb⟩
  obtain ⟨va, vc, rfl, hat⟩ := sla_form hsl
  have HA1 := Lib.hid (hat.weak (S' := Any8) (fun _ _ _ => trivial))
  have HB1 := Lib.hid (HB0.out.trans (hb.mono HB0.out.size))
  have HR1 := Lib.hid ((hb.block _ (heap_lt HR0.out)).trans HR0.out)
  have hRl := heap_lt HR1.out
  clear hb hsl hat B
  simp only at *
  go_wp2_with fail
  have HB2 := Lib.hid (HB1.out.alloc HB1.out.size (.cells #[.string nm, .slice va al.length vc, .bool em] 159))
  have HR2 := Lib.hid ((Below.heap_alloc w1 (.cells #[.string nm, .slice va al.length vc, .bool em] 159) _ hRl).trans HR1.out)
  have HX2 := Lib.hid (box_new w1 #[.string nm, .slice va al.length vc, .bool em] 159)
  have HA2 := Lib.hid (HA1.out.below ((Below.refl _ w1).alloc (Nat.le_refl _) (.cells #[.string nm, .slice va al.length vc, .bool em] 159)))
  generalize w1.alloc (.cells #[.string nm, .slice va al.length vc, .bool em] 159) = W2 at HB2 HR2 HX2 HA2 ⊢
  generalize w1.heap.size = Bk at HX2 hRl ⊢
  have C := Lib.hid (RD.out va vc W2 HB2.out HA2.out)
  clear HB0 HR0 HB1 HR1 HA1 RD HA2
  refine C.out.mono ?_
  rintro r w3 ⟨⟨h0, _⟩ | ⟨_, bv, av, rfl, hsd, hsa⟩, hb⟩
  case inl => exact absurd rfl h0
  have HB3 := Lib.hid (HB2.out.trans (hb.mono HB2.out.size))
  have HR3 := Lib.hid ((hb.block _ (heap_lt HR2.out)).trans HR2.out)
  have HX3 := Lib.hid ((hb.block _ (heap_lt HX2.out)).trans HX2.out)
  have hW2 := HB2.out.size
  have hR2 := heap_lt HR2.out
  have HSD := Lib.hid hsd
  have HSA := Lib.hid hsa
  obtain ⟨ba, bc, rfl, _⟩ := sla_form hsd
  obtain ⟨aa, ac, rfl, _⟩ := sla_form hsa
  generalize o.decl.length = bn at HSD ⊢
  generalize o.elem.atr.length = an at HSA ⊢
  have hR3 := heap_lt HR3.out
  have hX3 := heap_lt HX3.out
  have HB4 := Lib.hid (HB3.out.alloc HB3.out.size (.cells #[.slice ba bn bc, .string o.name, .string o.elem.sp, .string o.elem.nm, .slice aa an ac, .string ⟨#[]⟩, .slice none 0 0] 155))
  have HR4 := Lib.hid ((Below.heap_alloc w3 (.cells #[.slice ba bn bc, .string o.name, .string o.elem.sp, .string o.elem.nm, .slice aa an ac, .string ⟨#[]⟩, .slice none 0 0] 155) _ hR3).trans HR3.out)
  have HX4 := Lib.hid ((Below.heap_alloc w3 (.cells #[.slice ba bn bc, .string o.name, .string o.elem.sp, .string o.elem.nm, .slice aa an ac, .string ⟨#[]⟩, .slice none 0 0] 155) _ hX3).trans HX3.out)
  have HE4 := Lib.hid (box_new w3 #[.slice ba bn bc, .string o.name, .string o.elem.sp, .string o.elem.nm, .slice aa an ac, .string ⟨#[]⟩, .slice none 0 0] 155)
  have HD4 := Lib.hid (HSD.out.below ((Below.refl _ w3).alloc (Nat.le_refl _) (.cells #[.slice ba bn bc, .string o.name, .string o.elem.sp, .string o.elem.nm, .slice aa an ac, .string ⟨#[]⟩, .slice none 0 0] 155)))
  have HA4 := Lib.hid (HSA.out.below ((Below.refl _ w3).alloc (Nat.le_refl _) (.cells #[.slice ba bn bc, .string o.name, .string o.elem.sp, .string o.elem.nm, .slice aa an ac, .string ⟨#[]⟩, .slice none 0 0] 155)))
  clear hb C hsd hsa HSD HSA HB2 HR2 HX2
  have hPl := (HS.out.below HB3.out).boxlt
  have x3 : w3.cell? ⟨P, 3, none⟩ = some (.slice oa s.os.length oc) := by
    have := (bxS (HS.out.below HB3.out).box).1.2.2.2.1
    rw [HOP.out] at this; exact this
  have e0 : ((s.os.length : Int) == 0) = false := by rw [beq_eq_false_iff_ne]; have := H0.out; omega
  have e1 : decide ((16 : Int) < (s.os.length : Int)) = false := by rw [decide_eq_false_iff_not]; have := H16.out; omega
  have e2 : ¬ ((16 : Int) < (s.os.length : Int)) := by have := H16.out; omega
  go_wp2_with fail
  generalize w3.alloc (.cells #[.slice ba bn bc, .string o.name, .string o.elem.sp, .string o.elem.nm, .slice aa an ac, .string ⟨#[]⟩, .slice none 0 0] 155) = W4 at HB4 HR4 HX4 HE4 HD4 HA4 ⊢
  generalize w3.heap.size = Eb at HE4 ⊢
  clear x3 e0 e1 e2 hPl HB3 HR3 HX3
  have hS4 := HS.out.below HB4.out
  have hO := Lib.hid hS4.opn
  rw [HOP.out] at hO
  obtain ⟨⟨x0, x1, x2, x3, x4, x5, x6⟩, hf⟩ := bxS hS4.box
  rw [HOP.out] at x3
  have f3 := hf 3
  have hPl := hS4.boxlt
  have hEl := heap_lt HE4.out
  have HS4 := Lib.hid hS4
  have hl16 : s.os.length ≤ 16 := by have := H16.out; omega
  have hN4 : N ≤ W4.heap.size := hS4.low.2.2
  have HPO : Hid (∀ b, (Value.slice oa s.os.length oc).ownBlock = some b → b ≠ P) := fun b e => by
    rw [← HOP.out] at e
    obtain ⟨_, c, hc⟩ := own_heap HS.out.opn e
    exact ne_of_type hc HS.out.box (by decide)
  clear x0 x1 x2 x4 x5 x6 hf hS4
  obtain ⟨q0, q1, q2, q3, q4, q5, q6⟩ := bx7 HE4.out
  obtain ⟨i0, hi0, hz0, hz1, hz2⟩ := info_parts infoElt
  go_region_law
    ((refine step_append_lies _ (by rfl) _ _ _ (by rfl) N 155 i0 _ 7 136 Tryz.underlying60 hi0 hz0 hz1 hz2 rfl (by omega) (.slice oa s.os.length oc) s.os.length (cellsO s.os v.os) (by rfl) ((hO.out.alloc _).drew)
        ⟨W4.heap.size, 0, none⟩ 1 1 [.slice ba bn bc, .string o.name, .string o.elem.sp, .string o.elem.nm, .slice aa an ac, .string ⟨#[]⟩, .slice none 0 0] (by rfl) (by rfl) (World.news_of_block (cs := #[.slice ba bn bc, .string o.name, .string o.elem.sp, .string o.elem.nm, .slice aa an ac, .string ⟨#[]⟩, .slice none 0 0]) (t := 155) (fr := (0, 0)) (heap_alloc_new W4 _)) (by simp [Value.oneCell'])
        (by omega) (by unfold maxLen; omega) (by omega) (by simp; omega) (W4.heap.size + 1) (by simp) ?_; intro G cap2 w8 hown hgrow hat hlt8; have HP8 : Hid (w8.heap[P]? = _) := ((hgrow.block P (by simp; omega) (fun e => HPO.out P e.symm rfl)).trans ((Below.heap_alloc _ _ _ hPl).trans HS4.out.box)); have c38 : w8.cell? ⟨P, 3, none⟩ = some (.slice oa s.os.length oc) := (by have := (bxS HP8.out).1.2.2.2.1; rw [HOP.out] at this; exact this); have f38 := (bxS HP8.out).2 3))
  all_goals
    have hkw : ∀ b, (Value.slice oa s.os.length oc).ownBlock = some b → b < w.heap.size := fun b e => by
      rw [← HOP.out] at e
      obtain ⟨_, c, hc⟩ := own_heap HS.out.opn e
      exact heap_lt hc
    have hb8 : ∀ b, b < W4.heap.size → w.heap.size ≤ b → w8.heap[b]? = W4.heap[b]? := fun b h1 h2 => (hgrow.block b (by simp; omega) (fun e => by have := hkw b e.symm; omega)).trans (Below.heap_alloc _ _ _ h1)
    have HPU := Lib.hid (pushed (x := ⟨.slice ba bn bc, .slice aa an ac, .slice none 0 0⟩) (o := o) HS.out HB4.out (Nat.le_refl _) HR4.out hR2 HD4.out HA4.out rfl HFT.out.2.2.2.2.1 HFT.out.1 ⟨HFT.out.2.1, HFT.out.2.2.1, HFT.out.2.2.2.1⟩ (by unfold cells1; rw [HFT.out.2.2.2.2.2]; exact hown) (by rw [HOP.out]; exact hgrow) (by rw [HOP.out]; exact hat))
    have hPR : w.heap.size ≠ P := by have := HS.out.boxlt; omega
    have HR5 := Lib.hid ((setCell_other (i := 3) (u := .slice (some ⟨G, 0, none⟩) (s.os.length + 1) cap2) hPR).trans ((hb8 _ (heap_lt HR4.out) (Nat.le_refl _)).trans HR4.out))
    have hPB : Bk ≠ P := by have := HS.out.boxlt; omega
    have HX5 := Lib.hid ((setCell_other (i := 3) (u := .slice (some ⟨G, 0, none⟩) (s.os.length + 1) cap2) hPB).trans ((hb8 Bk (heap_lt HX4.out) (by omega)).trans HX4.out))
    clear hown hgrow hat hlt8 c38 f38 HP8 hkw hb8 q0 q1 q2 q3 q4 q5 q6 x3 f3
    generalize w8.setCell ⟨P, 3, none⟩ (.slice (some ⟨G, 0, none⟩) (s.os.length + 1) cap2) = W5 at HPU HR5 HX5 ⊢
    obtain ⟨y0, y1, y2⟩ := bx3 HX5.out
    rw [show em = false from HEM.out] at y2
    obtain ⟨z0, z1, z2, z3, z4, z5, z6⟩ := bx7 HR5.out
    have fz := bx7e HR5.out
    have fz0 := fz 0
    have fz1 := fz 1
    have fz2 := fz 2
    have fz3 := fz 3
    have fz4 := fz 4
    have fz5 := fz 5
    have fz6 := fz 6
    clear fz
    go_wp2_with fail
    refine bodyPost_ret (v := .tuple #[(.agg #[.int .i64 0, .string ⟨#[]⟩, .string ⟨#[]⟩, .slice none 0 0, .string ⟨#[]⟩, .slice none 0 0, .int .i64 0]), .int .i64 0]) (by simp [results, Tryz.results74, go_sem, z0, z1, z2, z3, z4, z5, z6]) rfl ?_
    exact ResP.inn HS.out HB4.out (Nat.le_refl _) HPU.out.2 (by rw [T.out]; exact ⟨fun _ => HPU.out.1, fun hc => by have hc : s.over = true := hc; rw [HO.out] at hc; cases hc⟩) (by rw [T.out]; exact EvS.zero _ _ 0 0) ((Ow.refl _ _).set7s _ _ _ _ _ _ _) (by rw [T.out]; rfl)
end Go.Proofs.YtolnpfcncmcacaaGreatDoor

/- The contract of (*Scanner).begin, fourth part: an empty element within another. Condition: texts, children and open elements are at most 1048576; the tag is text. -/
namespace Go.Proofs.YtolnpfcncmcacaaGreatDoor
open Go.RowKit Go.Lib Go.Shelf Tg Sn

set_option maxRecDepth 100000 in
set_option maxHeartbeats 8000000 in
theorem begin_in0 (N P : Nat) (v : Vw) (s : St) (t : ByteArray) (w : World) (h : Sc N P v w s) (hov : s.over = false) (ht : t.size ≤ 1048576) (h2 : 2 ≤ t.size) {cs : List Nat} (hT : Sg.IsT (inner2 t.data.toList) cs) (hol : s.os.length ≤ 1048576) {b : Bg} (hb : readBg t.data.toList = some b) {o : Sn.Op} (hr : Sn.read s.os b = (0, o)) (h0 : s.os.length ≠ 0) (h16 : ¬ 16 < s.os.length) (hem : b.empty = true) (hk : ∀ o ∈ s.os, o.elem.ks.length ≤ 1048576) :
    Calls Tryz.prog 74 #[.pointer (some ⟨P, 0, none⟩), .string t] w (ResP N P v w (tagBegin s t.data.toList)) := by
  have HOL := Lib.hid hol
  have B := Lib.hid (fun W => readBeginning_any t W ht h2 hT)
  have HS := Lib.hid h
  have HO := Lib.hid hov
  have HB0 : Hid (Below w.heap.size w (w.alloc (.cells #[.int .i64 0, .string ⟨#[]⟩, .string ⟨#[]⟩, .slice none 0 0, .string ⟨#[]⟩, .slice none 0 0, .int .i64 0] 50))) := (Below.refl _ _).alloc (Nat.le_refl _) _
  have HR0 : Hid ((w.alloc (.cells #[.int .i64 0, .string ⟨#[]⟩, .string ⟨#[]⟩, .slice none 0 0, .string ⟨#[]⟩, .slice none 0 0, .int .i64 0] 50)).heap[w.heap.size]? = some (.cells #[.int .i64 0, .string ⟨#[]⟩, .string ⟨#[]⟩, .slice none 0 0, .string ⟨#[]⟩, .slice none 0 0, .int .i64 0] 50 (0, 0))) := box_new w _ _
  have T := Lib.hid (tb_in0 hb hr h0 h16 hem)
  have H0 := Lib.hid h0
  have H16 := Lib.hid h16
  obtain ⟨oa, oc, hop⟩ := h.opnIs
  have HOP := Lib.hid hop
  have HEM := Lib.hid hem
  have hos : ∀ o ∈ s.os, Fit 1048576 o.decl := fun o ho => by
    obtain ⟨i, hi, rfl⟩ := List.getElem_of_mem ho
    exact (h.part i hi (by rw [h.len]; exact hi)).f.1
  have HFT := Lib.hid (read_fit hr (readBg_fit ht hb).1 (readBg_fit ht hb).2.1 (readBg_fit ht hb).2.2 hos)
  have HK := Lib.hid hk
  clear h0 h16 hop hem hos hk
  obtain ⟨f1, f2, f3⟩ := readBg_fit ht hb
  have RD := Lib.hid (fun (va : Option Addr) (vc : Nat) W (hbw : Below w.heap.size w W) hA => read_any N P v s b va vc W (h.below hbw) hol f2 f1 f3 hA)
  rw [hb] at B
  rw [hr] at RD
  unfold RbP at B
  unfold RdP at RD
  simp only [reduceCtorEq, false_and, false_or, Option.some.injEq] at B
  have HBL := Lib.hid f2
  clear h hov ht h2 hT hol hb hr f1 f2 f3
  obtain ⟨nm, al, em⟩ := b
  go_enter Tryz.func74, Tryz.ntmps74
  go_wp2_with fail
  generalize w.alloc (.cells #[.int .i64 0, .string ⟨#[]⟩, .string ⟨#[]⟩, .slice none 0 0, .string ⟨#[]⟩, .slice none 0 0, .int .i64 0] 50) = W0 at HB0 HR0 ⊢
  refine (B.out _).mono ?_
  rintro r w1 ⟨⟨b2, vv, rfl, rfl, hsl⟩, hb⟩
  obtain ⟨va, vc, rfl, hat⟩ := sla_form hsl
  have HA1 := Lib.hid (hat.weak (S' := Any8) (fun _ _ _ => trivial))
  have HB1 := Lib.hid (HB0.out.trans (hb.mono HB0.out.size))
  have HR1 := Lib.hid ((hb.block _ (heap_lt HR0.out)).trans HR0.out)
  have hRl := heap_lt HR1.out
  clear hb hsl hat B
  simp only at *
  go_wp2_with fail
  have HB2 := Lib.hid (HB1.out.alloc HB1.out.size (.cells #[.string nm, .slice va al.length vc, .bool em] 159))
  have HR2 := Lib.hid ((Below.heap_alloc w1 (.cells #[.string nm, .slice va al.length vc, .bool em] 159) _ hRl).trans HR1.out)
  have HX2 := Lib.hid (box_new w1 #[.string nm, .slice va al.length vc, .bool em] 159)
  have HA2 := Lib.hid (HA1.out.below ((Below.refl _ w1).alloc (Nat.le_refl _) (.cells #[.string nm, .slice va al.length vc, .bool em] 159)))
  generalize w1.alloc (.cells #[.string nm, .slice va al.length vc, .bool em] 159) = W2 at HB2 HR2 HX2 HA2 ⊢
  generalize w1.heap.size = Bk at HX2 hRl ⊢
  have C := Lib.hid (RD.out va vc W2 HB2.out HA2.out)
  clear HB0 HR0 HB1 HR1 HA1 RD HA2
  refine C.out.mono ?_
  rintro r w3 ⟨⟨h0, _⟩ | ⟨_, bv, av, rfl, hsd, hsa⟩, hb⟩
  case inl => exact absurd rfl h0
  have HB3 := Lib.hid (HB2.out.trans (hb.mono HB2.out.size))
  have HR3 := Lib.hid ((hb.block _ (heap_lt HR2.out)).trans HR2.out)
  have HX3 := Lib.hid ((hb.block _ (heap_lt HX2.out)).trans HX2.out)
  have hW2 := HB2.out.size
  have hR2 := heap_lt HR2.out
  have HSD := Lib.hid hsd
  have HSA := Lib.hid hsa
  obtain ⟨ba, bc, rfl, _⟩ := sla_form hsd
  obtain ⟨aa, ac, rfl, _⟩ := sla_form hsa
  generalize o.decl.length = bn at HSD ⊢
  generalize o.elem.atr.length = an at HSA ⊢
  have hR3 := heap_lt HR3.out
  have hX3 := heap_lt HX3.out
  have HB4 := Lib.hid (HB3.out.alloc HB3.out.size (.cells #[.slice ba bn bc, .string o.name, .string o.elem.sp, .string o.elem.nm, .slice aa an ac, .string ⟨#[]⟩, .slice none 0 0] 155))
  have HR4 := Lib.hid ((Below.heap_alloc w3 (.cells #[.slice ba bn bc, .string o.name, .string o.elem.sp, .string o.elem.nm, .slice aa an ac, .string ⟨#[]⟩, .slice none 0 0] 155) _ hR3).trans HR3.out)
  have HX4 := Lib.hid ((Below.heap_alloc w3 (.cells #[.slice ba bn bc, .string o.name, .string o.elem.sp, .string o.elem.nm, .slice aa an ac, .string ⟨#[]⟩, .slice none 0 0] 155) _ hX3).trans HX3.out)
  have HE4 := Lib.hid (box_new w3 #[.slice ba bn bc, .string o.name, .string o.elem.sp, .string o.elem.nm, .slice aa an ac, .string ⟨#[]⟩, .slice none 0 0] 155)
  have HD4 := Lib.hid (HSD.out.below ((Below.refl _ w3).alloc (Nat.le_refl _) (.cells #[.slice ba bn bc, .string o.name, .string o.elem.sp, .string o.elem.nm, .slice aa an ac, .string ⟨#[]⟩, .slice none 0 0] 155)))
  have HA4 := Lib.hid (HSA.out.below ((Below.refl _ w3).alloc (Nat.le_refl _) (.cells #[.slice ba bn bc, .string o.name, .string o.elem.sp, .string o.elem.nm, .slice aa an ac, .string ⟨#[]⟩, .slice none 0 0] 155)))
  clear hb C hsd hsa HSD HSA HB2 HR2 HX2
  have hPl := (HS.out.below HB3.out).boxlt
  have x3 : w3.cell? ⟨P, 3, none⟩ = some (.slice oa s.os.length oc) := by
    have := (bxS (HS.out.below HB3.out).box).1.2.2.2.1
    rw [HOP.out] at this; exact this
  have e0 : ((s.os.length : Int) == 0) = false := by rw [beq_eq_false_iff_ne]; have := H0.out; omega
  have e1 : decide ((16 : Int) < (s.os.length : Int)) = false := by rw [decide_eq_false_iff_not]; have := H16.out; omega
  have e2 : ¬ ((16 : Int) < (s.os.length : Int)) := by have := H16.out; omega
  go_wp2_with fail
  generalize w3.alloc (.cells #[.slice ba bn bc, .string o.name, .string o.elem.sp, .string o.elem.nm, .slice aa an ac, .string ⟨#[]⟩, .slice none 0 0] 155) = W4 at HB4 HR4 HX4 HE4 HD4 HA4 ⊢
  generalize w3.heap.size = Eb at HE4 ⊢
  clear x3 e0 e1 e2 hPl HB3 HR3 HX3
  have hS4 := HS.out.below HB4.out
  have hO := Lib.hid hS4.opn
  rw [HOP.out] at hO
  obtain ⟨⟨x0, x1, x2, x3, x4, x5, x6⟩, hf⟩ := bxS hS4.box
  rw [HOP.out] at x3
  have f3 := hf 3
  have hPl := hS4.boxlt
  have hEl := heap_lt HE4.out
  have HS4 := Lib.hid hS4
  have hl16 : s.os.length ≤ 16 := by have := H16.out; omega
  have hN4 : N ≤ W4.heap.size := hS4.low.2.2
  have HPO : Hid (∀ b, (Value.slice oa s.os.length oc).ownBlock = some b → b ≠ P) := fun b e => by
    rw [← HOP.out] at e
    obtain ⟨_, c, hc⟩ := own_heap HS.out.opn e
    exact ne_of_type hc HS.out.box (by decide)
  clear x0 x1 x2 x4 x5 x6 hf hS4
  obtain ⟨q0, q1, q2, q3, q4, q5, q6⟩ := bx7 HE4.out
  obtain ⟨i0, hi0, hz0, hz1, hz2⟩ := info_parts infoElt
  go_region_law
    ((refine step_append_lies _ (by rfl) _ _ _ (by rfl) N 155 i0 _ 7 136 Tryz.underlying60 hi0 hz0 hz1 hz2 rfl (by omega) (.slice oa s.os.length oc) s.os.length (cellsO s.os v.os) (by rfl) ((hO.out.alloc _).drew)
        ⟨W4.heap.size, 0, none⟩ 1 1 [.slice ba bn bc, .string o.name, .string o.elem.sp, .string o.elem.nm, .slice aa an ac, .string ⟨#[]⟩, .slice none 0 0] (by rfl) (by rfl) (World.news_of_block (cs := #[.slice ba bn bc, .string o.name, .string o.elem.sp, .string o.elem.nm, .slice aa an ac, .string ⟨#[]⟩, .slice none 0 0]) (t := 155) (fr := (0, 0)) (heap_alloc_new W4 _)) (by simp [Value.oneCell'])
        (by omega) (by unfold maxLen; omega) (by omega) (by simp; omega) (W4.heap.size + 1) (by simp) ?_; intro G cap2 w8 hown hgrow hat hlt8; have HP8 : Hid (w8.heap[P]? = _) := ((hgrow.block P (by simp; omega) (fun e => HPO.out P e.symm rfl)).trans ((Below.heap_alloc _ _ _ hPl).trans HS4.out.box)); have c38 : w8.cell? ⟨P, 3, none⟩ = some (.slice oa s.os.length oc) := (by have := (bxS HP8.out).1.2.2.2.1; rw [HOP.out] at this; exact this); have f38 := (bxS HP8.out).2 3))
  all_goals
    have hkw : ∀ b, (Value.slice oa s.os.length oc).ownBlock = some b → b < w.heap.size := fun b e => by
      rw [← HOP.out] at e
      obtain ⟨_, c, hc⟩ := own_heap HS.out.opn e
      exact heap_lt hc
    have hb8 : ∀ b, b < W4.heap.size → w.heap.size ≤ b → w8.heap[b]? = W4.heap[b]? := fun b h1 h2 => (hgrow.block b (by simp; omega) (fun e => by have := hkw b e.symm; omega)).trans (Below.heap_alloc _ _ _ h1)
    have HPU := Lib.hid (pushed (x := ⟨.slice ba bn bc, .slice aa an ac, .slice none 0 0⟩) (o := o) HS.out HB4.out (Nat.le_refl _) HR4.out hR2 HD4.out HA4.out rfl HFT.out.2.2.2.2.1 HFT.out.1 ⟨HFT.out.2.1, HFT.out.2.2.1, HFT.out.2.2.2.1⟩ (by unfold cells1; rw [HFT.out.2.2.2.2.2]; exact hown) (by rw [HOP.out]; exact hgrow) (by rw [HOP.out]; exact hat))
    have hPR : w.heap.size ≠ P := by have := HS.out.boxlt; omega
    have HR5 := Lib.hid ((setCell_other (i := 3) (u := .slice (some ⟨G, 0, none⟩) (s.os.length + 1) cap2) hPR).trans ((hb8 _ (heap_lt HR4.out) (Nat.le_refl _)).trans HR4.out))
    have hPB : Bk ≠ P := by have := HS.out.boxlt; omega
    have HX5 := Lib.hid ((setCell_other (i := 3) (u := .slice (some ⟨G, 0, none⟩) (s.os.length + 1) cap2) hPB).trans ((hb8 Bk (heap_lt HX4.out) (by omega)).trans HX4.out))
    clear hown hgrow hat hlt8 c38 f38 HP8 hkw hb8 q0 q1 q2 q3 q4 q5 q6 x3 f3
    generalize w8.setCell ⟨P, 3, none⟩ (.slice (some ⟨G, 0, none⟩) (s.os.length + 1) cap2) = W5 at HPU HR5 HX5 ⊢
    obtain ⟨y0, y1, y2⟩ := bx3 HX5.out
    rw [show em = true from HEM.out] at y2
    have D := Lib.hid (shut_any N P _ _ W5 HPU.out.1 HO.out (by simp) (by show (s.os ++ [o]).length ≤ _; simp; omega) (fun o' ho' => by
      rcases List.mem_append.1 ho' with h1 | h1
      · exact HK.out o' h1
      · rw [List.mem_singleton.1 h1, HFT.out.2.2.2.2.1]; exact Nat.zero_le _))
    go_wp2_with fail
    refine D.out.mono ?_
    rintro r w6 ⟨v', val, rfl, hE, hSc, hF⟩
    have hoff := (HPU.out.1.off w.heap.size (.inr rfl)).2
    have HR6 := Lib.hid ((hF.block _ (heap_lt HR5.out) hoff).trans HR5.out)
    obtain ⟨u0, u1, u2, u3, u4, rfl, hI⟩ := hE
    obtain ⟨sp, nm2, aa2, an2, ac2, tx, ka, kn, kc, rfl, rfl, rfl, rfl, rfl⟩ := hI.shape
    have HE := Lib.hid hI
    have HC := Lib.hid hSc
    have HF := Lib.hid (HPU.out.2.trans hF)
    clear hI hSc hF hoff y0 y1 y2
    obtain ⟨z0, z1, z2, z3, z4, z5, z6⟩ := bx7 HR6.out
    have fz := bx7e HR6.out
    have fz0 := fz 0
    have fz1 := fz 1
    have fz2 := fz 2
    have fz3 := fz 3
    have fz4 := fz 4
    have fz5 := fz 5
    have fz6 := fz 6
    clear fz
    generalize hkd : ((shut { s with os := s.os ++ [o] }).2.kind : Int) = kd at T ⊢
    generalize her : ((shut { s with os := s.os ++ [o] }).2.err : Int) = er at T ⊢
    have HKD := Lib.hid hkd
    have HER := Lib.hid her
    clear hkd her
    go_wp2_with fail
    refine bodyPost_ret (v := .tuple #[.agg #[.int .i64 kd, .string sp, .string nm2, .slice aa2 an2 ac2, .string tx, .slice ka kn kc, .int .i64 er], .int .i64 0]) (by simp [results, Tryz.results74, go_sem, z0, z1, z2, z3, z4, z5, z6]) rfl ?_
    exact ResP.inn HS.out HB4.out (Nat.le_refl _) HF.out (by rw [T.out]; exact HC.out) (by rw [T.out]; exact ⟨_, _, _, _, _, rfl, HE.out⟩) ((Ow.refl _ w6).set7s _ _ _ _ _ _ _) (by rw [T.out, ← HKD.out, ← HER.out]; rfl)
end Go.Proofs.YtolnpfcncmcacaaGreatDoor

/- The contract of (*Scanner).begin, fifth part: the stream begins; all parts at once. Condition: texts, children and open elements are at most 1048576; the tag is text. -/
namespace Go.Proofs.YtolnpfcncmcacaaGreatDoor
open Go.RowKit Go.Lib Go.Shelf Tg Sn

theorem ins_leaf {S : Nat → Prop} {w : World} {e : El} {a : Value} (hz : Szd e.sp e.nm e.tx e.atr) (ha : SlA S w a e.atr) (hk : e.ks = []) (ht : e.tx = ⟨#[]⟩) : InS S w e (.agg #[.string e.sp, .string e.nm, a, .string ⟨#[]⟩, .slice none 0 0]) := by
  cases e with
  | mk sp nm atr tx ks =>
    have hk : ks = [] := hk
    have ht : tx = ⟨#[]⟩ := ht
    subst hk
    subst ht
    exact .mk sp nm atr _ [] a none 0 (fun _ _ => .bool false) hz ha (Nat.zero_le _) (fun i h => by cases h) (fun i h => by cases h)
set_option maxRecDepth 100000 in
set_option maxHeartbeats 8000000 in
theorem begin_top (N P : Nat) (v : Vw) (s : St) (t : ByteArray) (w : World) (h : Sc N P v w s) (hov : s.over = false) (ht : t.size ≤ 1048576) (h2 : 2 ≤ t.size) {cs : List Nat} (hT : Sg.IsT (inner2 t.data.toList) cs) (hol : s.os.length ≤ 1048576) {b : Bg} (hb : readBg t.data.toList = some b) {o : Sn.Op} (hr : Sn.read s.os b = (0, o)) (h0 : s.os.length = 0) (hem : b.empty = false) :
    Calls Tryz.prog 74 #[.pointer (some ⟨P, 0, none⟩), .string t] w (ResP N P v w (tagBegin s t.data.toList)) := by
  have HOL := Lib.hid hol
  have B := Lib.hid (fun W => readBeginning_any t W ht h2 hT)
  have HS := Lib.hid h
  have HO := Lib.hid hov
  have HB0 : Hid (Below w.heap.size w (w.alloc (.cells #[.int .i64 0, .string ⟨#[]⟩, .string ⟨#[]⟩, .slice none 0 0, .string ⟨#[]⟩, .slice none 0 0, .int .i64 0] 50))) := (Below.refl _ _).alloc (Nat.le_refl _) _
  have HR0 : Hid ((w.alloc (.cells #[.int .i64 0, .string ⟨#[]⟩, .string ⟨#[]⟩, .slice none 0 0, .string ⟨#[]⟩, .slice none 0 0, .int .i64 0] 50)).heap[w.heap.size]? = some (.cells #[.int .i64 0, .string ⟨#[]⟩, .string ⟨#[]⟩, .slice none 0 0, .string ⟨#[]⟩, .slice none 0 0, .int .i64 0] 50 (0, 0))) := box_new w _ _
  have T := Lib.hid (tb_top hb hr h0 hem)
  have H0 := Lib.hid h0
  obtain ⟨oa, oc, hop⟩ := h.opnIs
  have HOP := Lib.hid hop
  have HEM := Lib.hid hem
  have hos : ∀ o ∈ s.os, Fit 1048576 o.decl := fun o ho => by
    obtain ⟨i, hi, rfl⟩ := List.getElem_of_mem ho
    exact (h.part i hi (by rw [h.len]; exact hi)).f.1
  have HFT := Lib.hid (read_fit hr (readBg_fit ht hb).1 (readBg_fit ht hb).2.1 (readBg_fit ht hb).2.2 hos)
  clear h0 hop hem hos
  obtain ⟨f1, f2, f3⟩ := readBg_fit ht hb
  have RD := Lib.hid (fun (va : Option Addr) (vc : Nat) W (hbw : Below w.heap.size w W) hA => read_any N P v s b va vc W (h.below hbw) hol f2 f1 f3 hA)
  rw [hb] at B
  rw [hr] at RD
  unfold RbP at B
  unfold RdP at RD
  simp only [reduceCtorEq, false_and, false_or, Option.some.injEq] at B
  have HBL := Lib.hid f2
  clear h hov ht h2 hT hol hb hr f1 f2 f3
  obtain ⟨nm, al, em⟩ := b
  go_enter Tryz.func74, Tryz.ntmps74
  go_wp2_with fail
  generalize w.alloc (.cells #[.int .i64 0, .string ⟨#[]⟩, .string ⟨#[]⟩, .slice none 0 0, .string ⟨#[]⟩, .slice none 0 0, .int .i64 0] 50) = W0 at HB0 HR0 ⊢
  refine (B.out _).mono ?_
  rintro r w1 ⟨⟨b2, vv, rfl, rfl, hsl⟩, hb⟩
  obtain ⟨va, vc, rfl, hat⟩ := sla_form hsl
  have HA1 := Lib.hid (hat.weak (S' := Any8) (fun _ _ _ => trivial))
  have HB1 := Lib.hid (HB0.out.trans (hb.mono HB0.out.size))
  have HR1 := Lib.hid ((hb.block _ (heap_lt HR0.out)).trans HR0.out)
  have hRl := heap_lt HR1.out
  clear hb hsl hat B
  simp only at *
  go_wp2_with fail
  have HB2 := Lib.hid (HB1.out.alloc HB1.out.size (.cells #[.string nm, .slice va al.length vc, .bool em] 159))
  have HR2 := Lib.hid ((Below.heap_alloc w1 (.cells #[.string nm, .slice va al.length vc, .bool em] 159) _ hRl).trans HR1.out)
  have HX2 := Lib.hid (box_new w1 #[.string nm, .slice va al.length vc, .bool em] 159)
  have HA2 := Lib.hid (HA1.out.below ((Below.refl _ w1).alloc (Nat.le_refl _) (.cells #[.string nm, .slice va al.length vc, .bool em] 159)))
  generalize w1.alloc (.cells #[.string nm, .slice va al.length vc, .bool em] 159) = W2 at HB2 HR2 HX2 HA2 ⊢
  generalize w1.heap.size = Bk at HX2 hRl ⊢
  have C := Lib.hid (RD.out va vc W2 HB2.out HA2.out)
  clear HB0 HR0 HB1 HR1 HA1 RD HA2
  refine C.out.mono ?_
  rintro r w3 ⟨⟨h0, _⟩ | ⟨_, bv, av, rfl, hsd, hsa⟩, hb⟩
  case inl => exact absurd rfl h0
  have HB3 := Lib.hid (HB2.out.trans (hb.mono HB2.out.size))
  have HR3 := Lib.hid ((hb.block _ (heap_lt HR2.out)).trans HR2.out)
  have HX3 := Lib.hid ((hb.block _ (heap_lt HX2.out)).trans HX2.out)
  have hW2 := HB2.out.size
  have hR2 := heap_lt HR2.out
  have HSD := Lib.hid hsd
  have HSA := Lib.hid hsa
  obtain ⟨ba, bc, rfl, _⟩ := sla_form hsd
  obtain ⟨aa, ac, rfl, _⟩ := sla_form hsa
  generalize o.decl.length = bn at HSD ⊢
  generalize o.elem.atr.length = an at HSA ⊢
  have hR3 := heap_lt HR3.out
  have hX3 := heap_lt HX3.out
  have HB4 := Lib.hid (HB3.out.alloc HB3.out.size (.cells #[.slice ba bn bc, .string o.name, .string o.elem.sp, .string o.elem.nm, .slice aa an ac, .string ⟨#[]⟩, .slice none 0 0] 155))
  have HR4 := Lib.hid ((Below.heap_alloc w3 (.cells #[.slice ba bn bc, .string o.name, .string o.elem.sp, .string o.elem.nm, .slice aa an ac, .string ⟨#[]⟩, .slice none 0 0] 155) _ hR3).trans HR3.out)
  have HX4 := Lib.hid ((Below.heap_alloc w3 (.cells #[.slice ba bn bc, .string o.name, .string o.elem.sp, .string o.elem.nm, .slice aa an ac, .string ⟨#[]⟩, .slice none 0 0] 155) _ hX3).trans HX3.out)
  have HE4 := Lib.hid (box_new w3 #[.slice ba bn bc, .string o.name, .string o.elem.sp, .string o.elem.nm, .slice aa an ac, .string ⟨#[]⟩, .slice none 0 0] 155)
  have HD4 := Lib.hid (HSD.out.below ((Below.refl _ w3).alloc (Nat.le_refl _) (.cells #[.slice ba bn bc, .string o.name, .string o.elem.sp, .string o.elem.nm, .slice aa an ac, .string ⟨#[]⟩, .slice none 0 0] 155)))
  have HA4 := Lib.hid (HSA.out.below ((Below.refl _ w3).alloc (Nat.le_refl _) (.cells #[.slice ba bn bc, .string o.name, .string o.elem.sp, .string o.elem.nm, .slice aa an ac, .string ⟨#[]⟩, .slice none 0 0] 155)))
  clear hb C hsd hsa HSD HSA HB2 HR2 HX2
  have hPl := (HS.out.below HB3.out).boxlt
  have x3 : w3.cell? ⟨P, 3, none⟩ = some (.slice oa s.os.length oc) := by
    have := (bxS (HS.out.below HB3.out).box).1.2.2.2.1
    rw [HOP.out] at this; exact this
  have hX := HX3.out
  rw [show em = false from HEM.out] at hX
  obtain ⟨y0, y1, y2⟩ := bx3 hX
  clear hX
  have e0 : ((s.os.length : Int) == 0) = true := by rw [H0.out]; rfl
  go_wp2_with fail
  generalize w3.alloc (.cells #[.slice ba bn bc, .string o.name, .string o.elem.sp, .string o.elem.nm, .slice aa an ac, .string ⟨#[]⟩, .slice none 0 0] 155) = W4 at HB4 HR4 HX4 HE4 HD4 HA4 ⊢
  generalize w3.heap.size = Eb at HE4 hR3 ⊢
  clear x3 y0 y1 y2 hPl HB3 HR3 HX3
  have hS4 := HS.out.below HB4.out
  have hO := Lib.hid hS4.opn
  rw [HOP.out] at hO
  obtain ⟨⟨x0, x1, x2, x3, x4, x5, x6⟩, hf⟩ := bxS hS4.box
  rw [HOP.out] at x3
  have f3 := hf 3
  have hPl := hS4.boxlt
  have hEl := heap_lt HE4.out
  have HS4 := Lib.hid hS4
  have hl16 : s.os.length ≤ 16 := by have := H0.out; omega
  have hN4 : N ≤ W4.heap.size := hS4.low.2.2
  have HPO : Hid (∀ b, (Value.slice oa s.os.length oc).ownBlock = some b → b ≠ P) := fun b e => by
    rw [← HOP.out] at e
    obtain ⟨_, c, hc⟩ := own_heap HS.out.opn e
    exact ne_of_type hc HS.out.box (by decide)
  clear x0 x1 x2 x4 x5 x6 hf hS4 e0
  obtain ⟨q0, q1, q2, q3, q4, q5, q6⟩ := bx7 HE4.out
  obtain ⟨i0, hi0, hz0, hz1, hz2⟩ := info_parts infoElt
  go_region_law
    ((refine step_append_lies _ (by rfl) _ _ _ (by rfl) N 155 i0 _ 7 136 Tryz.underlying60 hi0 hz0 hz1 hz2 rfl (by omega) (.slice oa s.os.length oc) s.os.length (cellsO s.os v.os) (by rfl) ((hO.out.alloc _).drew)
        ⟨W4.heap.size, 0, none⟩ 1 1 [.slice ba bn bc, .string o.name, .string ⟨#[]⟩, .string ⟨#[]⟩, .slice none 0 0, .string ⟨#[]⟩, .slice none 0 0] (by rfl) (by rfl) (World.news_of_block (cs := #[.slice ba bn bc, .string o.name, .string ⟨#[]⟩, .string ⟨#[]⟩, .slice none 0 0, .string ⟨#[]⟩, .slice none 0 0]) (t := 155) (fr := (0, 0)) (heap_alloc_new W4 _)) (by simp [Value.oneCell'])
        (by omega) (by unfold maxLen; omega) (by omega) (by simp; omega) (W4.heap.size + 1) (by simp) ?_; intro G cap2 w8 hown hgrow hat hlt8; have HP8 : Hid (w8.heap[P]? = _) := ((hgrow.block P (by simp; omega) (fun e => HPO.out P e.symm rfl)).trans ((Below.heap_alloc _ _ _ hPl).trans HS4.out.box)); have c38 : w8.cell? ⟨P, 3, none⟩ = some (.slice oa s.os.length oc) := (by have := (bxS HP8.out).1.2.2.2.1; rw [HOP.out] at this; exact this); have f38 := (bxS HP8.out).2 3))
  all_goals
    have hkw : ∀ b, (Value.slice oa s.os.length oc).ownBlock = some b → b < w.heap.size := fun b e => by
      rw [← HOP.out] at e
      obtain ⟨_, c, hc⟩ := own_heap HS.out.opn e
      exact heap_lt hc
    have hb8 : ∀ b, b < W4.heap.size → w.heap.size ≤ b → w8.heap[b]? = W4.heap[b]? := fun b h1 h2 => (hgrow.block b (by simp; omega) (fun e => by have := hkw b e.symm; omega)).trans (Below.heap_alloc _ _ _ h1)
    have HPU := Lib.hid (pushed (x := ⟨.slice ba bn bc, .slice none 0 0, .slice none 0 0⟩) (o := ⟨o.decl, o.name, El0⟩) HS.out HB4.out (Nat.le_refl _) HR4.out hR2 HD4.out (SlA.nil _ _) rfl rfl szd0 ⟨HFT.out.2.1, HFT.out.2.2.1, HFT.out.2.2.2.1⟩ hown (by rw [HOP.out]; exact hgrow) (by rw [HOP.out]; exact hat))
    have hPR : w.heap.size ≠ P := by have := HS.out.boxlt; omega
    have HR5 := Lib.hid ((setCell_other (i := 3) (u := .slice (some ⟨G, 0, none⟩) (s.os.length + 1) cap2) hPR).trans ((hb8 _ (heap_lt HR4.out) (Nat.le_refl _)).trans HR4.out))
    have hPE : Eb ≠ P := by have := HS.out.boxlt; omega
    have HE5 := Lib.hid ((setCell_other (i := 3) (u := .slice (some ⟨G, 0, none⟩) (s.os.length + 1) cap2) hPE).trans ((hb8 Eb (heap_lt HE4.out) (by omega)).trans HE4.out))
    clear hown hgrow hat hlt8 c38 f38 HP8 hkw hb8 q0 q1 q2 q3 q4 q5 q6 x3 f3
    generalize w8.setCell ⟨P, 3, none⟩ (.slice (some ⟨G, 0, none⟩) (s.os.length + 1) cap2) = W5 at HPU HR5 HE5 ⊢
    obtain ⟨q0, q1, q2, q3, q4, q5, q6⟩ := bx7 HE5.out
    obtain ⟨z0, z1, z2, z3, z4, z5, z6⟩ := bx7 HR5.out
    have fz := bx7e HR5.out
    have fz0 := fz 0
    have fz1 := fz 1
    have fz2 := fz 2
    have fz3 := fz 3
    have fz4 := fz 4
    have fz5 := fz 5
    have fz6 := fz 6
    clear fz
    go_wp2_with fail
    refine bodyPost_ret (v := .tuple #[.agg #[.int .i64 1, .string o.elem.sp, .string o.elem.nm, .slice aa an ac, .string ⟨#[]⟩, .slice none 0 0, .int .i64 0], .int .i64 0]) (by simp [results, Tryz.results74, go_sem, z0, z1, z2, z3, z4, z5, z6]) rfl ?_
    have hos0 : s.os = [] := List.length_eq_zero_iff.1 H0.out
    have hIn : InS (Imm N P { plus v w.heap.size with opn := .slice (some ⟨G, 0, none⟩) (s.os.length + 1) cap2, os := v.os ++ [⟨.slice ba bn bc, .slice none 0 0, .slice none 0 0⟩] }) W5 o.elem (.agg #[.string o.elem.sp, .string o.elem.nm, .slice aa an ac, .string ⟨#[]⟩, .slice none 0 0]) :=
      ins_leaf HFT.out.1 (SlA.fr (SlA.weak HA4.out fun b _ hb' => imm_new HS.out (Nat.le_refl _) hR2 hb') HPU.out.2) HFT.out.2.2.2.2.1 HFT.out.2.2.2.2.2
    exact ResP.inn HS.out HB4.out (Nat.le_refl _) HPU.out.2 (by rw [T.out]; exact ⟨fun _ => by have K := HPU.out.1; rw [hos0] at K ⊢; exact K, fun hc => by have hc : s.over = true := hc; rw [HO.out] at hc; cases hc⟩) (by rw [T.out]; exact ⟨_, _, _, _, _, rfl, hIn⟩) ((Ow.refl _ _).set7s _ _ _ _ _ _ _) (by rw [T.out]; rfl)

theorem begin_any (N P : Nat) (v : Vw) (s : St) (t : ByteArray) (w : World) (h : Sc N P v w s) (hov : s.over = false) (ht : t.size ≤ 1048576) (h2 : 2 ≤ t.size) {cs : List Nat} (hT : Sg.IsT (inner2 t.data.toList) cs) (hol : s.os.length ≤ 1048576) (hk : ∀ o ∈ s.os, o.elem.ks.length ≤ 1048576) :
    Calls Tryz.prog 74 #[.pointer (some ⟨P, 0, none⟩), .string t] w (ResP N P v w (tagBegin s t.data.toList)) := by
  cases hb : readBg t.data.toList with
  | none => exact begin_none N P v s t w h hov ht h2 hT hol hb
  | some b =>
    cases hr : Sn.read s.os b with
    | mk n o =>
      by_cases hn : n = 0
      · subst hn
        by_cases h0 : s.os.length = 0
        · cases he : b.empty with
          | true => exact begin_top0 N P v s t w h hov ht h2 hT hol hb hr h0 he
          | false => exact begin_top N P v s t w h hov ht h2 hT hol hb hr h0 he
        · by_cases h16 : 16 < s.os.length
          · exact begin_big N P v s t w h hov ht h2 hT hol hb hr h16
          · cases he : b.empty with
            | true => exact begin_in0 N P v s t w h hov ht h2 hT hol hb hr h0 h16 he hk
            | false => exact begin_in N P v s t w h hov ht h2 hT hol hb hr h0 h16 he
      · exact begin_err N P v s t w h hov ht h2 hT hol hb hr hn
end Go.Proofs.YtolnpfcncmcacaaGreatDoor
