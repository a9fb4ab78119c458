/- Layer 6 in one text: shut, end. Conditions: those of each theorem's head. -/
import Derived.Test.YtolnpfcncmcacaaGreatDoorMF
import Derived.StillTail
import Derived.Deep.AppendLies

/- The contract of (*Scanner).shut: the stream, a stanza ends. No condition. -/
namespace Go.Proofs.YtolnpfcncmcacaaGreatDoor
open Go.RowKit Go.Lib Go.Shelf Tg Sn

set_option maxRecDepth 100000 in
set_option maxHeartbeats 8000000 in
theorem shut_top (N P : Nat) (v : Vw) (s : St) (w : World) (h : Sc N P v w s) (hov : s.over = false) (ini : List Sn.Op) (o : Sn.Op) (vi : List Ov) (x : Ov) (g cap : Nat) (L : Lst N P v w s ini o vi x g cap) (hin : ini.length < 1048576) (hn : ini.length = 0) :
    Calls Tryz.prog 106 #[.pointer (some ⟨P, 0, none⟩)] w (ShP N P v s w) := by
  obtain ⟨xb, xa, xk⟩ := x
  obtain ⟨⟨aa, ac, hxa⟩, ⟨ka, kc, hxk⟩⟩ : (∃ aa ac, xa = .slice aa o.elem.atr.length ac) ∧ (∃ ka kc, xk = .slice ka o.elem.ks.length kc) := by
    have p := h.lastPart L
    obtain ⟨a, c, e, _⟩ := sla_form p.a
    obtain ⟨_, k1, _⟩ := p.k
    obtain ⟨a2, c2, e2⟩ := own_form k1
    exact ⟨⟨a, c, e⟩, ⟨a2, c2, e2⟩⟩
  subst hxa
  subst hxk
  have hPl := h.boxlt
  have M0 := Lib.hid (Mid.start h L (fun b => b = P ∨ b = g) ⟨.inl rfl, .inr rfl⟩)
  have I := Lib.hid (fun W (hc : W.cell? ⟨P, 3, none⟩ = some (.slice (some ⟨g, 0, none⟩) (ini.length + 1) cap)) => innermost_any P g ini.length cap W hc hin)
  have HLL := Lib.hid (cellsO_len L.len)
  have HS := Lib.hid h
  have HL := Lib.hid L
  have HO := Lib.hid hov
  have HOP := Lib.hid L.opn
  have HLT : Hid ((cellsO ini vi ++ cells1 o ⟨xb, .slice aa o.elem.atr.length ac, .slice ka o.elem.ks.length kc⟩).take (ini.length * 7) = cellsO ini vi) := by
    show _ = _
    rw [List.take_append_of_le_length (by rw [cellsO_len L.len]; omega), List.take_of_length_le (by rw [cellsO_len L.len]; omega)]
  have HN := Lib.hid hn
  clear hn
  clear h L hov
  go_enter Tryz.func106, Tryz.ntmps106
  go_wp2_with fail
  generalize w.alloc (.cells #[.int .i64 0, .string ⟨#[]⟩, .string ⟨#[]⟩, .slice none 0 0, .string ⟨#[]⟩, .slice none 0 0, .int .i64 0] 50) = W0 at M0 ⊢
  generalize hR : w.heap.size = R at M0 ⊢
  have HR := Lib.hid hR
  clear hR
  obtain ⟨⟨x0, x1, x2, x3, x4, x5, x6⟩, _⟩ := bxS M0.out.box
  rw [HOP.out] at x3
  have C := Lib.hid (I.out _ x3)
  clear x0 x1 x2 x3 x4 x5 x6
  refine C.out.mono ?_
  rintro r w1 ⟨rfl, hb⟩
  have M1 := Lib.hid (M0.out.call hb)
  clear hb C M0
  have cc : ∀ j, j < 7 → w1.cell? ⟨g, ini.length * 7 + j, none⟩ = (cells1 o ⟨xb, .slice aa o.elem.atr.length ac, .slice ka o.elem.ks.length kc⟩)[j]? := fun j hj => by
    rw [(M1.out.cell (ini.length * 7 + j) (by omega)).1, List.getElem?_append_right (by rw [HLL.out]; omega), HLL.out]
    congr 1; omega
  have c2 : w1.cell? ⟨g, ini.length * 7 + 2, none⟩ = some (.string o.elem.sp) := cc 2 (by decide)
  have c3 : w1.cell? ⟨g, ini.length * 7 + 3, none⟩ = some (.string o.elem.nm) := cc 3 (by decide)
  have c4 : w1.cell? ⟨g, ini.length * 7 + 4, none⟩ = some (.slice aa o.elem.atr.length ac) := cc 4 (by decide)
  have c5 : w1.cell? ⟨g, ini.length * 7 + 5, none⟩ = some (.string o.elem.tx) := cc 5 (by decide)
  have c6 : w1.cell? ⟨g, ini.length * 7 + 6, none⟩ = some (.slice ka o.elem.ks.length kc) := cc 6 (by decide)
  clear cc
  go_wp2_with fail
  have M2 := Lib.hid (M1.out.call ((Below.refl _ w1).alloc (Nat.le_refl _) (.cells #[.string o.elem.sp, .string o.elem.nm, (.slice aa o.elem.atr.length ac), .string o.elem.tx, (.slice ka o.elem.ks.length kc)] 48)))
  have HE2 := Lib.hid (box_new w1 #[.string o.elem.sp, .string o.elem.nm, (.slice aa o.elem.atr.length ac), .string o.elem.tx, (.slice ka o.elem.ks.length kc)] 48)
  have HE3 : Hid (w1.heap.size ≠ P ∧ w1.heap.size ≠ g ∧ R < w1.heap.size) := ⟨by have := heap_lt M1.out.box; omega, by have := M1.out.glt; omega, heap_lt M1.out.r⟩
  clear M1 c2 c3 c4 c5 c6
  generalize w1.alloc (.cells #[.string o.elem.sp, .string o.elem.nm, (.slice aa o.elem.atr.length ac), .string o.elem.tx, (.slice ka o.elem.ks.length kc)] 48) = W2 at M2 HE2 ⊢
  generalize w1.heap.size = E at HE2 HE3 ⊢
  obtain ⟨⟨x0, x1, x2, x3, x4, x5, x6⟩, _⟩ := bxS M2.out.box
  rw [HOP.out] at x3
  have C := Lib.hid (I.out _ x3)
  clear x0 x1 x2 x3 x4 x5 x6 I
  refine C.out.mono ?_
  rintro r w3 ⟨rfl, hb⟩
  have M3 := Lib.hid (M2.out.call hb)
  have HE4 := Lib.hid ((hb.block _ (heap_lt HE2.out)).trans HE2.out)
  clear hb C M2 HE2
  have cc : ∀ j, j < 7 → (w3.cell? ⟨g, ini.length * 7 + j, none⟩ = (cells1 o ⟨xb, .slice aa o.elem.atr.length ac, .slice ka o.elem.ks.length kc⟩)[j]? ∧ w3.frozen? ⟨g, ini.length * 7 + j, none⟩ = false) := fun j hj => by
    refine ⟨?_, (M3.out.cell (ini.length * 7 + j) (by omega)).2⟩
    rw [(M3.out.cell (ini.length * 7 + j) (by omega)).1, List.getElem?_append_right (by rw [HLL.out]; omega), HLL.out]
    congr 1; omega
  have c0 : w3.cell? ⟨g, ini.length * 7, none⟩ = some xb := (cc 0 (by decide)).1
  have f0 : w3.frozen? ⟨g, ini.length * 7, none⟩ = false := (cc 0 (by decide)).2
  have c1 : w3.cell? ⟨g, ini.length * 7 + 1, none⟩ = some (.string o.name) := (cc 1 (by decide)).1
  have f1 := (cc 1 (by decide)).2
  have c2 : w3.cell? ⟨g, ini.length * 7 + 2, none⟩ = some (.string o.elem.sp) := (cc 2 (by decide)).1
  have f2 := (cc 2 (by decide)).2
  have c3 : w3.cell? ⟨g, ini.length * 7 + 3, none⟩ = some (.string o.elem.nm) := (cc 3 (by decide)).1
  have f3 := (cc 3 (by decide)).2
  have c4 : w3.cell? ⟨g, ini.length * 7 + 4, none⟩ = some (.slice aa o.elem.atr.length ac) := (cc 4 (by decide)).1
  have f4 := (cc 4 (by decide)).2
  have c5 : w3.cell? ⟨g, ini.length * 7 + 5, none⟩ = some (.string o.elem.tx) := (cc 5 (by decide)).1
  have f5 := (cc 5 (by decide)).2
  have c6 : w3.cell? ⟨g, ini.length * 7 + 6, none⟩ = some (.slice ka o.elem.ks.length kc) := (cc 6 (by decide)).1
  have f6 := (cc 6 (by decide)).2
  clear cc
  go_wp2_with fail
  have M4 := Lib.hid (M3.out.wipe (.slice none 0 0) (.string ⟨#[]⟩) (.string ⟨#[]⟩) (.string ⟨#[]⟩) (.slice none 0 0) (.string ⟨#[]⟩) (.slice none 0 0))
  have HE5 : Hid ((((((((w3.setCell ⟨g, ini.length * 7, none⟩ (.slice none 0 0)).setCell ⟨g, ini.length * 7 + 1, none⟩ (.string ⟨#[]⟩)).setCell ⟨g, ini.length * 7 + 2, none⟩ (.string ⟨#[]⟩)).setCell ⟨g, ini.length * 7 + 3, none⟩ (.string ⟨#[]⟩)).setCell ⟨g, ini.length * 7 + 4, none⟩ (.slice none 0 0)).setCell ⟨g, ini.length * 7 + 5, none⟩ (.string ⟨#[]⟩)).setCell ⟨g, ini.length * 7 + 6, none⟩ (.slice none 0 0)).heap[E]? = _) := (by rw [setCell_other HE3.out.2.1, setCell_other HE3.out.2.1, setCell_other HE3.out.2.1, setCell_other HE3.out.2.1, setCell_other HE3.out.2.1, setCell_other HE3.out.2.1, setCell_other HE3.out.2.1] : _ = w3.heap[E]?).trans HE4.out
  obtain ⟨hcap⟩ : ∃ _ : ini.length + 1 ≤ cap, True := by
    rcases M3.out.row.2 with ⟨h', _⟩ | ⟨g', cap', cur, h', q1, q2, q3, q4, q5, q6⟩
    · cases h'
    · cases h'
      exact ⟨q3, trivial⟩
  clear M3 HE4 c0 c1 c2 c3 c4 c5 c6 f0 f1 f2 f3 f4 f5 f6
  rw [HLT.out] at M4
  generalize ((((((w3.setCell ⟨g, ini.length * 7, none⟩ (.slice none 0 0)).setCell ⟨g, ini.length * 7 + 1, none⟩ (.string ⟨#[]⟩)).setCell ⟨g, ini.length * 7 + 2, none⟩ (.string ⟨#[]⟩)).setCell ⟨g, ini.length * 7 + 3, none⟩ (.string ⟨#[]⟩)).setCell ⟨g, ini.length * 7 + 4, none⟩ (.slice none 0 0)).setCell ⟨g, ini.length * 7 + 5, none⟩ (.string ⟨#[]⟩)).setCell ⟨g, ini.length * 7 + 6, none⟩ (.slice none 0 0) = W4 at M4 HE5 ⊢
  obtain ⟨⟨x0, x1, x2, x3, x4, x5, x6⟩, _⟩ := bxS M4.out.box
  rw [HOP.out] at x3
  have q3 : ∀ x : Ext W4, x.to.cell? ⟨P, 3, none⟩ = some (.slice (some ⟨g, 0, none⟩) (ini.length + 1) cap) := fun x => ext_cell x x3
  have hxs := extSome W4
  have k1 : IntKind.i64.wrap (((ini.length + 1 : Nat) : Int) - 1) = (ini.length : Int) := by rw [IntWalk.i64_in _ (by omega)]; omega
  have k2 : (0 : Int) ≤ (ini.length : Int) := by omega
  have k3 : (ini.length : Int) ≤ (cap : Int) := by omega
  have k4 : ((ini.length : Int)).toNat = ini.length := by omega
  clear x0 x1 x2 x3 x4 x5 x6
  refine ext_tail 14 (by kernel_rfl) (by kernel_rfl) ?_
  simp only [List.take_succ_cons, List.take_zero, List.drop_succ_cons, List.drop_zero]
  repeat (go_big_quiet_step (fail))
  refine wpQuiet_nil ?_
  rintro _ ⟨xx, hxx⟩
  subst hxx
  have M5 := Lib.hid (M4.out.call xx.below)
  have HE6 := Lib.hid ((xx.below.block _ (heap_lt HE5.out)).trans HE5.out)
  clear M4 HE5 q3 hxs k1 k2 k3 k4
  generalize xx.to = W5 at M5 HE6 ⊢
  obtain ⟨⟨x0, x1, x2, x3, x4, x5, x6⟩, hf⟩ := bxS M5.out.box
  rw [HOP.out] at x3
  have f3 := hf 3
  have f5 := hf 5
  clear x0 x1 x2 x4 x6 hf
  obtain ⟨z0, z1, z2, z3, z4, z5, z6⟩ := bx7 M5.out.r
  have fz := bx7e M5.out.r
  have fz0 := fz 0
  have fz1 := fz 1
  have fz2 := fz 2
  have fz3 := fz 3
  have fz4 := fz 4
  have fz5 := fz 5
  have fz6 := fz 6
  clear fz
  have e0 : ((ini.length : Int) == 0) = true := by rw [beq_iff_eq]; have := HN.out; omega
  obtain ⟨n1, n2, n3, n4⟩ := M5.out.ne
  go_wp2_with fail
  have MF := Lib.hid ((M5.out.setP 3 (.slice (some ⟨g, 0, none⟩) ini.length cap)).setP 5 (.bool true))
  have HSH := Lib.hid (shut_eq0 HL.out.os HN.out)
  exact bodyPost_ret (v := .agg #[.int .i64 3, .string ⟨#[]⟩, .string ⟨#[]⟩, .slice none 0 0, .string ⟨#[]⟩, .slice none 0 0, .int .i64 0]) (by simp [results, Tryz.results106, go_sem, z0, z1, z2, z3, z4, z5, z6]) rfl (ShP.top HSH.out MF.out (fun b e => e.elim .inl fun e => .inr (.inr (.inl (by rw [HOP.out, e]; rfl)))) rfl)

set_option maxRecDepth 100000 in
set_option maxHeartbeats 8000000 in
theorem shut_one (N P : Nat) (v : Vw) (s : St) (w : World) (h : Sc N P v w s) (hov : s.over = false) (ini : List Sn.Op) (o : Sn.Op) (vi : List Ov) (x : Ov) (g cap : Nat) (L : Lst N P v w s ini o vi x g cap) (hin : ini.length < 1048576) (hn : ini.length = 1) (hkl : o.elem.ks.length ≤ maxLen) :
    Calls Tryz.prog 106 #[.pointer (some ⟨P, 0, none⟩)] w (ShP N P v s w) := by
  obtain ⟨xb, xa, xk⟩ := x
  obtain ⟨⟨aa, ac, hxa⟩, ⟨ka, kc, hxk⟩⟩ : (∃ aa ac, xa = .slice aa o.elem.atr.length ac) ∧ (∃ ka kc, xk = .slice ka o.elem.ks.length kc) := by
    have p := h.lastPart L
    obtain ⟨a, c, e, _⟩ := sla_form p.a
    obtain ⟨_, k1, _⟩ := p.k
    obtain ⟨a2, c2, e2⟩ := own_form k1
    exact ⟨⟨a, c, e⟩, ⟨a2, c2, e2⟩⟩
  subst hxa
  subst hxk
  have hPl := h.boxlt
  have M0 := Lib.hid (Mid.start h L (fun b => b = P ∨ b = g) ⟨.inl rfl, .inr rfl⟩)
  have I := Lib.hid (fun W (hc : W.cell? ⟨P, 3, none⟩ = some (.slice (some ⟨g, 0, none⟩) (ini.length + 1) cap)) => innermost_any P g ini.length cap W hc hin)
  have HLL := Lib.hid (cellsO_len L.len)
  have HS := Lib.hid h
  have HL := Lib.hid L
  have HO := Lib.hid hov
  have HOP := Lib.hid L.opn
  have HLT : Hid ((cellsO ini vi ++ cells1 o ⟨xb, .slice aa o.elem.atr.length ac, .slice ka o.elem.ks.length kc⟩).take (ini.length * 7) = cellsO ini vi) := by
    show _ = _
    rw [List.take_append_of_le_length (by rw [cellsO_len L.len]; omega), List.take_of_length_le (by rw [cellsO_len L.len]; omega)]
  have HN := Lib.hid hn
  have HKL := Lib.hid hkl
  clear hn hkl
  clear h L hov
  go_enter Tryz.func106, Tryz.ntmps106
  go_wp2_with fail
  generalize w.alloc (.cells #[.int .i64 0, .string ⟨#[]⟩, .string ⟨#[]⟩, .slice none 0 0, .string ⟨#[]⟩, .slice none 0 0, .int .i64 0] 50) = W0 at M0 ⊢
  generalize hR : w.heap.size = R at M0 ⊢
  have HR := Lib.hid hR
  clear hR
  obtain ⟨⟨x0, x1, x2, x3, x4, x5, x6⟩, _⟩ := bxS M0.out.box
  rw [HOP.out] at x3
  have C := Lib.hid (I.out _ x3)
  clear x0 x1 x2 x3 x4 x5 x6
  refine C.out.mono ?_
  rintro r w1 ⟨rfl, hb⟩
  have M1 := Lib.hid (M0.out.call hb)
  clear hb C M0
  have cc : ∀ j, j < 7 → w1.cell? ⟨g, ini.length * 7 + j, none⟩ = (cells1 o ⟨xb, .slice aa o.elem.atr.length ac, .slice ka o.elem.ks.length kc⟩)[j]? := fun j hj => by
    rw [(M1.out.cell (ini.length * 7 + j) (by omega)).1, List.getElem?_append_right (by rw [HLL.out]; omega), HLL.out]
    congr 1; omega
  have c2 : w1.cell? ⟨g, ini.length * 7 + 2, none⟩ = some (.string o.elem.sp) := cc 2 (by decide)
  have c3 : w1.cell? ⟨g, ini.length * 7 + 3, none⟩ = some (.string o.elem.nm) := cc 3 (by decide)
  have c4 : w1.cell? ⟨g, ini.length * 7 + 4, none⟩ = some (.slice aa o.elem.atr.length ac) := cc 4 (by decide)
  have c5 : w1.cell? ⟨g, ini.length * 7 + 5, none⟩ = some (.string o.elem.tx) := cc 5 (by decide)
  have c6 : w1.cell? ⟨g, ini.length * 7 + 6, none⟩ = some (.slice ka o.elem.ks.length kc) := cc 6 (by decide)
  clear cc
  go_wp2_with fail
  have M2 := Lib.hid (M1.out.call ((Below.refl _ w1).alloc (Nat.le_refl _) (.cells #[.string o.elem.sp, .string o.elem.nm, (.slice aa o.elem.atr.length ac), .string o.elem.tx, (.slice ka o.elem.ks.length kc)] 48)))
  have HE2 := Lib.hid (box_new w1 #[.string o.elem.sp, .string o.elem.nm, (.slice aa o.elem.atr.length ac), .string o.elem.tx, (.slice ka o.elem.ks.length kc)] 48)
  have HE3 : Hid (w1.heap.size ≠ P ∧ w1.heap.size ≠ g ∧ R < w1.heap.size) := ⟨by have := heap_lt M1.out.box; omega, by have := M1.out.glt; omega, heap_lt M1.out.r⟩
  clear M1 c2 c3 c4 c5 c6
  generalize w1.alloc (.cells #[.string o.elem.sp, .string o.elem.nm, (.slice aa o.elem.atr.length ac), .string o.elem.tx, (.slice ka o.elem.ks.length kc)] 48) = W2 at M2 HE2 ⊢
  generalize w1.heap.size = E at HE2 HE3 ⊢
  obtain ⟨⟨x0, x1, x2, x3, x4, x5, x6⟩, _⟩ := bxS M2.out.box
  rw [HOP.out] at x3
  have C := Lib.hid (I.out _ x3)
  clear x0 x1 x2 x3 x4 x5 x6 I
  refine C.out.mono ?_
  rintro r w3 ⟨rfl, hb⟩
  have M3 := Lib.hid (M2.out.call hb)
  have HE4 := Lib.hid ((hb.block _ (heap_lt HE2.out)).trans HE2.out)
  clear hb C M2 HE2
  have cc : ∀ j, j < 7 → (w3.cell? ⟨g, ini.length * 7 + j, none⟩ = (cells1 o ⟨xb, .slice aa o.elem.atr.length ac, .slice ka o.elem.ks.length kc⟩)[j]? ∧ w3.frozen? ⟨g, ini.length * 7 + j, none⟩ = false) := fun j hj => by
    refine ⟨?_, (M3.out.cell (ini.length * 7 + j) (by omega)).2⟩
    rw [(M3.out.cell (ini.length * 7 + j) (by omega)).1, List.getElem?_append_right (by rw [HLL.out]; omega), HLL.out]
    congr 1; omega
  have c0 : w3.cell? ⟨g, ini.length * 7, none⟩ = some xb := (cc 0 (by decide)).1
  have f0 : w3.frozen? ⟨g, ini.length * 7, none⟩ = false := (cc 0 (by decide)).2
  have c1 : w3.cell? ⟨g, ini.length * 7 + 1, none⟩ = some (.string o.name) := (cc 1 (by decide)).1
  have f1 := (cc 1 (by decide)).2
  have c2 : w3.cell? ⟨g, ini.length * 7 + 2, none⟩ = some (.string o.elem.sp) := (cc 2 (by decide)).1
  have f2 := (cc 2 (by decide)).2
  have c3 : w3.cell? ⟨g, ini.length * 7 + 3, none⟩ = some (.string o.elem.nm) := (cc 3 (by decide)).1
  have f3 := (cc 3 (by decide)).2
  have c4 : w3.cell? ⟨g, ini.length * 7 + 4, none⟩ = some (.slice aa o.elem.atr.length ac) := (cc 4 (by decide)).1
  have f4 := (cc 4 (by decide)).2
  have c5 : w3.cell? ⟨g, ini.length * 7 + 5, none⟩ = some (.string o.elem.tx) := (cc 5 (by decide)).1
  have f5 := (cc 5 (by decide)).2
  have c6 : w3.cell? ⟨g, ini.length * 7 + 6, none⟩ = some (.slice ka o.elem.ks.length kc) := (cc 6 (by decide)).1
  have f6 := (cc 6 (by decide)).2
  clear cc
  go_wp2_with fail
  have M4 := Lib.hid (M3.out.wipe (.slice none 0 0) (.string ⟨#[]⟩) (.string ⟨#[]⟩) (.string ⟨#[]⟩) (.slice none 0 0) (.string ⟨#[]⟩) (.slice none 0 0))
  have HE5 : Hid ((((((((w3.setCell ⟨g, ini.length * 7, none⟩ (.slice none 0 0)).setCell ⟨g, ini.length * 7 + 1, none⟩ (.string ⟨#[]⟩)).setCell ⟨g, ini.length * 7 + 2, none⟩ (.string ⟨#[]⟩)).setCell ⟨g, ini.length * 7 + 3, none⟩ (.string ⟨#[]⟩)).setCell ⟨g, ini.length * 7 + 4, none⟩ (.slice none 0 0)).setCell ⟨g, ini.length * 7 + 5, none⟩ (.string ⟨#[]⟩)).setCell ⟨g, ini.length * 7 + 6, none⟩ (.slice none 0 0)).heap[E]? = _) := (by rw [setCell_other HE3.out.2.1, setCell_other HE3.out.2.1, setCell_other HE3.out.2.1, setCell_other HE3.out.2.1, setCell_other HE3.out.2.1, setCell_other HE3.out.2.1, setCell_other HE3.out.2.1] : _ = w3.heap[E]?).trans HE4.out
  obtain ⟨hcap⟩ : ∃ _ : ini.length + 1 ≤ cap, True := by
    rcases M3.out.row.2 with ⟨h', _⟩ | ⟨g', cap', cur, h', q1, q2, q3, q4, q5, q6⟩
    · cases h'
    · cases h'
      exact ⟨q3, trivial⟩
  clear M3 HE4 c0 c1 c2 c3 c4 c5 c6 f0 f1 f2 f3 f4 f5 f6
  rw [HLT.out] at M4
  generalize ((((((w3.setCell ⟨g, ini.length * 7, none⟩ (.slice none 0 0)).setCell ⟨g, ini.length * 7 + 1, none⟩ (.string ⟨#[]⟩)).setCell ⟨g, ini.length * 7 + 2, none⟩ (.string ⟨#[]⟩)).setCell ⟨g, ini.length * 7 + 3, none⟩ (.string ⟨#[]⟩)).setCell ⟨g, ini.length * 7 + 4, none⟩ (.slice none 0 0)).setCell ⟨g, ini.length * 7 + 5, none⟩ (.string ⟨#[]⟩)).setCell ⟨g, ini.length * 7 + 6, none⟩ (.slice none 0 0) = W4 at M4 HE5 ⊢
  obtain ⟨⟨x0, x1, x2, x3, x4, x5, x6⟩, _⟩ := bxS M4.out.box
  rw [HOP.out] at x3
  have q3 : ∀ x : Ext W4, x.to.cell? ⟨P, 3, none⟩ = some (.slice (some ⟨g, 0, none⟩) (ini.length + 1) cap) := fun x => ext_cell x x3
  have hxs := extSome W4
  have k1 : IntKind.i64.wrap (((ini.length + 1 : Nat) : Int) - 1) = (ini.length : Int) := by rw [IntWalk.i64_in _ (by omega)]; omega
  have k2 : (0 : Int) ≤ (ini.length : Int) := by omega
  have k3 : (ini.length : Int) ≤ (cap : Int) := by omega
  have k4 : ((ini.length : Int)).toNat = ini.length := by omega
  clear x0 x1 x2 x3 x4 x5 x6
  refine ext_tail 14 (by kernel_rfl) (by kernel_rfl) ?_
  simp only [List.take_succ_cons, List.take_zero, List.drop_succ_cons, List.drop_zero]
  repeat (go_big_quiet_step (fail))
  refine wpQuiet_nil ?_
  rintro _ ⟨xx, hxx⟩
  subst hxx
  have M5 := Lib.hid (M4.out.call xx.below)
  have HE6 := Lib.hid ((xx.below.block _ (heap_lt HE5.out)).trans HE5.out)
  clear M4 HE5 q3 hxs k1 k2 k3 k4
  generalize xx.to = W5 at M5 HE6 ⊢
  obtain ⟨⟨x0, x1, x2, x3, x4, x5, x6⟩, hf⟩ := bxS M5.out.box
  rw [HOP.out] at x3
  have f3 := hf 3
  clear x0 x1 x2 x4 x5 x6 hf
  obtain ⟨z0, z1, z2, z3, z4, z5, z6⟩ := bx7 M5.out.r
  have fz := bx7e M5.out.r
  have fz0 := fz 0
  have fz1 := fz 1
  have fz2 := fz 2
  have fz3 := fz 3
  have fz4 := fz 4
  have fz5 := fz 5
  have fz6 := fz 6
  clear fz
  obtain ⟨p0, p1, p2, p3, p4⟩ := bx5 HE6.out
  have e0 : ((ini.length : Int) == 0) = false := by rw [beq_eq_false_iff_ne]; have := HN.out; omega
  have e1 : ((ini.length : Int) == 1) = true := by rw [beq_iff_eq]; have := HN.out; omega
  obtain ⟨n1, n2, n3, n4⟩ := M5.out.ne
  obtain ⟨m1, m2, m3⟩ := HE3.out
  go_wp2_with fail
  have MF := Lib.hid (M5.out.setP 3 (.slice (some ⟨g, 0, none⟩) ini.length cap))
  exact bodyPost_ret (v := .agg #[.int .i64 2, .string o.elem.sp, .string o.elem.nm, .slice aa o.elem.atr.length ac, .string o.elem.tx, .slice ka o.elem.ks.length kc, .int .i64 0]) (by simp [results, Tryz.results106, go_sem, z0, z1, z2, z3, z4, z5, z6]) rfl (ShP.one HS.out HO.out HL.out HKL.out HN.out MF.out rfl)

end Go.Proofs.YtolnpfcncmcacaaGreatDoor

/- The contract of (*Scanner).shut: an element within a stanza ends. Condition: the one around it has at most 1048576 children. -/
namespace Go.Proofs.YtolnpfcncmcacaaGreatDoor
open Go.RowKit Go.Lib Go.Shelf Tg Sn

set_option maxRecDepth 100000 in
set_option maxHeartbeats 8000000 in
theorem shut_in (N P : Nat) (v : Vw) (s : St) (w : World) (h : Sc N P v w s) (hov : s.over = false) (ini : List Sn.Op) (o : Sn.Op) (vi : List Ov) (x : Ov) (g cap : Nat) (L : Lst N P v w s ini o vi x g cap) (hin : ini.length < 1048576) (m : Nat) (hn : ini.length = m + 1) (hm : m ≠ 0) (hkl : o.elem.ks.length ≤ maxLen) (ini1 : List Sn.Op) (o1 : Sn.Op) (vi1 : List Ov) (x1 : Ov) (hi1 : ini = ini1 ++ [o1]) (hv1 : vi = vi1 ++ [x1]) (hkb : o1.elem.ks.length ≤ 1048576) :
    Calls Tryz.prog 106 #[.pointer (some ⟨P, 0, none⟩)] w (ShP N P v s w) := by
  obtain ⟨xb, xa, xk⟩ := x
  obtain ⟨⟨aa, ac, hxa⟩, ⟨ka, kc, hxk⟩⟩ : (∃ aa ac, xa = .slice aa o.elem.atr.length ac) ∧ (∃ ka kc, xk = .slice ka o.elem.ks.length kc) := by
    have p := h.lastPart L
    obtain ⟨a, c, e, _⟩ := sla_form p.a
    obtain ⟨_, k1, _⟩ := p.k
    obtain ⟨a2, c2, e2⟩ := own_form k1
    exact ⟨⟨a, c, e⟩, ⟨a2, c2, e2⟩⟩
  subst hxa
  subst hxk
  have hPl := h.boxlt
  have M0 := Lib.hid (Mid.start h L (fun b => b = P ∨ b = g) ⟨.inl rfl, .inr rfl⟩)
  have I := Lib.hid (fun W (hc : W.cell? ⟨P, 3, none⟩ = some (.slice (some ⟨g, 0, none⟩) (ini.length + 1) cap)) => innermost_any P g ini.length cap W hc hin)
  have HLL := Lib.hid (cellsO_len L.len)
  have HS := Lib.hid h
  have HL := Lib.hid L
  have HO := Lib.hid hov
  have HOP := Lib.hid L.opn
  have HLT : Hid ((cellsO ini vi ++ cells1 o ⟨xb, .slice aa o.elem.atr.length ac, .slice ka o.elem.ks.length kc⟩).take (ini.length * 7) = cellsO ini vi) := by
    show _ = _
    rw [List.take_append_of_le_length (by rw [cellsO_len L.len]; omega), List.take_of_length_le (by rw [cellsO_len L.len]; omega)]
  obtain ⟨x1b, x1a, x1k⟩ := x1
  have HN := Lib.hid hn
  have HKL := Lib.hid hkl
  have HM := Lib.hid hm
  have HMB : Hid (m < 1048576) := by show m < _; omega
  have HI1 := Lib.hid hi1
  have HV1 := Lib.hid hv1
  have hl1 : vi1.length = ini1.length := by have := L.len; rw [hi1, hv1] at this; simpa using this
  have hm1 : ini1.length = m := by rw [hi1] at hn; simpa using hn
  have hP1 : Part N (Imm N P v) w o1 ⟨x1b, x1a, x1k⟩ := by
    have hj : ini1.length < s.os.length := by rw [L.os, hi1, List.length_append, List.length_append]; simp; try omega
    have hjv : ini1.length < v.os.length := by rw [L.vs, hv1, List.length_append, List.length_append]; simp; omega
    have eo : s.os[ini1.length] = o1 := by simp only [L.os, hi1, List.append_assoc]; rw [List.getElem_append_right (Nat.le_refl _)]; simp
    have ev : v.os[ini1.length] = ⟨x1b, x1a, x1k⟩ := by simp only [L.vs, hv1, List.append_assoc]; rw [List.getElem_append_right (by rw [hl1]; exact Nat.le_refl _)]; simp [hl1]
    have p := h.part _ hj hjv
    rwa [eo, ev] at p
  obtain ⟨xs, hx1, hx2⟩ := hP1.k
  obtain ⟨ka1, kc1, e1⟩ := own_form hx1
  simp only at e1 hx1
  subst e1
  have hmem : (⟨x1b, x1a, .slice ka1 o1.elem.ks.length kc1⟩ : Ov) ∈ v.os := by rw [L.vs, hv1]; simp
  have hkin : ∀ b, (Value.slice ka1 o1.elem.ks.length kc1).ownBlock = some b → b ≠ P ∧ b ≠ g ∧ b < w.heap.size := fun b e => by
    obtain ⟨_, c, hc⟩ := own_heap hx1 e
    have hgo : v.opn.ownBlock = some g := by rw [L.opn]; rfl
    obtain ⟨_, c3, hc3⟩ := own_heap h.opn hgo
    exact ⟨fun e2 => ne_of_type hc h.box (by decide) e2, fun e2 => ne_of_type hc hc3 (by decide) e2, heap_lt hc⟩
  have HKg : Hid ((Value.slice ka1 o1.elem.ks.length kc1).ownBlock ≠ some g) := fun e => (hkin g e).2.1 rfl
  have HKw : Hid (∀ b, (Value.slice ka1 o1.elem.ks.length kc1).ownBlock = some b → b < w.heap.size) := fun b e => (hkin b e).2.2
  have HNw := Lib.hid h.low.2.2
  have HKR : Hid (∀ W, Ow (fun b => b = P ∨ b = g) w W → W.ownsRow N 48 5 (.slice ka1 o1.elem.ks.length kc1) o1.elem.ks.length xs) := fun W ho => own_keep hx1 fun b e => ho.block b (hkin b e).2.2 (fun e2 => e2.elim (hkin b e).1 (hkin b e).2.1)
  have HCO : Hid (cellsO ini vi = cellsO ini1 vi1 ++ cells1 o1 ⟨x1b, x1a, .slice ka1 o1.elem.ks.length kc1⟩) := by show _ = _; rw [hi1, hv1, cellsO_append hl1]; simp [cellsO]
  have HC6 : Hid (∀ (W : World) (bc : Array Value) (R' : Nat), Mid (fun b => b = P ∨ b = g) N P g R' (m + 1) cap w W bc (cellsO ini vi) → W.cell? ⟨g, m * 7 + 6, none⟩ = some (.slice ka1 o1.elem.ks.length kc1)) := fun W bc R' hM => by
    have hl0 := cellsO_len hl1
    rw [(hM.cell (m * 7 + 6) (by omega)).1, HCO.out, List.getElem?_append_right (by omega), show m * 7 + 6 - (cellsO ini1 vi1).length = 6 by omega]
    rfl
  have HP1 := Lib.hid hP1
  have HX2 := Lib.hid hx2
  have HKI := Lib.hid hkin
  clear hn hm hi1 hv1 hmem hP1 hx2 hkin hx1 hl1 hm1 hkl
  clear h L hov
  go_enter Tryz.func106, Tryz.ntmps106
  go_wp2_with fail
  generalize w.alloc (.cells #[.int .i64 0, .string ⟨#[]⟩, .string ⟨#[]⟩, .slice none 0 0, .string ⟨#[]⟩, .slice none 0 0, .int .i64 0] 50) = W0 at M0 ⊢
  generalize hR : w.heap.size = R at M0 ⊢
  have HR := Lib.hid hR
  clear hR
  obtain ⟨⟨x0, x1, x2, x3, x4, x5, x6⟩, _⟩ := bxS M0.out.box
  rw [HOP.out] at x3
  have C := Lib.hid (I.out _ x3)
  clear x0 x1 x2 x3 x4 x5 x6
  refine C.out.mono ?_
  rintro r w1 ⟨rfl, hb⟩
  have M1 := Lib.hid (M0.out.call hb)
  clear hb C M0
  have cc : ∀ j, j < 7 → w1.cell? ⟨g, ini.length * 7 + j, none⟩ = (cells1 o ⟨xb, .slice aa o.elem.atr.length ac, .slice ka o.elem.ks.length kc⟩)[j]? := fun j hj => by
    rw [(M1.out.cell (ini.length * 7 + j) (by omega)).1, List.getElem?_append_right (by rw [HLL.out]; omega), HLL.out]
    congr 1; omega
  have c2 : w1.cell? ⟨g, ini.length * 7 + 2, none⟩ = some (.string o.elem.sp) := cc 2 (by decide)
  have c3 : w1.cell? ⟨g, ini.length * 7 + 3, none⟩ = some (.string o.elem.nm) := cc 3 (by decide)
  have c4 : w1.cell? ⟨g, ini.length * 7 + 4, none⟩ = some (.slice aa o.elem.atr.length ac) := cc 4 (by decide)
  have c5 : w1.cell? ⟨g, ini.length * 7 + 5, none⟩ = some (.string o.elem.tx) := cc 5 (by decide)
  have c6 : w1.cell? ⟨g, ini.length * 7 + 6, none⟩ = some (.slice ka o.elem.ks.length kc) := cc 6 (by decide)
  clear cc
  go_wp2_with fail
  have M2 := Lib.hid (M1.out.call ((Below.refl _ w1).alloc (Nat.le_refl _) (.cells #[.string o.elem.sp, .string o.elem.nm, (.slice aa o.elem.atr.length ac), .string o.elem.tx, (.slice ka o.elem.ks.length kc)] 48)))
  have HE2 := Lib.hid (box_new w1 #[.string o.elem.sp, .string o.elem.nm, (.slice aa o.elem.atr.length ac), .string o.elem.tx, (.slice ka o.elem.ks.length kc)] 48)
  have HE3 : Hid (w1.heap.size ≠ P ∧ w1.heap.size ≠ g ∧ R < w1.heap.size) := ⟨by have := heap_lt M1.out.box; omega, by have := M1.out.glt; omega, heap_lt M1.out.r⟩
  clear M1 c2 c3 c4 c5 c6
  generalize w1.alloc (.cells #[.string o.elem.sp, .string o.elem.nm, (.slice aa o.elem.atr.length ac), .string o.elem.tx, (.slice ka o.elem.ks.length kc)] 48) = W2 at M2 HE2 ⊢
  generalize w1.heap.size = E at HE2 HE3 ⊢
  obtain ⟨⟨x0, x1, x2, x3, x4, x5, x6⟩, _⟩ := bxS M2.out.box
  rw [HOP.out] at x3
  have C := Lib.hid (I.out _ x3)
  clear x0 x1 x2 x3 x4 x5 x6 I
  refine C.out.mono ?_
  rintro r w3 ⟨rfl, hb⟩
  have M3 := Lib.hid (M2.out.call hb)
  have HE4 := Lib.hid ((hb.block _ (heap_lt HE2.out)).trans HE2.out)
  clear hb C M2 HE2
  have cc : ∀ j, j < 7 → (w3.cell? ⟨g, ini.length * 7 + j, none⟩ = (cells1 o ⟨xb, .slice aa o.elem.atr.length ac, .slice ka o.elem.ks.length kc⟩)[j]? ∧ w3.frozen? ⟨g, ini.length * 7 + j, none⟩ = false) := fun j hj => by
    refine ⟨?_, (M3.out.cell (ini.length * 7 + j) (by omega)).2⟩
    rw [(M3.out.cell (ini.length * 7 + j) (by omega)).1, List.getElem?_append_right (by rw [HLL.out]; omega), HLL.out]
    congr 1; omega
  have c0 : w3.cell? ⟨g, ini.length * 7, none⟩ = some xb := (cc 0 (by decide)).1
  have f0 : w3.frozen? ⟨g, ini.length * 7, none⟩ = false := (cc 0 (by decide)).2
  have c1 : w3.cell? ⟨g, ini.length * 7 + 1, none⟩ = some (.string o.name) := (cc 1 (by decide)).1
  have f1 := (cc 1 (by decide)).2
  have c2 : w3.cell? ⟨g, ini.length * 7 + 2, none⟩ = some (.string o.elem.sp) := (cc 2 (by decide)).1
  have f2 := (cc 2 (by decide)).2
  have c3 : w3.cell? ⟨g, ini.length * 7 + 3, none⟩ = some (.string o.elem.nm) := (cc 3 (by decide)).1
  have f3 := (cc 3 (by decide)).2
  have c4 : w3.cell? ⟨g, ini.length * 7 + 4, none⟩ = some (.slice aa o.elem.atr.length ac) := (cc 4 (by decide)).1
  have f4 := (cc 4 (by decide)).2
  have c5 : w3.cell? ⟨g, ini.length * 7 + 5, none⟩ = some (.string o.elem.tx) := (cc 5 (by decide)).1
  have f5 := (cc 5 (by decide)).2
  have c6 : w3.cell? ⟨g, ini.length * 7 + 6, none⟩ = some (.slice ka o.elem.ks.length kc) := (cc 6 (by decide)).1
  have f6 := (cc 6 (by decide)).2
  clear cc
  go_wp2_with fail
  have M4 := Lib.hid (M3.out.wipe (.slice none 0 0) (.string ⟨#[]⟩) (.string ⟨#[]⟩) (.string ⟨#[]⟩) (.slice none 0 0) (.string ⟨#[]⟩) (.slice none 0 0))
  have HE5 : Hid ((((((((w3.setCell ⟨g, ini.length * 7, none⟩ (.slice none 0 0)).setCell ⟨g, ini.length * 7 + 1, none⟩ (.string ⟨#[]⟩)).setCell ⟨g, ini.length * 7 + 2, none⟩ (.string ⟨#[]⟩)).setCell ⟨g, ini.length * 7 + 3, none⟩ (.string ⟨#[]⟩)).setCell ⟨g, ini.length * 7 + 4, none⟩ (.slice none 0 0)).setCell ⟨g, ini.length * 7 + 5, none⟩ (.string ⟨#[]⟩)).setCell ⟨g, ini.length * 7 + 6, none⟩ (.slice none 0 0)).heap[E]? = _) := (by rw [setCell_other HE3.out.2.1, setCell_other HE3.out.2.1, setCell_other HE3.out.2.1, setCell_other HE3.out.2.1, setCell_other HE3.out.2.1, setCell_other HE3.out.2.1, setCell_other HE3.out.2.1] : _ = w3.heap[E]?).trans HE4.out
  obtain ⟨hcap⟩ : ∃ _ : ini.length + 1 ≤ cap, True := by
    rcases M3.out.row.2 with ⟨h', _⟩ | ⟨g', cap', cur, h', q1, q2, q3, q4, q5, q6⟩
    · cases h'
    · cases h'
      exact ⟨q3, trivial⟩
  clear M3 HE4 c0 c1 c2 c3 c4 c5 c6 f0 f1 f2 f3 f4 f5 f6
  rw [HLT.out] at M4
  generalize ((((((w3.setCell ⟨g, ini.length * 7, none⟩ (.slice none 0 0)).setCell ⟨g, ini.length * 7 + 1, none⟩ (.string ⟨#[]⟩)).setCell ⟨g, ini.length * 7 + 2, none⟩ (.string ⟨#[]⟩)).setCell ⟨g, ini.length * 7 + 3, none⟩ (.string ⟨#[]⟩)).setCell ⟨g, ini.length * 7 + 4, none⟩ (.slice none 0 0)).setCell ⟨g, ini.length * 7 + 5, none⟩ (.string ⟨#[]⟩)).setCell ⟨g, ini.length * 7 + 6, none⟩ (.slice none 0 0) = W4 at M4 HE5 ⊢
  obtain ⟨⟨x0, x1, x2, x3, x4, x5, x6⟩, _⟩ := bxS M4.out.box
  rw [HOP.out] at x3
  have q3 : ∀ x : Ext W4, x.to.cell? ⟨P, 3, none⟩ = some (.slice (some ⟨g, 0, none⟩) (ini.length + 1) cap) := fun x => ext_cell x x3
  have hxs := extSome W4
  have k1 : IntKind.i64.wrap (((ini.length + 1 : Nat) : Int) - 1) = (ini.length : Int) := by rw [IntWalk.i64_in _ (by omega)]; omega
  have k2 : (0 : Int) ≤ (ini.length : Int) := by omega
  have k3 : (ini.length : Int) ≤ (cap : Int) := by omega
  have k4 : ((ini.length : Int)).toNat = ini.length := by omega
  clear x0 x1 x2 x3 x4 x5 x6
  refine ext_tail 14 (by kernel_rfl) (by kernel_rfl) ?_
  simp only [List.take_succ_cons, List.take_zero, List.drop_succ_cons, List.drop_zero]
  repeat (go_big_quiet_step (fail))
  refine wpQuiet_nil ?_
  rintro _ ⟨xx, hxx⟩
  subst hxx
  have M5 := Lib.hid (M4.out.call xx.below)
  have HE6 := Lib.hid ((xx.below.block _ (heap_lt HE5.out)).trans HE5.out)
  clear M4 HE5 q3 hxs k1 k2 k3 k4
  generalize xx.to = W5 at M5 HE6 ⊢
  rw [HN.out] at M5 ⊢
  obtain ⟨⟨x0, x1, x2, x3, x4, x5, x6⟩, hf⟩ := bxS M5.out.box
  rw [HOP.out, HN.out] at x3
  have f3 := hf 3
  clear x0 x1 x2 x4 x5 x6 hf hcap hin
  have e0 : (((m + 1 : Nat) : Int) == 0) = false := by rw [beq_eq_false_iff_ne]; omega
  have e1 : (((m + 1 : Nat) : Int) == 1) = false := by rw [beq_eq_false_iff_ne]; have := HM.out; omega
  go_wp2_with fail
  have M6 := Lib.hid (M5.out.setP 3 (.slice (some ⟨g, 0, none⟩) (m + 1) cap))
  have HE7 := Lib.hid ((setCell_other (i := 3) (u := .slice (some ⟨g, 0, none⟩) (m + 1) cap) HE3.out.1).trans HE6.out)
  clear x3 f3 e0 e1 M5 HE6
  generalize W5.setCell ⟨P, 3, none⟩ (.slice (some ⟨g, 0, none⟩) (m + 1) cap) = W6 at M6 HE7 ⊢
  have x3 : W6.cell? ⟨P, 3, none⟩ = some (.slice (some ⟨g, 0, none⟩) (m + 1) cap) := by rw [Lib.cell_of_heap M6.out.box]; rfl
  have C := Lib.hid (innermost_any P g m cap W6 x3 HMB.out)
  clear x3
  refine C.out.mono ?_
  rintro r w7 ⟨rfl, hb⟩
  have M7 := Lib.hid (M6.out.call hb)
  have HE8 := Lib.hid ((hb.block _ (heap_lt HE7.out)).trans HE7.out)
  clear hb C M6 HE7
  obtain ⟨p0, p1, p2, p3, p4⟩ := bx5 HE8.out
  have c6 : w7.cell? ⟨g, m * 7 + 6, none⟩ = some (.slice ka1 o1.elem.ks.length kc1) := HC6.out _ _ _ M7.out
  have f6 : w7.frozen? ⟨g, m * 7 + 6, none⟩ = false := M7.out.row.frozenAt _
  have hgl := M7.out.glt
  have hEl := heap_lt HE8.out
  obtain ⟨i0, hi0, hz0, hz1, hz2⟩ := info_parts infoElem
  have hK7 := Lib.hid (HKR.out w7 M7.out.ow)
  have hkg : (Value.slice ka1 o1.elem.ks.length kc1).ownBlock ≠ some g := HKg.out
  have hkE : (Value.slice ka1 o1.elem.ks.length kc1).ownBlock ≠ some E := fun e => by have h1 := HKw.out _ e; have h2 := HE3.out.2.2; have h3 := M7.out.ne.2.2.2; omega
  have hN7 : N ≤ w7.heap.size := Nat.le_trans HNw.out M7.out.ow.size
  obtain ⟨n1, n2, n3, n4⟩ := M7.out.ne
  obtain ⟨m1, m2, m3⟩ := HE3.out
  have h20 : (0 : Int) ≤ (o1.elem.ks.length : Int) := Int.natCast_nonneg _
  have h21 : (o1.elem.ks.length : Int) < ((o1.elem.ks.length + 1 : Nat) : Int) := by omega
  have h22 : (o1.elem.ks.length : Int) < (o1.elem.ks.length : Int) + 1 := by omega
  go_wp2_with fail
  go_region_law
    ((refine step_append_lies _ (by rfl) _ _ _ (by rfl) N 48 i0 _ 5 96 Tryz.underlying43 hi0 hz0 hz1 hz2 rfl (by omega) (.slice ka1 o1.elem.ks.length kc1) o1.elem.ks.length xs (by rfl) ((hK7.out.alloc _).drew)
        ⟨w7.heap.size, 0, none⟩ 1 1 [.string ⟨#[]⟩, .string ⟨#[]⟩, .slice none 0 0, .string ⟨#[]⟩, .slice none 0 0] (by rfl) (by rfl) (World.news_of_block (cs := #[.string ⟨#[]⟩, .string ⟨#[]⟩, .slice none 0 0, .string ⟨#[]⟩, .slice none 0 0]) (t := 48) (fr := (0, 0)) (heap_alloc_new w7 _)) (by simp [Value.oneCell'])
        (by omega) (by unfold maxLen; omega) (by omega) (by simp; omega) (w7.heap.size + 1) (by simp) ?_; intro G cap2 w8 hown hgrow hat hlt8; have hGg : G ≠ g := (by rcases hat with e | e; exact fun e2 => hkg (by rw [e, e2]); omega); have hGE : G ≠ E := (by rcases hat with e | e; exact fun e2 => hkE (by rw [e, e2]); omega); have hgG : g ≠ G := Ne.symm hGg; have hEG : E ≠ G := Ne.symm hGE; obtain ⟨⟨gc0, gc1, gc2, gc3, gc4⟩, gff⟩ := newKid hown hK7.out.1; have gf0 := gff (o1.elem.ks.length * 5); have gf1 := gff (o1.elem.ks.length * 5 + 1); have gf2 := gff (o1.elem.ks.length * 5 + 2); have gf3 := gff (o1.elem.ks.length * 5 + 3); have gf4 := gff (o1.elem.ks.length * 5 + 4); clear gff; have hb8 : ∀ b, b < w7.heap.size → (Value.slice ka1 o1.elem.ks.length kc1).ownBlock ≠ some b → w8.heap[b]? = w7.heap[b]? := (fun b hb hn => (hgrow.block b (by simp; omega) (fun e => hn e.symm)).trans (Below.heap_alloc _ _ _ hb)); have HE9 : Hid (w8.heap[E]? = _) := (hb8 E hEl hkE).trans HE8.out; have HG9 : Hid (w8.heap[g]? = w7.heap[g]?) := hb8 g hgl hkg; obtain ⟨p08, p18, p28, p38, p48⟩ := bx5 HE9.out; have c68 : w8.cell? ⟨g, m * 7 + 6, none⟩ = some (.slice ka1 o1.elem.ks.length kc1) := (World.cell?_of_block (a := ⟨g, m * 7 + 6, none⟩) HG9.out).trans c6; have f68 : w8.frozen? ⟨g, m * 7 + 6, none⟩ = false := gfroz M7.out.row HG9.out _; have HB8 := Lib.hid hb8; clear hb8))
  all_goals
    try rw [set_comm5 hgG]
    have HR9 : Hid (((((((w8.setCell ⟨G, o1.elem.ks.length * 5, none⟩ (.string o.elem.sp)).setCell ⟨G, o1.elem.ks.length * 5 + 1, none⟩ (.string o.elem.nm)).setCell ⟨G, o1.elem.ks.length * 5 + 2, none⟩ (.slice aa o.elem.atr.length ac)).setCell ⟨G, o1.elem.ks.length * 5 + 3, none⟩ (.string o.elem.tx)).setCell ⟨G, o1.elem.ks.length * 5 + 4, none⟩ (.slice ka o.elem.ks.length kc)).setCell ⟨g, m * 7 + 2 + 4, none⟩ (.slice (some ⟨G, 0, none⟩) (o1.elem.ks.length + 1) cap2)).heap[R]? = some (.cells #[.int .i64 0, .string ⟨#[]⟩, .string ⟨#[]⟩, .slice none 0 0, .string ⟨#[]⟩, .slice none 0 0, .int .i64 0] 50 (0, 0))) := by
      have hRG : R ≠ G := by
        have h1 := heap_lt M7.out.r
        rcases hat with e | e
        · intro e2; have := HKw.out G e; omega
        · omega
      exact (setCell_other n3).trans ((heap5 hRG _ _ _ _ _).trans ((HB8.out R (heap_lt M7.out.r) (fun e => by have := HKw.out R e; omega)).trans M7.out.r))
    obtain ⟨W9, hW9⟩ : ∃ W9, (((((w8.setCell ⟨G, o1.elem.ks.length * 5, none⟩ (.string o.elem.sp)).setCell ⟨G, o1.elem.ks.length * 5 + 1, none⟩ (.string o.elem.nm)).setCell ⟨G, o1.elem.ks.length * 5 + 2, none⟩ (.slice aa o.elem.atr.length ac)).setCell ⟨G, o1.elem.ks.length * 5 + 3, none⟩ (.string o.elem.tx)).setCell ⟨G, o1.elem.ks.length * 5 + 4, none⟩ (.slice ka o.elem.ks.length kc)).setCell ⟨g, m * 7 + 2 + 4, none⟩ (.slice (some ⟨G, 0, none⟩) (o1.elem.ks.length + 1) cap2) = W9 := ⟨_, rfl⟩
    rw [hW9] at HR9 ⊢
    rw [show m * 7 + 2 + 4 = m * 7 + 6 from rfl] at hW9
    have HW9 := Lib.hid hW9
    have HOWN := Lib.hid hown
    have HGR := Lib.hid hgrow
    have HAT := Lib.hid hat
    clear hW9 hown hgrow hat gc0 gc1 gc2 gc3 gc4 gf0 gf1 gf2 gf3 gf4 p08 p18 p28 p38 p48 c68 f68 p0 p1 p2 p3 p4 c6 f6 hlt8
    obtain ⟨z0, z1, z2, z3, z4, z5, z6⟩ := bx7 HR9.out
    have fz := bx7e HR9.out
    have fz0 := fz 0
    have fz1 := fz 1
    have fz2 := fz 2
    have fz3 := fz 3
    have fz4 := fz 4
    have fz5 := fz 5
    have fz6 := fz 6
    clear fz
    go_wp2_with fail
    refine bodyPost_ret (v := .agg #[.int .i64 0, .string ⟨#[]⟩, .string ⟨#[]⟩, .slice none 0 0, .string ⟨#[]⟩, .slice none 0 0, .int .i64 0]) (by simp [results, Tryz.results106, go_sem, z0, z1, z2, z3, z4, z5, z6]) rfl ?_
    have hi1 := HI1.out
    have hv1 := HV1.out
    have hnn := HN.out
    rw [hi1] at hnn
    obtain rfl : m = ini1.length := by simpa using hnn.symm
    have hL := HL.out
    have hM := M7.out
    rw [hi1, hv1] at hL hM
    have K := fun v0 v1 v2 v3 v4 v5 v6 => ShP.inn (v0 := v0) (v1 := v1) (v2 := v2) (v3 := v3) (v4 := v4) (v5 := v5) (v6 := v6) HS.out HO.out hL HKL.out HM.out hM rfl hK7.out.1 HX2.out HKI.out HOWN.out HGR.out HAT.out HB8.out
    have hw := HW9.out
    simp only at K
    rw [hw] at K
    exact K _ _ _ _ _ _ _

end Go.Proofs.YtolnpfcncmcacaaGreatDoor

/- A scanner's call within another call that keeps a cell for its answer; what shut answers, whatever is open. Condition: texts, children and open elements are at most 1048576. -/
namespace Go.Proofs.YtolnpfcncmcacaaGreatDoor
open Go.RowKit Go.Lib Go.Shelf Tg Sn

theorem Sc.mutlt {N P : Nat} {v : Vw} {w : World} {s : St} (h : Sc N P v w s) {b : Nat} (hm : Mut P v b) : b < w.heap.size := by
  rcases hm with e | e | e | ⟨x, hx, e⟩
  · subst e; exact h.boxlt
  · obtain ⟨_, c, hc⟩ := own_heap h.tok e; exact heap_lt hc
  · obtain ⟨_, c, hc⟩ := own_heap h.opn e; exact heap_lt hc
  · obtain ⟨_, c, hc⟩ := h.kidsHeap hx e; exact heap_lt hc
/-- A block that is a caller's. -/
def plus (v : Vw) (R : Nat) : Vw := { v with far := fun b => v.far b ∨ b = R }
theorem Sc.addFar {N P R : Nat} {v : Vw} {w w2 : World} {s : St} (h : Sc N P v w s) (hb : Below w.heap.size w w2) (h1 : w.heap.size ≤ R) (h2 : R < w2.heap.size) : Sc N P (plus v R) w2 s ∧ Fr P v w w2 (plus v R) := by
  have hf : Fr P v w w2 (plus v R) := ⟨hb.os, hb.tape, hb.output, hb.size, fun b hb' _ => hb.block b hb', fun _ hm => .inl hm, fun b hb' => hb'.elim .inl (fun e => .inr (by omega)), fun _ h => .inl h⟩
  have lt : ∀ {b : Nat} {o : Obj}, w.heap[b]? = some o → w2.heap[b]? = w.heap[b]? := fun hh => hb.block _ (heap_lt hh)
  refine ⟨⟨(lt h.box).trans h.box, own_keep h.tok (fun b e => lt (own_heap h.tok e).2.choose_spec), own_keep h.opn (fun b e => lt (own_heap h.opn e).2.choose_spec), h.len, fun i h1 h2 => ?_, h.apart, h.gd.below hb, ⟨h.low.1, h.low.2.1, Nat.le_trans h.low.2.2 hb.size⟩, fun b hb' => ?_⟩, hf⟩
  · have p := h.part i h1 h2
    obtain ⟨xs, k1, k2⟩ := p.k
    exact p.fr hf (fun b e => lt (own_heap k1 e).2.choose_spec)
  · rcases hb' with e | e
    · exact ⟨Nat.lt_of_lt_of_le (h.off b e).1 hb.size, (h.off b e).2⟩
    · subst e
      exact ⟨h2, fun hm => by have := h.mutlt (b := b) hm; omega⟩
theorem Sc.putFar {N P R : Nat} {v : Vw} {w w' : World} {s : St} (h : Sc N P v w s) (hR : v.far R) (hN : N ≤ R) (ho : Ow (fun b => b = R) w w') : Sc N P v w' s := by
  have hmr := (h.off R hR).2
  have keep : ∀ {b : Nat} {o : Obj}, w.heap[b]? = some o → b ≠ R → w'.heap[b]? = w.heap[b]? := fun hh hne => ho.block _ (heap_lt hh) hne
  have hin : ∀ {e : El} {x : Value}, InS (Imm N P v) w e x → InS (Imm N P v) w' e x := fun hi => hi.keep fun b hb hlt => ho.block b hlt (fun e => hb.2.2 (by rw [e]; exact hR))
  have hsl : ∀ {l : List At} {x : Value}, SlA (Imm N P v) w x l → SlA (Imm N P v) w' x l := fun hi => hi.keep fun b hb hlt => ho.block b hlt (fun e => hb.2.2 (by rw [e]; exact hR))
  refine ⟨(keep h.box (fun e => hmr (.inl e.symm))).trans h.box, own_keep h.tok (fun b e => keep (own_heap h.tok e).2.choose_spec (fun e2 => hmr (.inr (.inl (by rw [← e2]; exact e))))), own_keep h.opn (fun b e => keep (own_heap h.opn e).2.choose_spec (fun e2 => hmr (.inr (.inr (.inl (by rw [← e2]; exact e)))))), h.len, fun i h1 h2 => ?_, h.apart, ?_, ⟨h.low.1, h.low.2.1, Nat.le_trans h.low.2.2 ho.size⟩, fun b hb => ⟨Nat.lt_of_lt_of_le (h.off b hb).1 ho.size, (h.off b hb).2⟩⟩
  · have p := h.part i h1 h2
    obtain ⟨xs, k1, k2⟩ := p.k
    refine ⟨hsl p.d, hsl p.a, ⟨xs, own_keep k1 (fun b e => keep (own_heap k1 e).2.choose_spec (fun e2 => hmr (.inr (.inr (.inr ⟨v.os[i], List.getElem_mem h2, by rw [← e2]; exact e⟩))))), fun j hj => ?_⟩, p.z, p.f⟩
    obtain ⟨v0, v1, v2, v3, v4, a0, a1, a2, a3, a4, hi⟩ := k2 j hj
    exact ⟨v0, v1, v2, v3, v4, a0, a1, a2, a3, a4, hin hi⟩
  · obtain ⟨te, pe, hc⟩ := h.gd
    exact h.gd.keep (ho.block _ (World.block_lt_of_cell? w _ hc) (fun e => by have := h.low.1; have e : 3 = R := e; omega))
theorem Imm.less {N P : Nat} {v : Vw} {f : Nat → Prop} (hf : ∀ b, f b → v.far b) {b : Nat} (h : Imm N P v b) : Imm N P { v with far := f } b := ⟨h.1, h.2.1, fun hb => h.2.2 (hf b hb)⟩
theorem Sc.less {N P : Nat} {v : Vw} {w : World} {s : St} {f : Nat → Prop} (h : Sc N P v w s) (hf : ∀ b, f b → v.far b) : Sc N P { v with far := f } w s := by
  refine ⟨h.box, h.tok, h.opn, h.len, fun i h1 h2 => ?_, h.apart, h.gd, h.low, fun b hb => h.off b (hf b hb)⟩
  have p := h.part i h1 h2
  obtain ⟨xs, k1, k2⟩ := p.k
  refine ⟨p.d.weak fun b _ hb => hb.less hf, p.a.weak fun b _ hb => hb.less hf, ⟨xs, k1, fun j hj => ?_⟩, p.z, p.f⟩
  obtain ⟨v0, v1, v2, v3, v4, a0, a1, a2, a3, a4, hi⟩ := k2 j hj
  exact ⟨v0, v1, v2, v3, v4, a0, a1, a2, a3, a4, hi.weak fun b _ hb => hb.less hf⟩
/-- What a call answers that tells of an event and an error. -/
def ResP (N P : Nat) (v : Vw) (w : World) (r : St × Ev × Nat) (e : Ending) (w' : World) : Prop := ∃ v' val, e = .returned (.tuple #[val, .int .i64 (r.2.2 : Int)]) ∧ EvS (Imm N P v') w' r.2.1 val ∧ Scn N P v' w' r.1 ∧ Fr P v w w' v'
theorem ResP.bad {N P : Nat} {v : Vw} {w w' : World} {s : St} {r : St × Ev × Nat} {n : Nat} {e : Ending} (h : Sc N P v w s) (hov : s.over = false) (hr : r = (s, Ev0, n)) (he : e = .returned (.tuple #[(.agg #[.int .i64 0, .string ⟨#[]⟩, .string ⟨#[]⟩, .slice none 0 0, .string ⟨#[]⟩, .slice none 0 0, .int .i64 0]), .int .i64 (n : Int)])) (hb : Below w.heap.size w w') : ResP N P v w r e w' := by
  subst hr
  exact ⟨v, _, he, EvS.zero _ _ 0 0, ⟨fun _ => h.below hb, fun hc => by rw [hov] at hc; cases hc⟩, Fr.below hb⟩
/-- Behind the inner call: the answer is laid in the caller's own cell. -/
theorem ResP.inn {N P R : Nat} {v v' : Vw} {w w2 w3 W4 : World} {s : St} {r : St × Ev × Nat} {e : Ending} {val : Value} (h0 : Sc N P v w s) (hb : Below w.heap.size w w2) (h1 : w.heap.size ≤ R) (hf : Fr P (plus v R) w2 w3 v')
    (hs : Scn N P v' w3 r.1) (hE : EvS (Imm N P v') w3 r.2.1 val) (ho : Ow (fun b => b = R) w3 W4) (he : e = .returned (.tuple #[val, .int .i64 (r.2.2 : Int)])) : ResP N P v w r e W4 := by
  have hN : N ≤ R := Nat.le_trans h0.low.2.2 h1
  have hR : v'.far R := hf.farLo R (.inr rfl)
  have hlow : ∀ b, v.far b → v'.far b := fun b hb' => hf.farLo b (.inl hb')
  refine ⟨{ v' with far := v.far }, val, he, ?_, ⟨fun ho' => ((hs.1 ho').putFar hR hN ho).less hlow, fun ho' => ?_⟩, ?_⟩
  · obtain ⟨u0, u1, u2, u3, u4, e1, hi⟩ := hE
    exact ⟨u0, u1, u2, u3, u4, e1, (hi.keep fun b hb' hlt => ho.block b hlt (fun e => hb'.2.2 (by rw [e]; exact hR))).weak fun b _ hb' => hb'.less hlow⟩
  · obtain ⟨⟨t, q, bg, a, c, z, hd⟩, hm⟩ := hs.2 ho'
    exact ⟨⟨t, q, bg, a, c, z, (ho.block P (heap_lt hd) (fun e => by have := h0.boxlt; omega)).trans hd⟩, hm⟩
  · refine ⟨ho.os.trans (hf.os.trans hb.os), ho.tape.trans (hf.tape.trans hb.tape), ho.output.trans (hf.output.trans hb.output), Nat.le_trans hb.size (Nat.le_trans hf.size ho.size), fun b hb' hm => ?_, fun b hm => ?_, fun b h => .inl h, fun b h => h⟩
    · have hbs := Nat.lt_of_lt_of_le hb' hb.size
      exact (ho.block b (Nat.lt_of_lt_of_le hbs hf.size) (fun e => by omega)).trans ((hf.block b hbs hm).trans (hb.block b hb'))
    · rcases hf.turn b hm with h2 | h2
      · exact .inl h2
      · exact .inr (Nat.le_trans hb.size h2)
theorem Ow.set7s {w w1 : World} {E : Nat} (h : Ow (fun b => b = E) w w1) (v0 v1 v2 v3 v4 v5 v6 : Value) :
    Ow (fun b => b = E) w (((((((w1.setCell ⟨E, 0, none⟩ v0).setCell ⟨E, 1, none⟩ v1).setCell ⟨E, 2, none⟩ v2).setCell ⟨E, 3, none⟩ v3).setCell ⟨E, 4, none⟩ v4).setCell ⟨E, 5, none⟩ v5).setCell ⟨E, 6, none⟩ v6) := by
  have h0 := h.set (a := ⟨E, 0, none⟩) (fun _ => rfl) v0
  have h1 := h0.set (a := ⟨E, 1, none⟩) (fun _ => rfl) v1
  have h2 := h1.set (a := ⟨E, 2, none⟩) (fun _ => rfl) v2
  have h3 := h2.set (a := ⟨E, 3, none⟩) (fun _ => rfl) v3
  have h4 := h3.set (a := ⟨E, 4, none⟩) (fun _ => rfl) v4
  have h5 := h4.set (a := ⟨E, 5, none⟩) (fun _ => rfl) v5
  exact h5.set (a := ⟨E, 6, none⟩) (fun _ => rfl) v6
theorem InS.shape {S : Nat → Prop} {w : World} {e : El} {u0 u1 u2 u3 u4 : Value} (h : InS S w e (.agg #[u0, u1, u2, u3, u4])) : ∃ sp nm aa an ac tx ka kn kc, u0 = .string sp ∧ u1 = .string nm ∧ u2 = .slice aa an ac ∧ u3 = .string tx ∧ u4 = .slice ka kn kc := by
  cases h with
  | mk sp nm atr tx ks a aK cK V h0 h1 h2 h3 h4 =>
    obtain ⟨aA, cA, rfl, _⟩ := h1
    exact ⟨_, _, _, _, _, _, _, _, _, rfl, rfl, rfl, rfl, rfl⟩
theorem shut_any (N P : Nat) (v : Vw) (s : St) (w : World) (h : Sc N P v w s) (hov : s.over = false) (hne : s.os ≠ []) (hol : s.os.length ≤ 1048576) (hk : ∀ o ∈ s.os, o.elem.ks.length ≤ 1048576) :
    Calls Tryz.prog 106 #[.pointer (some ⟨P, 0, none⟩)] w (ShP N P v s w) := by
  obtain ⟨ini, o, vi, x, g, cap, L⟩ := h.last hne
  have hin : ini.length < 1048576 := by rw [L.os] at hol; simp at hol; omega
  have hkl : o.elem.ks.length ≤ maxLen := by have := hk o (by rw [L.os]; simp); unfold maxLen; omega
  by_cases h0 : ini.length = 0
  · exact shut_top N P v s w h hov ini o vi x g cap L hin h0
  by_cases h1 : ini.length = 1
  · exact shut_one N P v s w h hov ini o vi x g cap L hin h1 hkl
  obtain ⟨m, hm⟩ : ∃ m, ini.length = m + 1 := ⟨ini.length - 1, by omega⟩
  have hi0 : ini ≠ [] := by intro e; rw [e] at h0; exact h0 rfl
  have hv0 : vi ≠ [] := by intro e; have := L.len; rw [e] at this; simp at this; omega
  exact shut_in N P v s w h hov ini o vi x g cap L hin m hm (by omega) hkl ini.dropLast (ini.getLast hi0) vi.dropLast (vi.getLast hv0) (List.dropLast_concat_getLast hi0).symm (List.dropLast_concat_getLast hv0).symm
    (hk _ (by rw [L.os]; simp))
end Go.Proofs.YtolnpfcncmcacaaGreatDoor

/- The contract of (*Scanner).end: a tag that ends an element. Condition: as shut's; the tag has at least three bytes. -/
namespace Go.Proofs.YtolnpfcncmcacaaGreatDoor
open Go.RowKit Go.Lib Go.Shelf Tg Sn

theorem te_full {s : St} {t : B8} (h : full (endName t) = false) : tagEnd s t = (s, Ev0, 60) := by unfold tagEnd; rw [h]; rfl
theorem te_none {s : St} {t : B8} (h : s.os = []) : tagEnd s t = (s, Ev0, 60) := by unfold tagEnd; rw [h]; simp
theorem te_name {s : St} {t : B8} {ini : List Sn.Op} {o : Sn.Op} (h : s.os = ini ++ [o]) (hn : o.name.data.toList ≠ endName t) : tagEnd s t = (s, Ev0, 60) := by
  unfold tagEnd
  simp only [h, List.getLast?_concat]
  rw [show (o.name.data.toList == endName t) = false by simpa using hn]
  simp
theorem te_yes {s : St} {t : B8} {ini : List Sn.Op} {o : Sn.Op} (hf : full (endName t) = true) (h : s.os = ini ++ [o]) (hn : o.name.data.toList = endName t) : tagEnd s t = ((shut s).1, (shut s).2, 0) := by
  unfold tagEnd
  simp only [h, List.getLast?_concat]
  rw [show (o.name.data.toList == endName t) = true by simpa using hn, hf]
  simp only [Bool.and_self, if_true]
set_option maxRecDepth 100000 in
set_option maxHeartbeats 8000000 in
theorem end_any (N P : Nat) (v : Vw) (s : St) (t : ByteArray) (w : World) (h : Sc N P v w s) (hov : s.over = false) (ht : t.size ≤ 1048576) (h3 : 3 ≤ t.size) (hol : s.os.length ≤ 1048576) (hk : ∀ o ∈ s.os, o.elem.ks.length ≤ 1048576) :
    Calls Tryz.prog 73 #[.pointer (some ⟨P, 0, none⟩), .string t] w (ResP N P v w (tagEnd s t.data.toList)) := by
  have E := Lib.hid (fun W => readEnd_any t W ht h3)
  have HS := Lib.hid h
  have HO := Lib.hid hov
  have HB0 : Hid (Below w.heap.size w (w.alloc (.cells #[.int .i64 0, .string ⟨#[]⟩, .string ⟨#[]⟩, .slice none 0 0, .string ⟨#[]⟩, .slice none 0 0, .int .i64 0] 50))) := (Below.refl _ _).alloc (Nat.le_refl _) _
  have HR0 : Hid ((w.alloc (.cells #[.int .i64 0, .string ⟨#[]⟩, .string ⟨#[]⟩, .slice none 0 0, .string ⟨#[]⟩, .slice none 0 0, .int .i64 0] 50)).heap[w.heap.size]? = some (.cells #[.int .i64 0, .string ⟨#[]⟩, .string ⟨#[]⟩, .slice none 0 0, .string ⟨#[]⟩, .slice none 0 0, .int .i64 0] 50 (0, 0))) := box_new w _ _
  have TF := Lib.hid (te_full (s := s) (t := t.data.toList))
  have TN := Lib.hid (te_none (s := s) (t := t.data.toList))
  have TM := Lib.hid (fun ini o => te_name (s := s) (t := t.data.toList) (ini := ini) (o := o))
  have TY := Lib.hid (fun ini o => te_yes (s := s) (t := t.data.toList) (ini := ini) (o := o))
  have HML := Lib.hid (mk_list (endName t.data.toList))
  have HOL := Lib.hid hol
  have HK := Lib.hid hk
  obtain ⟨oa, oc, hop⟩ := h.opnIs
  have HOP := Lib.hid hop
  clear h hov hol hk hop ht h3
  generalize hNM : Sn.mk (endName t.data.toList) = NM at E HML
  have HNM := Lib.hid hNM
  clear hNM
  cases hf : full (endName t.data.toList) with
  | false =>
    have T := Lib.hid (TF.out hf)
    rw [hf] at E
    clear hf TF TN TM TY
    go_enter Tryz.func73, Tryz.ntmps73
    go_wp2_with fail
    generalize w.alloc (.cells #[.int .i64 0, .string ⟨#[]⟩, .string ⟨#[]⟩, .slice none 0 0, .string ⟨#[]⟩, .slice none 0 0, .int .i64 0] 50) = W0 at HB0 HR0 ⊢
    refine (E.out _).mono ?_
    rintro r w1 ⟨rfl, hb⟩
    have HB1 := Lib.hid (HB0.out.trans (hb.mono HB0.out.size))
    have HR1 := Lib.hid ((hb.block _ (heap_lt HR0.out)).trans HR0.out)
    clear hb
    obtain ⟨z0, z1, z2, z3, z4, z5, z6⟩ := bx7 HR1.out
    have fz := bx7e HR1.out
    have fz0 := fz 0
    have fz1 := fz 1
    have fz2 := fz 2
    have fz3 := fz 3
    have fz4 := fz 4
    have fz5 := fz 5
    have fz6 := fz 6
    clear fz
    go_wp2_with fail
    exact bodyPost_ret (v := .tuple #[(.agg #[.int .i64 0, .string ⟨#[]⟩, .string ⟨#[]⟩, .slice none 0 0, .string ⟨#[]⟩, .slice none 0 0, .int .i64 0]), .int .i64 60]) (by simp [results, Tryz.results73, go_sem, z0, z1, z2, z3, z4, z5, z6]) rfl (ResP.bad HS.out HO.out T.out rfl (set7 HB1.out (Nat.le_refl _) _ _ _ _ _ _ _))
  | true =>
    have HFU := Lib.hid hf
    rw [hf] at E
    clear hf TF
    by_cases hos : s.os = []
    · have T := Lib.hid (TN.out hos)
      have hl : s.os.length = 0 := by rw [hos]; rfl
      rw [hl] at HOP
      clear hos hl TN TM TY
      go_enter Tryz.func73, Tryz.ntmps73
      go_wp2_with fail
      generalize w.alloc (.cells #[.int .i64 0, .string ⟨#[]⟩, .string ⟨#[]⟩, .slice none 0 0, .string ⟨#[]⟩, .slice none 0 0, .int .i64 0] 50) = W0 at HB0 HR0 ⊢
      refine (E.out _).mono ?_
      rintro r w1 ⟨rfl, hb⟩
      have HB1 := Lib.hid (HB0.out.trans (hb.mono HB0.out.size))
      have HR1 := Lib.hid ((hb.block _ (heap_lt HR0.out)).trans HR0.out)
      clear hb
      obtain ⟨z0, z1, z2, z3, z4, z5, z6⟩ := bx7 HR1.out
      have fz := bx7e HR1.out
      have fz0 := fz 0
      have fz1 := fz 1
      have fz2 := fz 2
      have fz3 := fz 3
      have fz4 := fz 4
      have fz5 := fz 5
      have fz6 := fz 6
      clear fz
      have x3 : w1.cell? ⟨P, 3, none⟩ = some (.slice oa 0 oc) := by
        have := (bxS (HS.out.below HB1.out).box).1.2.2.2.1
        rw [HOP.out] at this; exact this
      go_wp2_with fail
      exact bodyPost_ret (v := .tuple #[(.agg #[.int .i64 0, .string ⟨#[]⟩, .string ⟨#[]⟩, .slice none 0 0, .string ⟨#[]⟩, .slice none 0 0, .int .i64 0]), .int .i64 60]) (by simp [results, Tryz.results73, go_sem, z0, z1, z2, z3, z4, z5, z6]) rfl (ResP.bad HS.out HO.out T.out rfl (set7 HB1.out (Nat.le_refl _) _ _ _ _ _ _ _))
    · obtain ⟨ini, o, vi, x, g, cap, L⟩ := HS.out.last hos
      have HL := Lib.hid L
      have HNE := Lib.hid hos
      have hin : ini.length < 1048576 := by have := HOL.out; rw [L.os] at this; simp at this; omega
      have I := Lib.hid (fun W (hc : W.cell? ⟨P, 3, none⟩ = some (.slice (some ⟨g, 0, none⟩) (ini.length + 1) cap)) => innermost_any P g ini.length cap W hc hin)
      have e0 : (((ini.length + 1 : Nat) : Int) == 0) = false := by rw [beq_eq_false_iff_ne]; omega
      clear hos L hin TN HOP
      by_cases hn : o.name.data.toList = endName t.data.toList
      case neg =>
        have T := Lib.hid (TM.out ini o HL.out.os hn)
        have e1 : (NM.toList != o.name.toList) = true := by
          rw [ByteArray.toList_eq, ByteArray.toList_eq, bne_iff_ne, HML.out]
          exact fun e => hn e.symm
        have e3 : (NM.toList == o.name.toList) = false := by
          rw [ByteArray.toList_eq, ByteArray.toList_eq, beq_eq_false_iff_ne, HML.out]
          exact fun e => hn e.symm
        have e2 : ¬ NM.toList = o.name.toList := by
          rw [ByteArray.toList_eq, ByteArray.toList_eq, HML.out]
          exact fun e => hn e.symm
        clear hn TM TY
        go_enter Tryz.func73, Tryz.ntmps73
        go_wp2_with fail
        generalize w.alloc (.cells #[.int .i64 0, .string ⟨#[]⟩, .string ⟨#[]⟩, .slice none 0 0, .string ⟨#[]⟩, .slice none 0 0, .int .i64 0] 50) = W0 at HB0 HR0 ⊢
        refine (E.out _).mono ?_
        rintro r w1 ⟨rfl, hb⟩
        have HB1 := Lib.hid (HB0.out.trans (hb.mono HB0.out.size))
        have HR1 := Lib.hid ((hb.block _ (heap_lt HR0.out)).trans HR0.out)
        clear hb
        have x3 : w1.cell? ⟨P, 3, none⟩ = some (.slice (some ⟨g, 0, none⟩) (ini.length + 1) cap) := by
          have := (bxS (HS.out.below HB1.out).box).1.2.2.2.1
          rw [HL.out.opn] at this; exact this
        have C := Lib.hid (I.out _ x3)
        go_wp2_with fail
        refine C.out.mono ?_
        rintro r w2 ⟨rfl, hb⟩
        have HB2 := Lib.hid (HB1.out.trans (hb.mono HB1.out.size))
        have HR2 := Lib.hid ((hb.block _ (heap_lt HR1.out)).trans HR1.out)
        clear hb x3
        have c1 : w2.cell? ⟨g, ini.length * 7 + 1, none⟩ = some (.string o.name) := ((HL.out.at (HS.out.below HB2.out)).at7 1 (by decide)).1
        obtain ⟨z0, z1, z2, z3, z4, z5, z6⟩ := bx7 HR2.out
        have fz := bx7e HR2.out
        have fz0 := fz 0
        have fz1 := fz 1
        have fz2 := fz 2
        have fz3 := fz 3
        have fz4 := fz 4
        have fz5 := fz 5
        have fz6 := fz 6
        clear fz
        go_wp2_with fail
        exact bodyPost_ret (v := .tuple #[(.agg #[.int .i64 0, .string ⟨#[]⟩, .string ⟨#[]⟩, .slice none 0 0, .string ⟨#[]⟩, .slice none 0 0, .int .i64 0]), .int .i64 60]) (by simp [results, Tryz.results73, go_sem, z0, z1, z2, z3, z4, z5, z6]) rfl (ResP.bad HS.out HO.out T.out rfl (set7 HB2.out (Nat.le_refl _) _ _ _ _ _ _ _))
      case pos =>
        have T := Lib.hid (TY.out ini o HFU.out HL.out.os hn)
        have hNo : o.name = NM := by rw [← HNM.out]; exact mk_eq hn
        have HNo := Lib.hid hNo
        clear hn hNo TM TY
        go_enter Tryz.func73, Tryz.ntmps73
        go_wp2_with fail
        generalize w.alloc (.cells #[.int .i64 0, .string ⟨#[]⟩, .string ⟨#[]⟩, .slice none 0 0, .string ⟨#[]⟩, .slice none 0 0, .int .i64 0] 50) = W0 at HB0 HR0 ⊢
        refine (E.out _).mono ?_
        rintro r w1 ⟨rfl, hb⟩
        have HB1 := Lib.hid (HB0.out.trans (hb.mono HB0.out.size))
        have HR1 := Lib.hid ((hb.block _ (heap_lt HR0.out)).trans HR0.out)
        clear hb
        have x3 : w1.cell? ⟨P, 3, none⟩ = some (.slice (some ⟨g, 0, none⟩) (ini.length + 1) cap) := by
          have := (bxS (HS.out.below HB1.out).box).1.2.2.2.1
          rw [HL.out.opn] at this; exact this
        have C := Lib.hid (I.out _ x3)
        go_wp2_with fail
        refine C.out.mono ?_
        rintro r w2 ⟨rfl, hb⟩
        have HB2 := Lib.hid (HB1.out.trans (hb.mono HB1.out.size))
        have HR2 := Lib.hid ((hb.block _ (heap_lt HR1.out)).trans HR1.out)
        clear hb x3
        have c1 : w2.cell? ⟨g, ini.length * 7 + 1, none⟩ = some (.string NM) := by rw [← HNo.out]; exact ((HL.out.at (HS.out.below HB2.out)).at7 1 (by decide)).1
        obtain ⟨hS2, _⟩ := HS.out.addFar HB2.out (Nat.le_refl _) (heap_lt HR2.out)
        have D := Lib.hid (shut_any N P (plus v w.heap.size) s w2 hS2 HO.out HNE.out HOL.out HK.out)
        clear hS2
        go_wp2_with fail
        refine D.out.mono ?_
        rintro r w3 ⟨v', val, rfl, hE, hSc, hF⟩
        have HR3 := Lib.hid ((hF.block _ (heap_lt HR2.out) (fun hm => by have := HS.out.mutlt (b := w.heap.size) hm; omega)).trans HR2.out)
        obtain ⟨u0, u1, u2, u3, u4, rfl, hI⟩ := hE
        obtain ⟨sp, nm, aa, an, ac, tx, ka, kn, kc, rfl, rfl, rfl, rfl, rfl⟩ := hI.shape
        have HE := Lib.hid hI
        have HC := Lib.hid hSc
        have HF := Lib.hid hF
        clear hI hSc hF c1 e0
        obtain ⟨z0, z1, z2, z3, z4, z5, z6⟩ := bx7 HR3.out
        have fz := bx7e HR3.out
        have fz0 := fz 0
        have fz1 := fz 1
        have fz2 := fz 2
        have fz3 := fz 3
        have fz4 := fz 4
        have fz5 := fz 5
        have fz6 := fz 6
        clear fz
        generalize hkd : ((shut s).2.kind : Int) = kd at T ⊢
        generalize her : ((shut s).2.err : Int) = er at T ⊢
        have HKD := Lib.hid hkd
        have HER := Lib.hid her
        clear hkd her
        go_wp2_with fail
        refine bodyPost_ret (v := .tuple #[.agg #[.int .i64 kd, .string sp, .string nm, .slice aa an ac, .string tx, .slice ka kn kc, .int .i64 er], .int .i64 0]) (by simp [results, Tryz.results73, go_sem, z0, z1, z2, z3, z4, z5, z6]) rfl ?_
        exact ResP.inn HS.out HB2.out (Nat.le_refl _) HF.out (by rw [T.out]; exact HC.out) (by rw [T.out]; exact ⟨_, _, _, _, _, rfl, HE.out⟩) ((Ow.refl _ w3).set7s _ _ _ _ _ _ _) (by rw [T.out, ← HKD.out, ← HER.out]; rfl)
end Go.Proofs.YtolnpfcncmcacaaGreatDoor
