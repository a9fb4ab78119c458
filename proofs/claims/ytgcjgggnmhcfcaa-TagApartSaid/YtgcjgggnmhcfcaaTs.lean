/- Contracts of tag.Same and of the library's comparisons under it: whether two elements are the same. No condition. -/
import Derived.Test.YtgcjgggnmhcfcaaTc
namespace Go.Proofs.Ytgcjgggnmhcfcaa
open Go.RowKit Go.Lib Go.Shelf Tg

noncomputable def eqv {α : Type} (x y : α) : Bool := @decide (x = y) (Classical.propDecidable _)
theorem eqv_yes {α : Type} {x y : α} (h : x = y) : eqv x y = true := by unfold eqv; exact (@decide_eq_true_iff _ (Classical.propDecidable _)).2 h
theorem eqv_no {α : Type} {x y : α} (h : x ≠ y) : eqv x y = false := by rw [Bool.eq_false_iff]; intro e; unfold eqv at e; exact h ((@decide_eq_true_iff _ (Classical.propDecidable _)).1 e)
theorem take_eq {α : Type} {l m : List α} {k : Nat} (hl : k < l.length) (hm : k < m.length) (h : l.take k = m.take k) (he : l[k] = m[k]) : l.take (k + 1) = m.take (k + 1) := by
  rw [List.take_succ_eq_append_getElem hl, List.take_succ_eq_append_getElem hm, h, he]
theorem text_ne {a b : ByteArray} (h : a ≠ b) : ¬ a.toList = b.toList := fun e => h (bytes_eq (by rw [ByteArray.toList_eq, ByteArray.toList_eq] at e; exact e))
theorem text_neb {a b : ByteArray} (h : a ≠ b) : (a.toList == b.toList) = false := by rw [beq_eq_false_iff_ne]; exact text_ne h

set_option maxRecDepth 100000 in
set_option maxHeartbeats 4000000 in
theorem equalA_any (l m : List (ByteArray × ByteArray)) (B : Nat) (a a' : Option Addr) (c c' : Nat) (w : World) (hl : l.length ≤ maxLen) (hA : AtIn B w a l) (hA' : AtIn B w a' m) (hB : B ≤ w.heap.size) :
    Calls Try.prog 23 #[.slice a l.length c, .slice a' m.length c'] w fun e w' => e = .returned (.bool (eqv l m)) ∧ Below w.heap.size w w' := by
  have HW : Hid (Below w.heap.size w w) := Below.refl _ _
  have HA := Lib.hid (hA.up hB)
  have HA' := Lib.hid (hA'.up hB)
  unfold maxLen at hl
  clear hA hA'
  by_cases hn : l.length = m.length
  · have f0 : bne (l.length : Int) m.length = false := by simp; omega
    have HN := Lib.hid hn
    clear hn
    go_enter Try.func23, Try.ntmps23
    go_wp2_with fail
    go_loopw [13] (fun i wr => ∃ k : Nat, i = .int .i64 k ∧ k ≤ l.length ∧ Hid (l.take k = m.take k) ∧ Hid (Below w.heap.size w wr)) (fun i _ => l.length - (RowKit.intOf i).toNat)
    case atStart => exact ⟨0, rfl, Nat.zero_le _, rfl, HW.out⟩
    case round =>
      obtain ⟨k, rfl, hk, HO, HB⟩ := hrel
      by_cases hlt : k < l.length
      · have hlt2 : k < m.length := by rw [← HN.out]; exact hlt
        obtain ⟨b, o, rfl, hb, y0, y1⟩ := (HA.out.below HB.out) k hlt
        obtain ⟨b', o', rfl, hb', y0', y1'⟩ := (HA'.out.below HB.out) k hlt2
        have z0 : ∀ x : Ext wr, x.to.cell? ⟨b, o + k * 2, none⟩ = some (.string l[k].1) := fun x => ext_cell x y0
        have z1 : ∀ x : Ext wr, x.to.cell? ⟨b, o + k * 2 + 1, none⟩ = some (.string l[k].2) := fun x => ext_cell x y1
        have z0' : ∀ x : Ext wr, x.to.cell? ⟨b', o' + k * 2, none⟩ = some (.string m[k].1) := fun x => ext_cell x y0'
        have z1' : ∀ x : Ext wr, x.to.cell? ⟨b', o' + k * 2 + 1, none⟩ = some (.string m[k].2) := fun x => ext_cell x y1'
        have hs := extSome wr
        have HT := Lib.hid (fun he => take_eq hlt hlt2 HO.out he)
        have HF : Hid (l[k] ≠ m[k] → l ≠ m) := fun h e => h (by simp only [e])
        have i2 : (k : Int) < m.length := by omega
        generalize l[k] = p at z0 z1 HT HF
        generalize m[k] = r at z0' z1' HT HF
        obtain ⟨p1, p2⟩ := p
        obtain ⟨r1, r2⟩ := r
        clear y0 y1 y0' y1' hb hb'
        by_cases h1 : p1 = r1
        · subst h1
          by_cases h2 : p2 = r2
          · subst h2
            have HO2 := Lib.hid (HT.out rfl)
            clear HT HF
            go_wp2_with fail
            refine ext_region (by kernel_rfl) (by kernel_rfl) ?_
            repeat (go_big_quiet_step (fail))
            refine wpQuiet_nil ?_
            rintro _ ⟨x, hx⟩
            subst hx
            have HBX := Lib.hid (HB.out.trans (x.below.mono HB.out.size))
            clear z0 z1 z0' z1'
            go_wp2_with fail
            go_roundw
            case rel => exact ⟨k + 1, by go_num, by omega, HO2.out, HBX.out⟩
            case measure => simp [RowKit.intOf]; omega
          · have n1 := text_ne h2
            have n2 := text_neb h2
            have HE : Hid (eqv l m = false) := eqv_no (HF.out (by intro e; cases e; exact h2 rfl))
            clear HT HF h2
            go_wp2_with fail
            refine ext_region (by kernel_rfl) (by kernel_rfl) ?_
            repeat (go_big_quiet_step (fail))
            refine wpQuiet_nil ?_
            rintro _ ⟨x, hx⟩
            subst hx
            go_wp2_with fail
            go_ret
            exact ⟨by rw [HE.out]; rfl, HB.out.trans (x.below.mono HB.out.size)⟩
        · have n1 := text_ne h1
          have n2 := text_neb h1
          have HE : Hid (eqv l m = false) := eqv_no (HF.out (by intro e; cases e; exact h1 rfl))
          clear HT HF h1
          go_wp2_with fail
          refine ext_region (by kernel_rfl) (by kernel_rfl) ?_
          repeat (go_big_quiet_step (fail))
          refine wpQuiet_nil ?_
          rintro _ ⟨x, hx⟩
          subst hx
          go_wp2_with fail
          go_ret
          exact ⟨by rw [HE.out]; rfl, HB.out.trans (x.below.mono HB.out.size)⟩
      · have HE : Hid (eqv l m = true) := eqv_yes (by
          have := HO.out
          rwa [List.take_of_length_le (by omega), List.take_of_length_le (by rw [← HN.out]; omega)] at this)
        go_wp2_with fail
        go_ret
        exact ⟨by rw [HE.out]; rfl, HB.out⟩
  · have f0 : bne (l.length : Int) m.length = true := by simp; omega
    have HE : Hid (eqv l m = false) := eqv_no fun e => hn (by rw [e])
    clear hn
    go_enter Try.func23, Try.ntmps23
    go_wp2_with fail
    go_ret
    exact ⟨by rw [HE.out]; rfl, HW.out⟩
/-- What Same is asked for of one element. -/
def sameP (e : El) : Prop := ∀ (f : El) (B : Nat) (w : World) (v v' : Value), In B w e v → In B w f v' → B ≤ w.heap.size →
    Calls Try.prog 10 #[v, v'] w fun r w' => r = .returned (.bool (eqv e f)) ∧ Below w.heap.size w w'
set_option maxRecDepth 100000 in
set_option maxHeartbeats 4000000 in
theorem equalF_any (l m : List El) (ih : ∀ k ∈ l, sameP k) (B : Nat) (a a' : Option Addr) (c c' : Nat) (w : World) (hl : l.length ≤ maxLen) (hA : KsIn B w a l) (hA' : KsIn B w a' m) (hB : B ≤ w.heap.size) :
    Calls Try.prog 24 #[.slice a l.length c, .slice a' m.length c', .func (.func 10) #[] #[]] w fun e w' => e = .returned (.bool (eqv l m)) ∧ Below w.heap.size w w' := by
  have HW : Hid (Below w.heap.size w w) := Below.refl _ _
  have HA := Lib.hid hA
  have HA' := Lib.hid hA'
  have HBB := Lib.hid hB
  have IH := Lib.hid ih
  unfold maxLen at hl
  clear hA hA' ih hB
  by_cases hn : l.length = m.length
  · have f0 : bne (l.length : Int) m.length = false := by simp; omega
    have HN := Lib.hid hn
    clear hn
    go_enter Try.func24, Try.ntmps24
    go_wp2_with fail
    go_loopw [17] (fun i wr => ∃ k : Nat, i = .int .i64 k ∧ k ≤ l.length ∧ Hid (l.take k = m.take k) ∧ Hid (Below w.heap.size w wr)) (fun i _ => l.length - (RowKit.intOf i).toNat)
    case atStart => exact ⟨0, rfl, Nat.zero_le _, rfl, HW.out⟩
    case round =>
      obtain ⟨k, rfl, hk, HO, HB⟩ := hrel
      by_cases hlt : k < l.length
      · have hlt2 : k < m.length := by rw [← HN.out]; exact hlt
        obtain ⟨b, o, a1, c1, a2, c2, rfl, hb, hf5, hkin⟩ := (HA.out.below (HB.out.mono HBB.out)) k hlt
        obtain ⟨b', o', a1', c1', a2', c2', rfl, hb', hf5', hkin'⟩ := (HA'.out.below (HB.out.mono HBB.out)) k hlt2
        obtain ⟨y0, y1, y2, y3, y4⟩ := hf5
        obtain ⟨y0', y1', y2', y3', y4'⟩ := hf5'
        have q0 := cell_alloc y0' (.cells #[.string l[k].sp, .string l[k].nm, .slice a1 l[k].atr.length c1, .string l[k].tx, .slice a2 l[k].ks.length c2] 25)
        have q1 := cell_alloc y1' (.cells #[.string l[k].sp, .string l[k].nm, .slice a1 l[k].atr.length c1, .string l[k].tx, .slice a2 l[k].ks.length c2] 25)
        have q2 := cell_alloc y2' (.cells #[.string l[k].sp, .string l[k].nm, .slice a1 l[k].atr.length c1, .string l[k].tx, .slice a2 l[k].ks.length c2] 25)
        have q3 := cell_alloc y3' (.cells #[.string l[k].sp, .string l[k].nm, .slice a1 l[k].atr.length c1, .string l[k].tx, .slice a2 l[k].ks.length c2] 25)
        have q4 := cell_alloc y4' (.cells #[.string l[k].sp, .string l[k].nm, .slice a1 l[k].atr.length c1, .string l[k].tx, .slice a2 l[k].ks.length c2] 25)
        have hBw : Below B wr ((wr.alloc (.cells #[.string l[k].sp, .string l[k].nm, .slice a1 l[k].atr.length c1, .string l[k].tx, .slice a2 l[k].ks.length c2] 25)).alloc (.cells #[.string m[k].sp, .string m[k].nm, .slice a1' m[k].atr.length c1', .string m[k].tx, .slice a2' m[k].ks.length c2'] 25)) :=
          ((Below.refl _ _).alloc (Nat.le_trans HBB.out HB.out.size) _).alloc (by have h1 := HBB.out; have h2 := HB.out.size; simp; omega) _
        have HC := Lib.hid (IH.out _ (List.getElem_mem hlt) m[k] B ((wr.alloc (.cells #[.string l[k].sp, .string l[k].nm, .slice a1 l[k].atr.length c1, .string l[k].tx, .slice a2 l[k].ks.length c2] 25)).alloc (.cells #[.string m[k].sp, .string m[k].nm, .slice a1' m[k].atr.length c1', .string m[k].tx, .slice a2' m[k].ks.length c2'] 25)) _ _ (hkin.stay hBw) (hkin'.stay hBw) (Nat.le_trans (Nat.le_trans HBB.out HB.out.size) hBw.size))
        have HB2 : Hid (Below w.heap.size w ((wr.alloc (.cells #[.string l[k].sp, .string l[k].nm, .slice a1 l[k].atr.length c1, .string l[k].tx, .slice a2 l[k].ks.length c2] 25)).alloc (.cells #[.string m[k].sp, .string m[k].nm, .slice a1' m[k].atr.length c1', .string m[k].tx, .slice a2' m[k].ks.length c2'] 25))) :=
          (HB.out.alloc HB.out.size _).alloc (by have h2 := HB.out.size; simp; omega) _
        have i2 : (k : Int) < m.length := by omega
        by_cases hkk : l[k] = m[k]
        · have HT := Lib.hid (take_eq hlt hlt2 HO.out hkk)
          rw [eqv_yes hkk] at HC
          clear hkin hkin' hBw hkk hb hb'
          go_wp2_with fail
          refine HC.out.mono ?_
          rintro r w1 ⟨rfl, hbb⟩
          have HB3 := Lib.hid (HB2.out.trans (hbb.mono HB2.out.size))
          clear hbb HC y0 y1 y2 y3 y4 y0' y1' y2' y3' y4' q0 q1 q2 q3 q4
          go_wp2_with fail
          go_roundw
          case rel => exact ⟨k + 1, by go_num, by omega, HT.out, HB3.out⟩
          case measure => simp [RowKit.intOf]; omega
        · have HE : Hid (eqv l m = false) := eqv_no (fun e => hkk (by simp only [e]))
          rw [eqv_no hkk] at HC
          clear hkin hkin' hBw hkk hb hb'
          go_wp2_with fail
          refine HC.out.mono ?_
          rintro r w1 ⟨rfl, hbb⟩
          have HB3 := Lib.hid (HB2.out.trans (hbb.mono HB2.out.size))
          clear hbb HC y0 y1 y2 y3 y4 y0' y1' y2' y3' y4' q0 q1 q2 q3 q4
          go_wp2_with fail
          go_ret
          exact ⟨by rw [HE.out]; rfl, HB3.out⟩
      · have HE : Hid (eqv l m = true) := eqv_yes (by
          have := HO.out
          rwa [List.take_of_length_le (by omega), List.take_of_length_le (by rw [← HN.out]; omega)] at this)
        go_wp2_with fail
        go_ret
        exact ⟨by rw [HE.out]; rfl, HB.out⟩
  · have f0 : bne (l.length : Int) m.length = true := by simp; omega
    have HE : Hid (eqv l m = false) := eqv_no fun e => hn (by rw [e])
    clear hn
    go_enter Try.func24, Try.ntmps24
    go_wp2_with fail
    go_ret
    exact ⟨by rw [HE.out]; rfl, HW.out⟩
theorem bx2 {w : World} {b b' : Nat} {v0 v1 v2 v3 v4 u0 u1 u2 u3 u4 : Value} {t : TypeId} {W : World} (h : w.heap[b]? = some (.cells #[v0, v1, v2, v3, v4] t (0, 0))) (h' : w.heap[b']? = some (.cells #[u0, u1, u2, u3, u4] t (0, 0))) (hb : Below w.heap.size w W) :
    W.heap[b]? = some (.cells #[v0, v1, v2, v3, v4] t (0, 0)) ∧ W.heap[b']? = some (.cells #[u0, u1, u2, u3, u4] t (0, 0)) :=
  ⟨(hb.block _ (heap_lt h)).trans h, (hb.block _ (heap_lt h')).trans h'⟩
set_option maxRecDepth 100000 in
set_option maxHeartbeats 4000000 in
/-- Same: whether two elements are the same. -/
theorem same_any (e : El) : sameP e := by
  refine El.ind (P := sameP) (fun sp nm atr tx ks ih => ?_) e
  intro f B w v v' hin hin' hB
  generalize hE : El.mk sp nm atr tx ks = E at hin
  obtain rfl : E.ks = ks := by rw [← hE]; rfl
  clear hE
  obtain ⟨aA, cA, aK, cK, rfl, ⟨hq1, hq2⟩, hkm, hat, hks⟩ := hin.out
  obtain ⟨aA', cA', aK', cK', rfl, _, _, hat', hks'⟩ := hin'.out
  have HW0 : Hid (Below w.heap.size w ((w.alloc (.cells #[.string E.sp, .string E.nm, .slice aA E.atr.length cA, .string E.tx, .slice aK E.ks.length cK] 25)).alloc (.cells #[.string f.sp, .string f.nm, .slice aA' f.atr.length cA', .string f.tx, .slice aK' f.ks.length cK'] 25))) := ((Below.refl _ w).alloc (Nat.le_refl _) _).alloc (by simp) _
  have HX0 : Hid (((w.alloc (.cells #[.string E.sp, .string E.nm, .slice aA E.atr.length cA, .string E.tx, .slice aK E.ks.length cK] 25)).alloc (.cells #[.string f.sp, .string f.nm, .slice aA' f.atr.length cA', .string f.tx, .slice aK' f.ks.length cK'] 25)).heap[w.heap.size]? = some (.cells #[.string E.sp, .string E.nm, .slice aA E.atr.length cA, .string E.tx, .slice aK E.ks.length cK] 25 (0, 0))) :=
    (Below.heap_alloc _ _ _ (by simp)).trans (box_new w _ _)
  have HY0 : Hid (((w.alloc (.cells #[.string E.sp, .string E.nm, .slice aA E.atr.length cA, .string E.tx, .slice aK E.ks.length cK] 25)).alloc (.cells #[.string f.sp, .string f.nm, .slice aA' f.atr.length cA', .string f.tx, .slice aK' f.ks.length cK'] 25)).heap[w.heap.size + 1]? = some (.cells #[.string f.sp, .string f.nm, .slice aA' f.atr.length cA', .string f.tx, .slice aK' f.ks.length cK'] 25 (0, 0))) := by
    have := box_new (w.alloc (.cells #[.string E.sp, .string E.nm, .slice aA E.atr.length cA, .string E.tx, .slice aK E.ks.length cK] 25)) #[.string f.sp, .string f.nm, .slice aA' f.atr.length cA', .string f.tx, .slice aK' f.ks.length cK'] 25
    show _ = _
    simpa using this
  have HEQ : Hid (∀ W, Below w.heap.size w W → Calls Try.prog 23 #[.slice aA E.atr.length cA, .slice aA' f.atr.length cA'] W fun r w' => r = .returned (.bool (eqv E.atr f.atr)) ∧ Below W.heap.size W w') :=
    fun W hb => equalA_any E.atr f.atr B aA aA' cA cA' W (by omega) (hat.below (hb.mono hB)) (hat'.below (hb.mono hB)) (Nat.le_trans hB hb.size)
  have HEF : Hid (∀ W, Below w.heap.size w W → Calls Try.prog 24 #[.slice aK E.ks.length cK, .slice aK' f.ks.length cK', .func (.func 10) #[] #[]] W fun r w' => r = .returned (.bool (eqv E.ks f.ks)) ∧ Below W.heap.size W w') :=
    fun W hb => equalF_any E.ks f.ks ih B aK aK' cK cK' W hkm (hks.below (hb.mono hB)) (hks'.below (hb.mono hB)) (Nat.le_trans hB hb.size)
  have HYES : Hid (E.sp = f.sp → E.nm = f.nm → E.tx = f.tx → E.atr = f.atr → E.ks = f.ks → eqv E f = true) := fun h1 h2 h3 h4 h5 => eqv_yes (by rw [El.eta E, El.eta f, h1, h2, h3, h4, h5])
  have HNO : Hid ((E.sp ≠ f.sp ∨ E.nm ≠ f.nm ∨ E.tx ≠ f.tx ∨ E.atr ≠ f.atr ∨ E.ks ≠ f.ks) → eqv E f = false) := fun h => eqv_no fun e => by
    subst e
    rcases h with h | h | h | h | h <;> exact h rfl
  clear hin hin' hat hat' hks hks' ih hq1 hq2 hkm hB
  by_cases h1 : ¬ E.sp = f.sp
  · have n1 := text_ne h1
    have n2 := text_neb h1
    have HR := Lib.hid (HNO.out (.inl h1))
    clear HNO HYES h1
    go_enter Try.func10, Try.ntmps10
    go_wp2_with fail
    go_ret
    exact ⟨by rw [HR.out]; rfl, HW0.out⟩
  have h1 : E.sp = f.sp := Classical.not_not.1 h1
  have m1 : (E.sp.toList == f.sp.toList) = true := by rw [h1]; simp
  by_cases h2 : ¬ E.nm = f.nm
  · have n1 := text_ne h2
    have n2 := text_neb h2
    have HR := Lib.hid (HNO.out (.inr (.inl h2)))
    clear HNO HYES h2 h1
    go_enter Try.func10, Try.ntmps10
    go_wp2_with fail
    go_ret
    exact ⟨by rw [HR.out]; rfl, HW0.out⟩
  have h2 : E.nm = f.nm := Classical.not_not.1 h2
  have m2 : (E.nm.toList == f.nm.toList) = true := by rw [h2]; simp
  by_cases h3 : ¬ E.tx = f.tx
  · have n1 := text_ne h3
    have n2 := text_neb h3
    have HR := Lib.hid (HNO.out (.inr (.inr (.inl h3))))
    clear HNO HYES h3 h2 h1
    go_enter Try.func10, Try.ntmps10
    go_wp2_with fail
    go_ret
    exact ⟨by rw [HR.out]; rfl, HW0.out⟩
  have h3 : E.tx = f.tx := Classical.not_not.1 h3
  have m3 : (E.tx.toList == f.tx.toList) = true := by rw [h3]; simp
  by_cases h4 : ¬ E.atr = f.atr
  · have HR := Lib.hid (HNO.out (.inr (.inr (.inr (.inl h4)))))
    rw [eqv_no h4] at HEQ
    clear HNO HYES h4 h3 h2 h1
    go_enter Try.func10, Try.ntmps10
    go_wp2_with fail
    refine (HEQ.out _ HW0.out).mono ?_
    rintro r w1 ⟨rfl, hb⟩
    have HB := Lib.hid (HW0.out.trans (hb.mono HW0.out.size))
    clear hb
    go_wp2_with fail
    go_ret
    exact ⟨by rw [HR.out]; rfl, HB.out⟩
  have h4 : E.atr = f.atr := Classical.not_not.1 h4
  rw [eqv_yes h4] at HEQ
  by_cases h5 : E.ks = f.ks
  case' pos =>
    have HR := Lib.hid (HYES.out h1 h2 h3 h4 h5)
    rw [eqv_yes h5] at HEF
  case' neg =>
    have HR := Lib.hid (HNO.out (.inr (.inr (.inr (.inr h5)))))
    rw [eqv_no h5] at HEF
  all_goals
    clear HNO HYES h5 h4 h3 h2 h1
    go_enter Try.func10, Try.ntmps10
    go_wp2_with fail
    refine (HEQ.out _ HW0.out).mono ?_
    rintro r w1 ⟨rfl, hb⟩
    have HB := Lib.hid (HW0.out.trans (hb.mono HW0.out.size))
    have HXY := bx2 HX0.out HY0.out hb
    obtain ⟨x0, x1, x2, x3, x4⟩ := bx5 HXY.1
    obtain ⟨y0, y1, y2, y3, y4⟩ := bx5 HXY.2
    clear hb HXY
    go_wp2_with fail
    refine (HEF.out _ HB.out).mono ?_
    rintro r w2 ⟨rfl, hb⟩
    have HB2 := Lib.hid (HB.out.trans (hb.mono HB.out.size))
    clear hb
    go_wp2_with fail
    go_ret
    exact ⟨by rw [HR.out]; rfl, HB2.out⟩
end Go.Proofs.Ytgcjgggnmhcfcaa
