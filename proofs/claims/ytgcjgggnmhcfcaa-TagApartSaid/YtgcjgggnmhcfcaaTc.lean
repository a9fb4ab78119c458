/- Contracts of tag.Check and of the function in it that calls itself: whether an element may be. Condition: an element of at most 20000 values and letters. -/
import Derived.Test.YtgcjgggnmhcfcaaTy
import Derived.Test.YtgcjgggnmhcfcaaTr
import Derived.Deep.QuietTactic
import Derived.IntWalk
namespace Go.Proofs.Ytgcjgggnmhcfcaa
open Go.RowKit Go.Lib Go.Shelf Tg

/-- What Check lets by leaves no less than nothing, and no more than there was. -/
theorem lk_left (e : El) : ∀ s d left, (lk e s d left).1 = true → 0 ≤ (lk e s d left).2 ∧ (lk e s d left).2 ≤ left := by
  refine El.ind (P := fun e => ∀ s d left, (lk e s d left).1 = true → 0 ≤ (lk e s d left).2 ∧ (lk e s d left).2 ≤ left) (fun sp nm atr tx ks ih => ?_) e
  intro s d left
  rw [lk]
  split
  · intro h; cases h
  · split
    · intro h; cases h
    · rename_i h0
      have : ∀ (m : List El) (l : Int), (∀ k ∈ m, ∀ s d left, (lk k s d left).1 = true → 0 ≤ (lk k s d left).2 ∧ (lk k s d left).2 ≤ left) → 0 ≤ l → (lks m sp (d + 1) l).1 = true → 0 ≤ (lks m sp (d + 1) l).2 ∧ (lks m sp (d + 1) l).2 ≤ l := by
        intro m
        induction m with
        | nil => intro l _ h0 _; rw [lks]; exact ⟨h0, Int.le_refl _⟩
        | cons k r ihm =>
          intro l hi h0
          rw [lks]
          split
          · rename_i h1
            intro h2
            have a := hi k (List.mem_cons_self ..) sp (d + 1) l h1
            have b := ihm (lk k sp (d + 1) l).2 (fun k hk => hi k (List.mem_cons_of_mem _ hk)) a.1 h2
            exact ⟨b.1, Int.le_trans b.2 a.2⟩
          · intro h; cases h
      intro h
      have := this ks _ ih (by omega) h
      exact ⟨this.1, by omega⟩
theorem lks_drop {l : List El} {k : Nat} (h : k < l.length) (s : ByteArray) (d : Nat) (left : Int) : lks (l.drop k) s d left =
    if (lk l[k] s d left).1 = true then lks (l.drop (k + 1)) s d (lk l[k] s d left).2 else (false, (lk l[k] s d left).2) := by
  rw [List.drop_eq_getElem_cons h, lks]
/-- What Check's inner function keeps: what is left, its box, all that w held below B. -/
structure Ck (B L N : Nat) (cs : Array Value) (w : World) (left : Int) (wr : World) : Prop where
  lf : wr.heap[L]? = some (.cells #[.int .i64 left] 3 (0, 0))
  kp : Kp B L w wr
  box : wr.heap[N]? = some (.cells cs 25 (0, 0))
theorem Ck.call {B L N : Nat} {cs : Array Value} {w wr w' : World} {left : Int} (h : Ck B L N cs w left wr) (hb : Below wr.heap.size wr w') (hB : B ≤ L) : Ck B L N cs w left w' :=
  ⟨(hb.block L (heap_lt h.lf)).trans h.lf, h.kp.trans (Kp.of hb (Nat.le_trans hB (Nat.le_of_lt (heap_lt h.lf)))), (hb.block N (heap_lt h.box)).trans h.box⟩
theorem Ck.step {B L N : Nat} {cs : Array Value} {w wr w' : World} {left left' : Int} (h : Ck B L N cs w left wr) (hl : w'.heap[L]? = some (.cells #[.int .i64 left'] 3 (0, 0))) (hk : Kp B L wr w') (hN : N ≠ L) : Ck B L N cs w left' w' :=
  ⟨hl, h.kp.trans hk, hk.block h.box hN (by decide)⟩
theorem Ck.alloc {B L N : Nat} {cs : Array Value} {w wr : World} {left : Int} (h : Ck B L N cs w left wr) (hB : B ≤ L) (o : Obj) : Ck B L N cs w left (wr.alloc o) := h.call ((Below.refl _ wr).alloc (Nat.le_refl _) o) hB
theorem Ck.drew {B L N : Nat} {cs : Array Value} {w wr : World} {left : Int} (h : Ck B L N cs w left wr) : Ck B L N cs w left wr.drew := ⟨h.lf, h.kp.drew, h.box⟩
theorem Ck.set {B L N : Nat} {cs : Array Value} {w wr : World} {left : Int} (h : Ck B L N cs w left wr) (hB : B ≤ L) (hN : N ≠ L) (u : Int) : Ck B L N cs w u (wr.setCell ⟨L, 0, none⟩ (.int .i64 u)) :=
  ⟨one_setCell h.lf, h.kp.trans ⟨(Below.refl _ _).setCell (p := ⟨L, 0, none⟩) hB _, (Lib.OthersKept.refl _ _ _).setCell ⟨L, 0, none⟩ rfl _⟩, (Below.heap_setCell _ _ _ _ hN).trans h.box⟩
theorem Ck.le {B L N : Nat} {cs : Array Value} {w wr : World} {left : Int} (h : Ck B L N cs w left wr) (hB : B ≤ L) : B ≤ wr.heap.size := Nat.le_trans hB (Nat.le_of_lt (heap_lt h.lf))
/-- The cells that the counting statement reads and writes. -/
theorem Ck.cells {B L N : Nat} {v0 v1 v2 v3 v4 : Value} {w wr : World} {left : Int} (h : Ck B L N #[v0, v1, v2, v3, v4] w left wr) :
    wr.cell? ⟨N, 0, none⟩ = some v0 ∧ wr.cell? ⟨N, 1, none⟩ = some v1 ∧ wr.cell? ⟨N, 2, none⟩ = some v2 ∧ wr.cell? ⟨N, 3, none⟩ = some v3 ∧ wr.cell? ⟨N, 4, none⟩ = some v4 ∧ wr.cell? ⟨L, 0, none⟩ = some (.int .i64 left) ∧ wr.frozen? ⟨L, 0, none⟩ = false ∧ Ck B L N #[v0, v1, v2, v3, v4] w left wr := by
  obtain ⟨h0, h1, h2, h3, h4⟩ := bx5 h.box
  exact ⟨h0, h1, h2, h3, h4, by rw [Lib.cell_of_heap h.lf]; rfl, Lib.frozen_of_heap h.lf 0, h⟩
theorem ckL {B L N : Nat} {cs : Array Value} {w W : World} {left : Int} (h : Ck B L N cs w left W) : W.cell? ⟨L, 0, none⟩ = some (.int .i64 left) ∧ W.frozen? ⟨L, 0, none⟩ = false :=
  ⟨by rw [Lib.cell_of_heap h.lf]; rfl, Lib.frozen_of_heap h.lf 0⟩
theorem wrap_in {x : Int} (h1 : -9223372036854775808 ≤ x) (h2 : x ≤ 9223372036854775807) : IntKind.i64.wrap x = x := by
  rw [IntKind.wrap_i64]; omega

def lookP (e : El) : Prop := ∀ (B L U : Nat) (w : World) (v : Value) (s : ByteArray) (d : Nat) (D : Int) (left : Int), In B w e v → wt e ≤ 20000 → B ≤ L → U ≠ L → D = d → d ≤ 100 → 0 ≤ left → left ≤ 16384 →
    w.heap[L]? = some (.cells #[.int .i64 left] 3 (0, 0)) →
    w.heap[U]? = some (.cells #[.func (.func 13) #[] #[.pointer (some ⟨L, 0, none⟩), .pointer (some ⟨U, 0, none⟩)]] 36 (0, 0)) →
    Calls Try.prog 13 #[v, .string s, .int .i64 D, .pointer (some ⟨L, 0, none⟩), .pointer (some ⟨U, 0, none⟩)] w fun r w' => r = .returned (.bool (lk e s d left).1) ∧ w'.heap[L]? = some (.cells #[.int .i64 (lk e s d left).2] 3 (0, 0)) ∧ Kp B L w w'

set_option maxRecDepth 100000 in
set_option maxHeartbeats 4000000 in
/-- Check's inner function: whether the element may be, and what is left. -/
theorem lookC_any (e : El) : lookP e := by
  refine El.ind (P := lookP) (fun sp nm atr tx ks ih => ?_) e
  intro B L U w v s d D left hin ht hBL hUL hD hd hl0 hl1 hL hU
  generalize hE : El.mk sp nm atr tx ks = E at hin ht
  obtain rfl : E.ks = ks := by rw [← hE]; rfl
  clear hE
  obtain ⟨aA, cA, aK, cK, rfl, ⟨hcA, _⟩, hkm, hat, hks⟩ := hin.out
  have hw := wt_eq E
  have hwk := wts_len E.ks
  have hnk : E.ks.length ≤ 20000 := by omega
  have IH := Lib.hid ih
  have HBL := Lib.hid hBL
  have HUL := Lib.hid hUL
  have hLw : L < w.heap.size := heap_lt hL
  have HNL : Hid (w.heap.size ≠ L) := by show _ ≠ _; omega
  have HP0 : Hid (Ck B L w.heap.size #[.string E.sp, .string E.nm, .slice aA E.atr.length cA, .string E.tx, .slice aK E.ks.length cK] w left (w.alloc (.cells #[.string E.sp, .string E.nm, .slice aA E.atr.length cA, .string E.tx, .slice aK E.ks.length cK] 25))) :=
    ⟨(Below.heap_alloc _ _ _ hLw).trans hL, (Kp.refl _ _ _).alloc (by omega) _, box_new w _ _⟩
  have HMB : Hid (∀ W, AtIn W.heap.size W aA E.atr → Calls Try.prog 14 #[.agg #[.string E.sp, .string E.nm, .slice aA E.atr.length cA, .string E.tx, .slice aK E.ks.length cK]] W fun r w' => r = .returned (.bool (mayB E)) ∧ Below W.heap.size W w') := fun W h => mayBe_any E aA cA aK cK W ht hcA h
  have HAT := Lib.hid hat
  have HLK := Lib.hid (lk_eq E s d left)
  have HU := Lib.hid hU
  have HD := Lib.hid hD
  by_cases h16 : 16 < d
  · have f1 : decide ((16 : Int) < D) = true := by rw [hD]; simp; omega
    have HR : Hid (lk E s d left = (false, left)) := HLK.out.trans (if_pos (.inl h16))
    clear hw hwk ih hin hUL hU hat hks hkm ht hBL hD hd h16 HLK hL IH HMB
    go_enter Try.func13, Try.ntmps13
    go_wp2_with fail
    go_ret
    exact ⟨by rw [HR.out]; rfl, by rw [HR.out]; exact HP0.out.lf, HP0.out.kp⟩
  have f1 : decide ((16 : Int) < D) = false := by rw [hD]; simp; omega
  have hd16 : d ≤ 16 := by omega
  cases hmb : mayB E with
  | false =>
    rw [hmb] at HMB
    have HR : Hid (lk E s d left = (false, left)) := HLK.out.trans (if_pos (.inr hmb))
    clear hw hwk ih hin hUL hU hat hks hkm ht hBL hD hd h16 HLK hL IH hmb
    go_enter Try.func13, Try.ntmps13
    go_wp2_with fail
    refine (HMB.out _ ((HAT.out.below HP0.out.kp.below).up (HP0.out.le HBL.out))).mono ?_
    rintro r w1 ⟨rfl, hb⟩
    have HP1 := Lib.hid (HP0.out.call hb HBL.out)
    clear hb
    go_wp2_with fail
    go_ret
    exact ⟨by rw [HR.out]; rfl, by rw [HR.out]; exact HP1.out.lf, HP1.out.kp⟩
  | true =>
    rw [hmb] at HMB
    have HR : Hid (lk E s d left = if left - (((beg E s).length : Int) + ((fin E).length : Int)) < 0 then (false, left - (((beg E s).length : Int) + ((fin E).length : Int)))
      else lks E.ks E.sp (d + 1) (left - (((beg E s).length : Int) + ((fin E).length : Int)))) := HLK.out.trans (if_neg (by rintro (h | h); exact h16 h; rw [hmb] at h; cases h))
    have HBE : Hid (∀ W, Ck B L w.heap.size #[.string E.sp, .string E.nm, .slice aA E.atr.length cA, .string E.tx, .slice aK E.ks.length cK] w left W → Calls Try.prog 15 #[.agg #[.string E.sp, .string E.nm, .slice aA E.atr.length cA, .string E.tx, .slice aK E.ks.length cK], .string s] W fun r w' => r = .returned (.string ⟨(beg E s).toArray⟩) ∧ Below W.heap.size W w') :=
      fun W h => begin_any E s aA cA aK cK W ht ((hat.below h.kp.below).up (h.le hBL))
    have HFI := Lib.hid (fun W => end_any E aA E.atr.length cA aK cK W (by omega))
    have HKS := Lib.hid hks
    have HWT : Hid (∀ k ∈ E.ks, wt k ≤ 20000) := fun k hk => by have := wts_mem hk; omega
    have hbl := beg_len E s
    have hfl := fin_len E
    have hz1 : (beg E s).length ≤ 1000000 := by omega
    have hz2 : (fin E).length ≤ 1000000 := by omega
    have e1 := mk_size (beg E s)
    have e2 := mk_size (fin E)
    rw [← e1, ← e2] at HR
    rw [← e1] at hz1
    rw [← e2] at hz2
    generalize (⟨(beg E s).toArray⟩ : ByteArray) = tb at HBE HR hz1
    generalize (⟨(fin E).toArray⟩ : ByteArray) = te at HFI HR hz2
    clear hw hwk ih hin hUL hU hat hks hkm ht hBL hD h16 HLK hL hmb hbl hfl e1 e2
    go_enter Try.func13, Try.ntmps13
    go_wp2_with fail
    refine (HMB.out _ ((HAT.out.below HP0.out.kp.below).up (HP0.out.le HBL.out))).mono ?_
    rintro r w1 ⟨rfl, hb⟩
    have HP1 := Lib.hid (HP0.out.call hb HBL.out)
    clear hb HP0 HMB
    go_wp2_with fail
    have W1 : IntKind.i64.wrap ((tb.size : Int) + (te.size : Int)) = (tb.size : Int) + (te.size : Int) := wrap_in (by omega) (by omega)
    have W2 : IntKind.i64.wrap (left - ((tb.size : Int) + (te.size : Int))) = left - ((tb.size : Int) + (te.size : Int)) := wrap_in (by omega) (by omega)
    obtain ⟨y0, y1, y2, y3, y4⟩ := bx5 HP1.out.box
    obtain ⟨y5, y6⟩ := ckL HP1.out
    have z0 : ∀ x : Ext w1, x.to.cell? ⟨w.heap.size, 0, none⟩ = some (.string E.sp) := fun x => ext_cell x y0
    have z1 : ∀ x : Ext w1, x.to.cell? ⟨w.heap.size, 1, none⟩ = some (.string E.nm) := fun x => ext_cell x y1
    have z2 : ∀ x : Ext w1, x.to.cell? ⟨w.heap.size, 2, none⟩ = some (.slice aA E.atr.length cA) := fun x => ext_cell x y2
    have z3 : ∀ x : Ext w1, x.to.cell? ⟨w.heap.size, 3, none⟩ = some (.string E.tx) := fun x => ext_cell x y3
    have z4 : ∀ x : Ext w1, x.to.cell? ⟨w.heap.size, 4, none⟩ = some (.slice aK E.ks.length cK) := fun x => ext_cell x y4
    have z5 : ∀ x : Ext w1, x.to.cell? ⟨L, 0, none⟩ = some (.int .i64 left) := fun x => ext_cell x y5
    have z6 : ∀ x : Ext w1, x.to.frozen? ⟨L, 0, none⟩ = false := fun x => ext_frozen x y5 y6
    have HBX : Hid (∀ x : Ext w1, Calls Try.prog 15 #[.agg #[.string E.sp, .string E.nm, .slice aA E.atr.length cA, .string E.tx, .slice aK E.ks.length cK], .string s] x.to fun r w' => r = .returned (.string tb) ∧ Below x.to.heap.size x.to w') :=
      fun x => HBE.out _ (HP1.out.call x.below HBL.out)
    have hs := extSome w1
    clear y0 y1 y2 y3 y4 y5 y6 HBE
    refine ext_tail 10 (by kernel_rfl) (by kernel_rfl) ?_
    simp only [List.take_succ_cons, List.take_zero, List.drop_succ_cons, List.drop_zero]
    repeat (go_big_quiet_step ((first | (go_at_call 15; with_reducible exact ext_call _ (HBX.out _)) | (go_at_call 16; with_reducible exact ext_call _ (HFI.out _)))))
    refine wpQuiet_nil ?_
    rintro _ ⟨x, hx⟩
    subst hx
    have HP2 := Lib.hid ((HP1.out.call x.below HBL.out).set HBL.out HNL.out (left - ((tb.size : Int) + (te.size : Int))))
    clear HP1 HBX HFI W1 W2
    by_cases hneg : left - ((tb.size : Int) + (te.size : Int)) < 0
    · have HR2 : Hid (lk E s d left = (false, left - ((tb.size : Int) + (te.size : Int)))) := HR.out.trans (if_pos hneg)
      have f2 : decide (left - ((tb.size : Int) + (te.size : Int)) < 0) = true := decide_eq_true hneg
      clear HR
      go_wp2_with fail
      go_ret
      exact ⟨by rw [HR2.out]; rfl, by rw [HR2.out]; exact HP2.out.lf, HP2.out.kp⟩
    · have HR2 : Hid (lk E s d left = lks E.ks E.sp (d + 1) (left - ((tb.size : Int) + (te.size : Int)))) := HR.out.trans (if_neg hneg)
      have f2 : decide (left - ((tb.size : Int) + (te.size : Int)) < 0) = false := decide_eq_false hneg
      have hf1 : 0 ≤ left - ((tb.size : Int) + (te.size : Int)) := by omega
      have hf2 : left - ((tb.size : Int) + (te.size : Int)) ≤ 16384 := by omega
      clear HR hneg
      generalize left - ((tb.size : Int) + (te.size : Int)) = lf0 at HP2 HR2 f2 hf1 hf2 ⊢
      go_wp2_with fail
      clear z0 z1 z2 z3 z4 z5 z6
      have hD1 : ((d + 1 : Nat) : Int) = D + 1 := by rw [HD.out]; rfl
      have HD1 := Lib.hid hD1.symm
      have hDb : D ≤ 100 := by rw [HD.out]; omega
      have hDb2 : 0 ≤ D := by rw [HD.out]; omega
      clear hD1
      go_loopw [33] (fun i wr => ∃ (k : Nat) (lf : Int), i = .int .i64 k ∧ k ≤ E.ks.length ∧ 0 ≤ lf ∧ lf ≤ 16384 ∧ Hid (lks (E.ks.drop k) E.sp (d + 1) lf = lks E.ks E.sp (d + 1) lf0) ∧ Hid (Ck B L w.heap.size #[.string E.sp, .string E.nm, .slice aA E.atr.length cA, .string E.tx, .slice aK E.ks.length cK] w lf wr)) (fun i _ => E.ks.length - (RowKit.intOf i).toNat)
      case atStart => exact ⟨0, lf0, rfl, Nat.zero_le _, hf1, hf2, rfl, HP2.out⟩
      case round =>
        obtain ⟨k, lf, rfl, hk, hq1, hq2, HO, HC⟩ := hrel
        clear HP2
        by_cases hlt : k < E.ks.length
        · obtain ⟨b, o, a1, c1, a2, c2, rfl, hb, hf5, hkin⟩ := (HKS.out.below HC.out.kp.below) k hlt
          obtain ⟨y0, y1, y2, y3, y4⟩ := hf5
          obtain ⟨x0, x1, x2, x3, x4⟩ := bx5 HC.out.box
          have hUr := HC.out.kp.block HU.out HUL.out (by decide)
          have u0 : wr.cell? ⟨U, 0, none⟩ = some (.func (.func 13) #[] #[.pointer (some ⟨L, 0, none⟩), .pointer (some ⟨U, 0, none⟩)]) := by rw [Lib.cell_of_heap hUr]; rfl
          have u1 := cell_alloc u0 (.cells #[.string E.ks[k].sp, .string E.ks[k].nm, .slice a1 E.ks[k].atr.length c1, .string E.ks[k].tx, .slice a2 E.ks[k].ks.length c2] 25)
          have e0 := cell_alloc x0 (.cells #[.string E.ks[k].sp, .string E.ks[k].nm, .slice a1 E.ks[k].atr.length c1, .string E.ks[k].tx, .slice a2 E.ks[k].ks.length c2] 25)
          have HC1 : Hid (Ck B L w.heap.size _ w lf (wr.alloc (.cells #[.string E.ks[k].sp, .string E.ks[k].nm, .slice a1 E.ks[k].atr.length c1, .string E.ks[k].tx, .slice a2 E.ks[k].ks.length c2] 25))) := HC.out.alloc HBL.out _
          have HD0 := Lib.hid (lks_drop hlt E.sp (d + 1) lf)
          have HLL := Lib.hid (lk_left E.ks[k] E.sp (d + 1) lf)
          have HR3 := Lib.hid (IH.out _ (List.getElem_mem hlt) B L U (wr.alloc (.cells #[.string E.ks[k].sp, .string E.ks[k].nm, .slice a1 E.ks[k].atr.length c1, .string E.ks[k].tx, .slice a2 E.ks[k].ks.length c2] 25)) (.agg #[.string E.ks[k].sp, .string E.ks[k].nm, .slice a1 E.ks[k].atr.length c1, .string E.ks[k].tx, .slice a2 E.ks[k].ks.length c2]) E.sp (d + 1) (D + 1) lf (hkin.stay (((Below.refl B wr).alloc (HC.out.le HBL.out) _))) (HWT.out _ (List.getElem_mem hlt)) HBL.out HUL.out HD1.out (by omega) hq1 hq2 HC1.out.lf (HC1.out.kp.block HU.out HUL.out (by decide)))
          generalize lk E.ks[k] E.sp (d + 1) lf = p at HD0 HLL HR3
          obtain ⟨pb, pl⟩ := p
          clear hUr u0 x0 x1 x2 x3 x4 hkin hb HC
          cases pb with
          | false =>
            have HR4 : Hid (lk E s d left = (false, pl)) := by
              show _ = _
              rw [HR2.out, ← HO.out, HD0.out]; rfl
            clear HD0 HLL HO
            go_wp2_with fail
            refine HR3.out.mono ?_
            rintro r w3 ⟨rfl, hl, hkk⟩
            have HC2 := Lib.hid (HC1.out.step hl hkk HNL.out)
            clear hl hkk HC1 HR3 u1 e0 y0 y1 y2 y3 y4
            go_wp2_with fail
            go_ret
            exact ⟨by rw [HR4.out]; rfl, by rw [HR4.out]; exact HC2.out.lf, HC2.out.kp⟩
          | true =>
            have HO2 : Hid (lks (E.ks.drop (k + 1)) E.sp (d + 1) pl = lks E.ks E.sp (d + 1) lf0) := by
              show _ = _
              rw [← HO.out, HD0.out]; rfl
            have hp := HLL.out rfl
            have hp1 : 0 ≤ pl := hp.1
            have hp2 : pl ≤ 16384 := Int.le_trans hp.2 hq2
            clear HD0 HLL HO hp
            go_wp2_with fail
            refine HR3.out.mono ?_
            rintro r w3 ⟨rfl, hl, hkk⟩
            have HC2 := Lib.hid (HC1.out.step hl hkk HNL.out)
            clear hl hkk HC1 HR3 u1 e0 y0 y1 y2 y3 y4
            go_wp2_with fail
            go_roundw
            case rel => exact ⟨k + 1, pl, by go_num, by omega, hp1, hp2, HO2.out, HC2.out⟩
            case measure => simp [RowKit.intOf]; omega
        · have HR4 : Hid (lk E s d left = (true, lf)) := by
            show _ = _
            rw [HR2.out, ← HO.out, List.drop_of_length_le (by omega), lks]
          go_wp2_with fail
          go_ret
          exact ⟨by rw [HR4.out]; rfl, by rw [HR4.out]; exact HC.out.lf, HC.out.kp⟩
/-- Check's answer. -/
def cdt (b : Bool) : Int := if b then 0 else 50
set_option maxRecDepth 100000 in
set_option maxHeartbeats 4000000 in
theorem check_any (e : El) (w : World) (v : Value) (hin : In w.heap.size w e v) (ht : wt e ≤ 20000) :
    Calls Try.prog 7 #[v] w fun r w' => r = .returned (.int .i64 (cdt (chkB e))) ∧ Below w.heap.size w w' := by
  obtain ⟨aA, cA, aK, cK, rfl, _, _, _, _⟩ := hin.out
  have HI := Lib.hid hin
  have HT := Lib.hid ht
  have HC : Hid (chkB e = (lk e ⟨#[]⟩ 1 16384).1) := rfl
  clear hin ht
  have HL0 := box_new (w.alloc (.cells #[.string e.sp, .string e.nm, .slice aA e.atr.length cA, .string e.tx, .slice aK e.ks.length cK] 25)) #[.int .i64 16384] 3
  have HU0 := box_new ((w.alloc (.cells #[.string e.sp, .string e.nm, .slice aA e.atr.length cA, .string e.tx, .slice aK e.ks.length cK] 25)).alloc (.cells #[.int .i64 16384] 3)) #[.func (.func 13) #[] #[.pointer (some ⟨w.heap.size + 1, 0, none⟩), .pointer (some ⟨w.heap.size + 1 + 1, 0, none⟩)]] 36
  have HL := Lib.hid HL0
  have HU := Lib.hid HU0
  clear HL0 HU0
  go_enter Try.func7, Try.ntmps7
  go_wp2_with fail
  refine (lookC_any e (w.heap.size + 1) (w.heap.size + 1) (w.heap.size + 1 + 1) _ _ ⟨#[]⟩ 1 1 16384 ?h1 HT.out (Nat.le_refl _) (by omega) rfl (by decide) (by decide) (by decide) ?h2 ?h3).mono ?_
  case h1 => exact (HI.out.stay ((((Below.refl _ w).alloc (Nat.le_refl _) _).alloc (by simp) _).alloc (by simp; omega) _)).mono (Nat.le_succ _)
  case h2 =>
    have h := HL.out
    rw [Below.heap_alloc _ _ _ (by simp)]
    simpa using h
  case h3 => simpa using HU.out
  rintro r w1 ⟨rfl, _, hk⟩
  have HB1 : Hid (Below w.heap.size w w1) := ((((Below.refl _ w).alloc (Nat.le_refl _) _).alloc (by simp) _).alloc (by simp; omega) _).trans (hk.below.mono (Nat.le_succ _))
  clear hk HL HU HI HT
  generalize (lk e ⟨#[]⟩ 1 16384).1 = b at HC
  cases b with
  | true =>
    go_wp2_with fail
    go_ret
    exact ⟨by rw [HC.out]; rfl, HB1.out⟩
  | false =>
    go_wp2_with fail
    go_ret
    exact ⟨by rw [HC.out]; rfl, HB1.out⟩
end Go.Proofs.Ytgcjgggnmhcfcaa
