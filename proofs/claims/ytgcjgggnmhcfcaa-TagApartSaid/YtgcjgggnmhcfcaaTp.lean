/- Contracts of tag.Put and of the function in it that calls itself: an element's text. Condition: an element of at most 20000 values and letters. -/
import Derived.Test.YtgcjgggnmhcfcaaTb
import Derived.Laws.EntriesVeiled
namespace Go.Proofs.Ytgcjgggnmhcfcaa
open Go.RowKit Go.Lib Go.Shelf Tg

theorem AtIn.up {B B' : Nat} {w : World} {a : Option Addr} {l : List (ByteArray × ByteArray)} (h : AtIn B w a l) (hb : B ≤ B') : AtIn B' w a l := by
  intro i hi
  obtain ⟨b, o, ha, hlt, hf⟩ := h i hi
  exact ⟨b, o, ha, Nat.lt_of_lt_of_le hlt hb, hf⟩
theorem cell_alloc {w : World} {b o : Nat} {v : Value} (h : w.cell? ⟨b, o, none⟩ = some v) (x : Obj) : (w.alloc x).cell? ⟨b, o, none⟩ = some v :=
  (World.cell?_of_block (Below.heap_alloc w x b (World.block_lt_of_cell? w _ h))).trans h
theorem puts_drop {l : List El} {k : Nat} (h : k < l.length) (s : ByteArray) : puts (l.drop k) s = put l[k] s ++ puts (l.drop (k + 1)) s := by
  rw [List.drop_eq_getElem_cons h, puts_cons]
theorem heap_lt {w : World} {b : Nat} {o : Obj} (h : w.heap[b]? = some o) : b < w.heap.size := (Array.getElem?_eq_some_iff.1 h).1
/-- What Put's inner function keeps: the builder, its box, all that w held below B. -/
structure Pt (B O N : Nat) (cs : Array Value) (w : World) (out : List UInt8) (wr : World) : Prop where
  bf : Bf B O out wr
  kp : Kp B O w wr
  box : wr.heap[N]? = some (.cells cs 25 (0, 0))
theorem Pt.call {B O N : Nat} {cs : Array Value} {w wr w' : World} {out : List UInt8} (h : Pt B O N cs w out wr) (hb : Below wr.heap.size wr w') (hB : B ≤ O) : Pt B O N cs w out w' :=
  ⟨h.bf.below hb, h.kp.trans (Kp.of hb (Nat.le_trans hB (Nat.le_of_lt h.bf.lt))), (hb.block N (heap_lt h.box)).trans h.box⟩
theorem Pt.step {B O N : Nat} {cs : Array Value} {w wr w' : World} {out out' : List UInt8} (h : Pt B O N cs w out wr) (hf : Bf B O out' w') (hk : Kp B O wr w') (hN : N ≠ O) : Pt B O N cs w out' w' :=
  ⟨hf, h.kp.trans hk, hk.block h.box hN (by decide)⟩
theorem Pt.alloc {B O N : Nat} {cs : Array Value} {w wr : World} {out : List UInt8} (h : Pt B O N cs w out wr) (hB : B ≤ O) (o : Obj) : Pt B O N cs w out (wr.alloc o) := h.call ((Below.refl _ wr).alloc (Nat.le_refl _) o) hB
theorem Pt.le {B O N : Nat} {cs : Array Value} {w wr : World} {out : List UInt8} (h : Pt B O N cs w out wr) (hB : B ≤ O) : B ≤ wr.heap.size := Nat.le_trans hB (Nat.le_of_lt h.bf.lt)

set_option maxRecDepth 100000 in
set_option maxHeartbeats 4000000 in
/-- Put's inner function: the element's text is written behind what was written. -/
theorem putC_any (e : El) : ∀ (B O U : Nat) (w : World) (v : Value) (s : ByteArray) (l : List UInt8), In B w e v → wt e ≤ 20000 → B ≤ O → U ≠ O → Bf B O l w →
    w.heap[U]? = some (.cells #[.func (.func 20) #[] #[.pointer (some ⟨O, 0, none⟩), .pointer (some ⟨U, 0, none⟩)]] 45 (0, 0)) → l.length + (put e s).length ≤ 1000000 →
    Calls Try.prog 20 #[v, .string s, .pointer (some ⟨O, 0, none⟩), .pointer (some ⟨U, 0, none⟩)] w fun r w' => r = .returned (.tuple #[]) ∧ Bf B O (l ++ put e s) w' ∧ Kp B O w w' := by
  refine El.ind (P := fun e => ∀ (B O U : Nat) (w : World) (v : Value) (s : ByteArray) (l : List UInt8), In B w e v → wt e ≤ 20000 → B ≤ O → U ≠ O → Bf B O l w →
    w.heap[U]? = some (.cells #[.func (.func 20) #[] #[.pointer (some ⟨O, 0, none⟩), .pointer (some ⟨U, 0, none⟩)]] 45 (0, 0)) → l.length + (put e s).length ≤ 1000000 →
    Calls Try.prog 20 #[v, .string s, .pointer (some ⟨O, 0, none⟩), .pointer (some ⟨U, 0, none⟩)] w fun r w' => r = .returned (.tuple #[]) ∧ Bf B O (l ++ put e s) w' ∧ Kp B O w w') (fun sp nm atr tx ks ih => ?_) e
  intro B O U w v s l hin ht hBO hUO hbf hU hlen
  generalize hE : El.mk sp nm atr tx ks = E at hin ht hlen
  obtain rfl : E.ks = ks := by rw [← hE]; rfl
  clear hE
  obtain ⟨aA, cA, aK, cK, rfl, _, hkm, hat, hks⟩ := hin.out
  have hw := wt_eq E
  have hwk := wts_len E.ks
  have hnk : E.ks.length ≤ 20000 := by omega
  have IH := Lib.hid ih
  have HBO := Lib.hid hBO
  have HUO := Lib.hid hUO
  have hOw : O < w.heap.size := hbf.lt
  have HNO : Hid (w.heap.size ≠ O) := by show _ ≠ _; omega
  have HBE := Lib.hid (begin_any E s aA cA aK cK · ht ·)
  have HFI := Lib.hid (fun W => end_any E aA E.atr.length cA aK cK W (by omega))
  have HKS := Lib.hid hks
  have HAT := Lib.hid hat
  have HWT : Hid (∀ k ∈ E.ks, wt k ≤ 20000) := fun k hk => by have := wts_mem hk; omega
  have HU := Lib.hid hU
  have HP0 : Hid (Pt B O w.heap.size #[.string E.sp, .string E.nm, .slice aA E.atr.length cA, .string E.tx, .slice aK E.ks.length cK] w l (w.alloc (.cells #[.string E.sp, .string E.nm, .slice aA E.atr.length cA, .string E.tx, .slice aK E.ks.length cK] 25))) :=
    ⟨hbf.alloc _, (Kp.refl _ _ _).alloc (by omega) _, box_new w _ _⟩
  have HPE := Lib.hid (put_eq E s)
  have HLN := Lib.hid hlen
  clear hw hwk ih hin hbf hUO hU hat hks hkm ht hlen hBO
  go_enter Try.func20, Try.ntmps20
  go_wp2_with fail
  refine (HBE.out _ ((HAT.out.below HP0.out.kp.below).up (HP0.out.le HBO.out))).mono ?_
  rintro r w1 ⟨rfl, hb⟩
  have HP1 := Lib.hid (HP0.out.call hb HBO.out)
  have HT1 := Lib.hid (mk_list (beg E s))
  clear hb HP0
  generalize (⟨(beg E s).toArray⟩ : ByteArray) = tb at HT1
  go_wp2_with fail
  have HLP : Hid (l.length + ((beg E s).length + (puts E.ks E.sp).length + (fin E).length) ≤ 1000000) := by
    have := HLN.out
    rw [HPE.out, List.length_append, List.length_append] at this
    exact this
  refine (bf_str tb _ HP1.out.bf (by have h1 := HLP.out; rw [← HT1.out, len_size] at h1; omega) (HP1.out.le HBO.out)).mono ?_
  rintro r w2 ⟨rfl, hf, hk⟩
  have HP2 : Hid (Pt B O w.heap.size #[.string E.sp, .string E.nm, .slice aA E.atr.length cA, .string E.tx, .slice aK E.ks.length cK] w (l ++ beg E s) w2) := by
    have := HP1.out.step hf hk HNO.out
    rw [HT1.out] at this
    exact this
  clear hf hk HP1 HT1
  obtain ⟨x0, x1, x2, x3, x4⟩ := bx5 HP2.out.box
  go_wp2_with fail
  clear x0 x1 x2 x3 x4
  go_loopw [15] (fun i wr => ∃ (k : Nat) (out : List UInt8), i = .int .i64 k ∧ k ≤ E.ks.length ∧ Hid (out ++ puts (E.ks.drop k) E.sp = (l ++ beg E s) ++ puts E.ks E.sp) ∧ Hid (Pt B O w.heap.size #[.string E.sp, .string E.nm, .slice aA E.atr.length cA, .string E.tx, .slice aK E.ks.length cK] w out wr)) (fun i _ => E.ks.length - (RowKit.intOf i).toNat)
  case atStart => exact ⟨0, _, rfl, Nat.zero_le _, rfl, HP2.out⟩
  case round =>
    obtain ⟨k, out, rfl, hk, HO, HD⟩ := hrel
    clear HP2
    by_cases hlt : k < E.ks.length
    · obtain ⟨b, o, a1, c1, a2, c2, rfl, hb, hf5, hkin⟩ := (HKS.out.below HD.out.kp.below) k hlt
      obtain ⟨y0, y1, y2, y3, y4⟩ := hf5
      obtain ⟨x0, x1, x2, x3, x4⟩ := bx5 HD.out.box
      have hUr := HD.out.kp.block HU.out HUO.out (by decide)
      have u0 : wr.cell? ⟨U, 0, none⟩ = some (.func (.func 20) #[] #[.pointer (some ⟨O, 0, none⟩), .pointer (some ⟨U, 0, none⟩)]) := by rw [Lib.cell_of_heap hUr]; rfl
      have u1 := cell_alloc u0 (.cells #[.string E.ks[k].sp, .string E.ks[k].nm, .slice a1 E.ks[k].atr.length c1, .string E.ks[k].tx, .slice a2 E.ks[k].ks.length c2] 25)
      have e0 := cell_alloc x0 (.cells #[.string E.ks[k].sp, .string E.ks[k].nm, .slice a1 E.ks[k].atr.length c1, .string E.ks[k].tx, .slice a2 E.ks[k].ks.length c2] 25)
      have HD1 : Hid (Pt B O w.heap.size _ w out (wr.alloc (.cells #[.string E.ks[k].sp, .string E.ks[k].nm, .slice a1 E.ks[k].atr.length c1, .string E.ks[k].tx, .slice a2 E.ks[k].ks.length c2] 25))) := HD.out.alloc HBO.out _
      have HO2 : Hid ((out ++ put E.ks[k] E.sp) ++ puts (E.ks.drop (k + 1)) E.sp = (l ++ beg E s) ++ puts E.ks E.sp) := by
        have := HO.out
        rw [puts_drop hlt] at this
        show _ = _
        rw [List.append_assoc]; exact this
      have HL : Hid (out.length + (put E.ks[k] E.sp).length ≤ 1000000) := by
        have h1 := congrArg List.length HO2.out
        have h2 := HLP.out
        simp only [List.length_append] at h1
        show _ ≤ _
        omega
      have HC := Lib.hid (IH.out _ (List.getElem_mem hlt) B O U (wr.alloc (.cells #[.string E.ks[k].sp, .string E.ks[k].nm, .slice a1 E.ks[k].atr.length c1, .string E.ks[k].tx, .slice a2 E.ks[k].ks.length c2] 25)) (.agg #[.string E.ks[k].sp, .string E.ks[k].nm, .slice a1 E.ks[k].atr.length c1, .string E.ks[k].tx, .slice a2 E.ks[k].ks.length c2]) E.sp out (hkin.stay (((Below.refl B wr).alloc (HD.out.le HBO.out) _))) (HWT.out _ (List.getElem_mem hlt)) HBO.out HUO.out HD1.out.bf (HD1.out.kp.block HU.out HUO.out (by decide)) HL.out)
      clear hUr u0 x0 x1 x2 x3 x4 hkin hb HD HO
      go_wp2_with fail
      refine HC.out.mono ?_
      rintro r w3 ⟨rfl, hf, hkk⟩
      have HD2 := Lib.hid (HD1.out.step hf hkk HNO.out)
      clear hf hkk HD1 HC u1 e0 y0 y1 y2 y3 y4
      go_wp2_with fail
      go_roundw
      case rel => exact ⟨k + 1, _, by go_num, by omega, HO2.out, HD2.out⟩
      case measure => simp [RowKit.intOf]; omega
    · have HO2 : Hid (out = (l ++ beg E s) ++ puts E.ks E.sp) := by
        have := HO.out
        rw [List.drop_of_length_le (by omega), puts_nil, List.append_nil] at this
        exact this
      have HD2 : Hid (Pt B O w.heap.size #[.string E.sp, .string E.nm, .slice aA E.atr.length cA, .string E.tx, .slice aK E.ks.length cK] w ((l ++ beg E s) ++ puts E.ks E.sp) wr) := by have := HD.out; rw [HO2.out] at this; exact this
      obtain ⟨x0, x1, x2, x3, x4⟩ := bx5 HD2.out.box
      clear HO2 HO HD
      go_wp2_with fail
      refine (HFI.out _).mono ?_
      rintro r w3 ⟨rfl, hb⟩
      have HP3 := Lib.hid (HD2.out.call hb HBO.out)
      have HT1 := Lib.hid (mk_list (fin E))
      clear hb HD2 x0 x1 x2 x3 x4
      generalize (⟨(fin E).toArray⟩ : ByteArray) = tf at HT1
      go_wp2_with fail
      refine (bf_str tf _ HP3.out.bf (by have h1 := HLP.out; rw [← HT1.out, len_size] at h1; simp only [List.length_append]; omega) (HP3.out.le HBO.out)).mono ?_
      rintro r w4 ⟨rfl, hf, hk⟩
      have HP4 : Hid (Bf B O (l ++ put E s) w4 ∧ Kp B O w w4) := by
        have := HP3.out.step hf hk HNO.out
        rw [HT1.out] at this
        rw [HPE.out]
        refine ⟨?_, this.kp⟩
        have h2 := this.bf
        simpa only [List.append_assoc] using h2
      clear hf hk HP3
      go_wp2_with fail
      go_end0
      exact ⟨rfl, HP4.out.1, HP4.out.2⟩

theorem bf_new2 (w : World) (o : Obj) : Bf (w.heap.size + 1) (w.heap.size + 1) [] ((w.alloc o).alloc (.cells #[.pointer none, .slice none 0 0] 44)) := Bf.of (bd_new1 w o)
set_option maxRecDepth 100000 in
set_option maxHeartbeats 4000000 in
/-- Put: an element's text, in an element of that space. -/
theorem put_any (e : El) (w : World) (v : Value) (s : ByteArray) (hin : In w.heap.size w e v) (ht : wt e ≤ 20000) :
    Calls Try.prog 9 #[v, .string s] w fun r w' => r = .returned (.string ⟨(put e s).toArray⟩) ∧ Below w.heap.size w w' := by
  obtain ⟨aA, cA, aK, cK, rfl, _, _, _, _⟩ := hin.out
  have HL : Hid (([] : List UInt8).length + (put e s).length ≤ 1000000) := by have := put_len e s; show _ ≤ _; rw [List.length_nil]; omega
  have HI := Lib.hid hin
  have HT := Lib.hid ht
  clear hin ht
  go_enter Try.func9, Try.ntmps9
  go_wp2_with fail
  refine (putC_any e (w.heap.size + 1) (w.heap.size + 1) (w.heap.size + 1 + 1) _ _ s [] ?h1 HT.out (Nat.le_refl _) (by omega) ?h2 ?h3 HL.out).mono ?_
  case h1 => exact (HI.out.stay ((((Below.refl _ w).alloc (Nat.le_refl _) _).alloc (by simp) _).alloc (by simp; omega) _)).mono (Nat.le_succ _)
  case h2 => exact (bf_new2 w _).alloc _
  case h3 =>
    have h := box_new ((w.alloc (.cells #[.string e.sp, .string e.nm, .slice aA e.atr.length cA, .string e.tx, .slice aK e.ks.length cK] 25)).alloc (.cells #[.pointer none, .slice none 0 0] 44)) #[.func (.func 20) #[] #[.pointer (some ⟨w.heap.size + 1, 0, none⟩), .pointer (some ⟨w.heap.size + 1 + 1, 0, none⟩)]] 45
    simpa using h
  rintro r w1 ⟨rfl, hf, hk⟩
  have HF := Lib.hid hf
  have HB1 : Hid (Below w.heap.size w w1) := ((((Below.refl _ w).alloc (Nat.le_refl _) _).alloc (by simp) _).alloc (by simp; omega) _).trans (hk.below.mono (Nat.le_succ _))
  have hB1 : w.heap.size + 1 ≤ w1.heap.size := Nat.le_of_lt HF.out.lt
  clear hf hk HL HI HT
  go_wp2_with fail
  refine (bf_string _ HF.out hB1).mono ?_
  rintro r w2 ⟨rfl, hk⟩
  have HB2 := Lib.hid (HB1.out.trans (hk.below.mono (Nat.le_succ _)))
  clear hk HB1 HF hB1
  go_wp2_with fail
  go_ret
  exact ⟨rfl, HB2.out⟩
end Go.Proofs.Ytgcjgggnmhcfcaa
