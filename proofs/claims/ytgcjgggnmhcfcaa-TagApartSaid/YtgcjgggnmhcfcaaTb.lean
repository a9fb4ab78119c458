/- Contracts of tag.isEmpty, end, begin: what stands ahead of an element's kids, and behind them. Condition: an element of at most 20000 values and letters. -/
import Derived.Test.YtgcjgggnmhcfcaaTq
namespace Go.Proofs.Ytgcjgggnmhcfcaa
open Go.RowKit Go.Lib Go.Shelf Tg

/-- An element as a value. -/
def ev (sp nm : ByteArray) (aA : Option Addr) (n cA : Nat) (tx : ByteArray) (aK : Option Addr) (m cK : Nat) : Value := .agg #[.string sp, .string nm, .slice aA n cA, .string tx, .slice aK m cK]
theorem isEmpty_any (sp nm : ByteArray) (aA : Option Addr) (n cA : Nat) (tx : ByteArray) (aK : Option Addr) (m cK : Nat) (w : World) (b : Bool) (hb : (tx.data.toList.isEmpty && decide (m = 0)) = b) :
    Calls Try.prog 33 #[.agg #[.string sp, .string nm, .slice aA n cA, .string tx, .slice aK m cK]] w fun e w' => e = .returned (.bool b) ∧ Below w.heap.size w w' := by
  cases ht : tx.data.toList.isEmpty with
  | false =>
    have e1 : tx.toList.isEmpty = false := by rw [ByteArray.toList_eq]; exact ht
    have E : Hid (b = false) := by show _ = _; rw [← hb, ht]; rfl
    clear ht hb
    go_enter Try.func33, Try.ntmps33
    go_wp2
    go_ret
    exact ⟨by rw [E.out]; rfl, (Below.refl _ _).alloc (Nat.le_refl _) _⟩
  | true =>
    have e1 : tx.toList.isEmpty = true := by rw [ByteArray.toList_eq]; exact ht
    by_cases h0 : m = 0
    · have f0 : ((m : Int) == 0) = true := by rw [h0]; rfl
      have E : Hid (b = true) := by show _ = _; rw [← hb, ht, h0]; rfl
      clear ht hb h0
      go_enter Try.func33, Try.ntmps33
      go_wp2
      go_ret
      exact ⟨by rw [E.out]; rfl, (Below.refl _ _).alloc (Nat.le_refl _) _⟩
    · have f0 : ((m : Int) == 0) = false := by rw [beq_eq_false_iff_ne]; omega
      have E : Hid (b = false) := by show _ = _; rw [← hb, ht]; simp [h0]
      clear ht hb h0
      go_enter Try.func33, Try.ntmps33
      go_wp2
      go_ret
      exact ⟨by rw [E.out]; rfl, (Below.refl _ _).alloc (Nat.le_refl _) _⟩
theorem emp_eq (tx : ByteArray) (ks : List El) : (tx.data.toList.isEmpty && decide (ks.length = 0)) = emp tx ks := by
  unfold emp
  cases ks <;> simp
theorem end_any (e : El) (aA : Option Addr) (n cA : Nat) (aK : Option Addr) (cK : Nat) (w : World) (hnm : e.nm.size ≤ 1048576) :
    Calls Try.prog 16 #[.agg #[.string e.sp, .string e.nm, .slice aA n cA, .string e.tx, .slice aK e.ks.length cK]] w fun r w' => r = .returned (.string ⟨(fin e).toArray⟩) ∧ Below w.heap.size w w' := by
  have HE := Lib.hid (fun W => isEmpty_any e.sp e.nm aA n cA e.tx aK e.ks.length cK W _ (emp_eq e.tx e.ks))
  have HF : Hid (fin e = if emp e.tx e.ks then [] else [60, 47] ++ e.nm.data.toList ++ [62]) := rfl
  have HM : Hid (((⟨#[60, 47]⟩ ++ e.nm) ++ ⟨#[62]⟩ : ByteArray) = ⟨([60, 47] ++ e.nm.data.toList ++ [62]).toArray⟩) := by
    show _ = _
    apply bytes_eq
    simp
  cases hb : emp e.tx e.ks with
  | true =>
    rw [hb] at HE HF
    clear hb
    generalize e.ks.length = m at HE
    generalize e.sp = sp at HE
    generalize e.tx = tx at HE
    generalize e.nm = nm at HE
    clear hnm
    go_enter Try.func16, Try.ntmps16
    go_wp2_with fail
    refine (HE.out _).mono ?_
    rintro r w1 ⟨rfl, hb1⟩
    have HB1 := Lib.hid (((Below.refl _ w).alloc (Nat.le_refl _) _).trans (hb1.mono (by simp)))
    clear hb1
    go_wp2_with fail
    go_ret
    exact ⟨by rw [HF.out]; rfl, HB1.out⟩
  | false =>
    rw [hb] at HE HF
    clear hb
    generalize e.ks.length = m at HE
    generalize e.sp = sp at HE
    generalize e.tx = tx at HE
    generalize e.nm = nm at HE HF HM hnm
    go_enter Try.func16, Try.ntmps16
    go_wp2_with fail
    refine (HE.out _).mono ?_
    rintro r w1 ⟨rfl, hb1⟩
    have HB1 := Lib.hid (((Below.refl _ w).alloc (Nat.le_refl _) _).trans (hb1.mono (by simp)))
    obtain ⟨hc, hf⟩ := bcell hb1
    clear hb1
    go_wp2_with fail
    go_ret
    exact ⟨by rw [HF.out, if_neg (by simp), ← HM.out]; rfl, HB1.out⟩
/-- What stands ahead of an element's kids, but for its end. -/
theorem beg_parts (e : El) (s : ByteArray) : beg e s = (([60] ++ e.nm.data.toList) ++ (if e.sp = s then [] else Tg.mark xmlns e.sp.data.toList)) ++ marks e.atr ++ (if emp e.tx e.ks then [47, 62] else [62] ++ q e.tx.data.toList) := rfl
theorem marks_drop {l : List (ByteArray × ByteArray)} {k : Nat} (h : k < l.length) : marks (l.drop k) = Tg.mark l[k].1.data.toList l[k].2.data.toList ++ marks (l.drop (k + 1)) := by
  rw [List.drop_eq_getElem_cons h]
  unfold marks
  rw [List.flatMap_cons]
theorem bd_new1 (w : World) (o : Obj) : Bd (w.heap.size + 1) (w.heap.size + 1) [] ((w.alloc o).alloc (.cells #[.pointer none, .slice none 0 0] 44)) := by
  have := bd_new (w.alloc o)
  simpa using this
/-- A box of five cells, cell by cell. -/
theorem bx5 {w : World} {b : Nat} {v0 v1 v2 v3 v4 : Value} {t : TypeId} {fz : Nat × Nat} (h : w.heap[b]? = some (.cells #[v0, v1, v2, v3, v4] t fz)) :
    w.cell? ⟨b, 0, none⟩ = some v0 ∧ w.cell? ⟨b, 1, none⟩ = some v1 ∧ w.cell? ⟨b, 2, none⟩ = some v2 ∧ w.cell? ⟨b, 3, none⟩ = some v3 ∧ w.cell? ⟨b, 4, none⟩ = some v4 := by
  refine ⟨?_, ?_, ?_, ?_, ?_⟩ <;> (rw [Lib.cell_of_heap h]; rfl)
theorem box_new (w : World) (cs : Array Value) (t : TypeId) : (w.alloc (.cells cs t)).heap[w.heap.size]? = some (.cells cs t (0, 0)) := heap_alloc_new w _
theorem len_front {a b c t : List UInt8} {n : Nat} (h : a ++ b = c) (h2 : (c ++ t).length ≤ n) : a.length ≤ n := by
  subst h
  rw [List.length_append, List.length_append] at h2
  omega
theorem ret_str {a b : List UInt8} (h : a = b) : Ending.returned (.string ⟨a.toArray⟩) = Ending.returned (.string ⟨b.toArray⟩) := by rw [h]
theorem mk_size (l : List UInt8) : (⟨l.toArray⟩ : ByteArray).size = l.length := by rw [Lib.size_eq]
theorem mk_list (l : List UInt8) : (⟨l.toArray⟩ : ByteArray).data.toList = l := by simp
/-- A box in the block behind w, a builder in the next, and all that w held. -/
def Bgn (w : World) (cs : Array Value) (t : TypeId) (out : List UInt8) (wr : World) : Prop := Bd (w.heap.size + 1) (w.heap.size + 1) out wr ∧ Below w.heap.size w wr ∧ wr.heap[w.heap.size]? = some (.cells cs t (0, 0))
theorem Bgn.new (w : World) (cs : Array Value) (t : TypeId) : Bgn w cs t [] ((w.alloc (.cells cs t)).alloc (.cells #[.pointer none, .slice none 0 0] 44)) :=
  ⟨bd_new1 w _, ((Below.refl _ w).alloc (Nat.le_refl _) _).alloc (by simp) _, (Below.heap_alloc _ _ _ (by simp)).trans (box_new w cs t)⟩
theorem Bgn.step {w : World} {cs : Array Value} {t : TypeId} {out out' : List UInt8} {wr w' : World} (h : Bgn w cs t out wr) (hd : Bd (w.heap.size + 1) (w.heap.size + 1) out' w') (hb : Below (w.heap.size + 1) wr w') : Bgn w cs t out' w' :=
  ⟨hd, h.2.1.trans (hb.mono (Nat.le_succ _)), (hb.block _ (Nat.lt_succ_self _)).trans h.2.2⟩
theorem Bgn.call {w : World} {cs : Array Value} {t : TypeId} {out : List UInt8} {wr w' : World} (h : Bgn w cs t out wr) (hb : Below wr.heap.size wr w') : Bgn w cs t out w' :=
  h.step (h.1.below hb) (hb.mono (Nat.le_of_lt h.1.lt))
theorem Bgn.alloc {w : World} {cs : Array Value} {t : TypeId} {out : List UInt8} {wr : World} (h : Bgn w cs t out wr) (o : Obj) : Bgn w cs t out (wr.alloc o) := h.call ((Below.refl _ wr).alloc (Nat.le_refl _) o)
theorem Bgn.lt {w : World} {cs : Array Value} {t : TypeId} {out : List UInt8} {wr : World} (h : Bgn w cs t out wr) : w.heap.size + 1 ≤ wr.heap.size := Nat.le_of_lt h.1.lt
set_option maxRecDepth 100000 in
set_option maxHeartbeats 4000000 in
/-- begin: an element's text ahead of its kids. -/
theorem begin_any (e : El) (s : ByteArray) (aA : Option Addr) (cA : Nat) (aK : Option Addr) (cK : Nat) (w : World) (ht : wt e ≤ 20000) (hA : AtIn w.heap.size w aA e.atr) :
    Calls Try.prog 15 #[.agg #[.string e.sp, .string e.nm, .slice aA e.atr.length cA, .string e.tx, .slice aK e.ks.length cK], .string s] w fun r w' => r = .returned (.string ⟨(beg e s).toArray⟩) ∧ Below w.heap.size w w' := by
  have hw := wt_eq e
  have hnm : e.nm.size ≤ 20000 := by omega
  have han : e.atr.length ≤ 20000 := by omega
  have HG : Hid ((beg e s).length ≤ 1000000) := by have := beg_len e s; show _ ≤ _; omega
  have HP := Lib.hid (beg_parts e s)
  have HE := Lib.hid (fun W => isEmpty_any e.sp e.nm aA e.atr.length cA e.tx aK e.ks.length cK W _ (emp_eq e.tx e.ks))
  have HT := Lib.hid (fun W => quote_any e.tx W (by omega))
  have HS := Lib.hid (fun W => mark_any ⟨#[120, 109, 108, 110, 115]⟩ e.sp W (by decide) (by omega))
  have HAM : Hid (∀ a ∈ e.atr, a.1.size ≤ 1048576 ∧ a.2.size ≤ 1048576) := fun a ha => by have := wtA_mem ha; omega
  have HA := Lib.hid hA
  have HN := Lib.hid (Bgn.new w #[.string e.sp, .string e.nm, .slice aA e.atr.length cA, .string e.tx, .slice aK e.ks.length cK] 25)
  have HZ0 : Hid ((⟨#[60]⟩ ++ e.nm : ByteArray).data.toList = [60] ++ e.nm.data.toList ∧ (⟨#[60]⟩ ++ e.nm : ByteArray).size ≤ 20001) := by
    constructor
    · simp
    · rw [Lib.size_eq]; simp; omega
  have hB1 : w.heap.size + 1 ≤ ((w.alloc (.cells #[.string e.sp, .string e.nm, .slice aA e.atr.length cA, .string e.tx, .slice aK e.ks.length cK] 25)).alloc (.cells #[.pointer none, .slice none 0 0] 44)).heap.size := by simp
  have HZM : Hid ((⟨(Tg.mark xmlns e.sp.data.toList).toArray⟩ : ByteArray).data.toList = Tg.mark xmlns e.sp.data.toList ∧ (⟨(Tg.mark xmlns e.sp.data.toList).toArray⟩ : ByteArray).size ≤ 200000) := by
    refine ⟨mk_list _, ?_⟩
    have h1 := mark_len xmlns e.sp.data.toList
    have h2 : xmlns.length = 5 := rfl
    rw [len_size] at h1
    rw [mk_size]
    omega
  have HS2 : Hid (∀ W, Calls Try.prog 32 #[.string ⟨#[120, 109, 108, 110, 115]⟩, .string e.sp] W fun r w' => r = .returned (.string ⟨(Tg.mark xmlns e.sp.data.toList).toArray⟩) ∧ Below W.heap.size W w') := HS.out
  clear HS
  generalize (⟨(Tg.mark xmlns e.sp.data.toList).toArray⟩ : ByteArray) = tm at HZM HS2
  clear hw ht hA
  by_cases hsp : e.sp = s
  case' pos =>
    have n1 : (e.sp.toList == s.toList) = true := by rw [hsp]; simp
    have n2 : (e.sp.toList != s.toList) = false := by rw [hsp]; simp
    have HPP : Hid (beg e s = ([60] ++ e.nm.data.toList) ++ marks e.atr ++ (if emp e.tx e.ks then [47, 62] else [62] ++ q e.tx.data.toList)) := by
      show _ = _
      rw [HP.out, if_pos hsp, List.append_nil]
    clear hsp HP
    go_enter Try.func15, Try.ntmps15
    go_wp2_with fail
    refine (bd_str _ _ HN.out.1 (by have := HZ0.out.2; simp only [List.length_nil]; omega) hB1).mono ?_
    rintro r wz ⟨rfl, hd, hb⟩
    have HD := Lib.hid (HN.out.step hd hb)
    obtain ⟨x0, x1, x2, x3, x4⟩ := bx5 HD.out.2.2
    clear hd hb hB1 HN
    have HD2 : Hid (Bgn w #[.string e.sp, .string e.nm, .slice aA e.atr.length cA, .string e.tx, .slice aK e.ks.length cK] 25 ([60] ++ e.nm.data.toList) wz) := by
      have := HD.out
      rw [HZ0.out.1] at this
      exact this
    have HPQ : Hid (([60] ++ e.nm.data.toList).length ≤ 20001) := by show _ ≤ _; simp; omega
    clear HD HZ0 HS2 HZM
    generalize [60] ++ e.nm.data.toList = A at HD2 HPQ HPP
    go_wp2_with fail
  case' neg =>
    have n1 : (e.sp.toList == s.toList) = false := by
      rw [beq_eq_false_iff_ne]
      intro h
      rw [ByteArray.toList_eq, ByteArray.toList_eq] at h
      exact hsp (bytes_eq h)
    have n2 : (e.sp.toList != s.toList) = true := by rw [bne, n1]; rfl
    have HPP : Hid (beg e s = (([60] ++ e.nm.data.toList) ++ Tg.mark xmlns e.sp.data.toList) ++ marks e.atr ++ (if emp e.tx e.ks then [47, 62] else [62] ++ q e.tx.data.toList)) := by
      show _ = _
      rw [HP.out, if_neg hsp]
    clear hsp HP
    go_enter Try.func15, Try.ntmps15
    go_wp2_with fail
    refine (bd_str _ _ HN.out.1 (by have := HZ0.out.2; simp only [List.length_nil]; omega) hB1).mono ?_
    rintro r w1 ⟨rfl, hd, hb⟩
    have HD := Lib.hid (HN.out.step hd hb)
    obtain ⟨x0, x1, x2, x3, x4⟩ := bx5 HD.out.2.2
    clear hd hb hB1 HN
    go_wp2_with fail
    refine (HS2.out _).mono ?_
    rintro r w2 ⟨rfl, hb⟩
    have HD1 := Lib.hid (HD.out.call hb)
    have hB1 := HD1.out.lt
    clear hb HD x0 x1 x2 x3 x4
    go_wp2_with fail
    refine (bd_str _ _ HD1.out.1 (by have h1 := HZ0.out.2; have h2 := HZM.out.2; rw [List.nil_append, len_size]; omega) hB1).mono ?_
    rintro r wz ⟨rfl, hd, hb⟩
    have HD := Lib.hid (HD1.out.step hd hb)
    obtain ⟨x0, x1, x2, x3, x4⟩ := bx5 HD.out.2.2
    have HD2 : Hid (Bgn w #[.string e.sp, .string e.nm, .slice aA e.atr.length cA, .string e.tx, .slice aK e.ks.length cK] 25 (([60] ++ e.nm.data.toList) ++ Tg.mark xmlns e.sp.data.toList) wz) := by
      have := HD.out
      rw [List.nil_append, HZ0.out.1, HZM.out.1] at this
      exact this
    have HPQ : Hid ((([60] ++ e.nm.data.toList) ++ Tg.mark xmlns e.sp.data.toList).length ≤ 300000) := by
      have h1 := HZM.out.1
      have h2 := HZM.out.2
      show _ ≤ _
      rw [← h1, List.length_append, len_size]; simp; omega
    clear hd hb hB1 HD1 HD HZ0 HS2 HZM
    generalize ([60] ++ e.nm.data.toList) ++ Tg.mark xmlns e.sp.data.toList = A at HD2 HPQ HPP
    go_wp2_with fail
  all_goals
    clear x0 x1 x2 x3 x4
    go_loopw [23] (fun i wr => ∃ (k : Nat) (out : List UInt8), i = .int .i64 k ∧ k ≤ e.atr.length ∧ Hid (out ++ marks (e.atr.drop k) = A ++ marks e.atr) ∧ Hid (Bgn w #[.string e.sp, .string e.nm, .slice aA e.atr.length cA, .string e.tx, .slice aK e.ks.length cK] 25 out wr)) (fun i _ => e.atr.length - (RowKit.intOf i).toNat)
    case atStart => exact ⟨0, A, rfl, Nat.zero_le _, rfl, HD2.out⟩
    case round =>
      obtain ⟨k, out, rfl, hk, HO, HD⟩ := hrel
      obtain ⟨x0, x1, x2, x3, x4⟩ := bx5 HD.out.2.2
      by_cases hlt : k < e.atr.length
      · obtain ⟨b, o, rfl, hb, y0, y1⟩ := (HA.out.below HD.out.2.1) k hlt
        have HO2 : Hid ((out ++ Tg.mark e.atr[k].1.data.toList e.atr[k].2.data.toList) ++ marks (e.atr.drop (k + 1)) = A ++ marks e.atr) := by
          have := HO.out
          rw [marks_drop hlt] at this
          show _ = _
          rw [List.append_assoc]; exact this
        have HL : Hid ((out ++ Tg.mark e.atr[k].1.data.toList e.atr[k].2.data.toList).length ≤ 1000000) := by
          have h2 := HG.out
          rw [HPP.out] at h2
          exact len_front HO2.out h2
        obtain ⟨z1, z2⟩ := HAM.out _ (List.getElem_mem hlt)
        have HM := Lib.hid (fun W => mark_any e.atr[k].1 e.atr[k].2 W z1 z2)
        have HT2 := Lib.hid (mk_list (Tg.mark e.atr[k].1.data.toList e.atr[k].2.data.toList))
        generalize (⟨(Tg.mark e.atr[k].1.data.toList e.atr[k].2.data.toList).toArray⟩ : ByteArray) = t at HM HT2
        go_wp2_with fail
        refine (HM.out _).mono ?_
        rintro r w1 ⟨rfl, hbb⟩
        have HD1 := Lib.hid ((HD.out.alloc _).call hbb)
        have hB1 := HD1.out.lt
        clear hbb HD x0 x1 x2 x3 x4 y0 y1
        go_wp2_with fail
        refine (bd_str t _ HD1.out.1 (by have h1 := HL.out; have h2 := congrArg List.length HT2.out; rw [List.length_append] at h1; rw [len_size] at h2; omega) hB1).mono ?_
        rintro r w2 ⟨rfl, hd, hbb⟩
        have HD2 : Hid (Bgn w #[.string e.sp, .string e.nm, .slice (some ⟨b, o, none⟩) e.atr.length cA, .string e.tx, .slice aK e.ks.length cK] 25 (out ++ Tg.mark e.atr[k].1.data.toList e.atr[k].2.data.toList) w2) := by
          have := HD1.out.step hd hbb
          rw [HT2.out] at this
          exact this
        clear hd hbb HD1 hB1
        go_wp2_with fail
        go_roundw
        case rel => exact ⟨k + 1, _, by go_num, by omega, HO2.out, HD2.out⟩
        case measure => simp [RowKit.intOf]; omega
      · have HO2 : Hid (out = A ++ marks e.atr) := by
          have := HO.out
          rw [List.drop_of_length_le (by omega), show marks [] = [] from rfl, List.append_nil] at this
          exact this
        have HD2 : Hid (Bgn w #[.string e.sp, .string e.nm, .slice aA e.atr.length cA, .string e.tx, .slice aK e.ks.length cK] 25 (A ++ marks e.atr) wr) := by have := HD.out; rw [HO2.out] at this; exact this
        have HQ3 : Hid ((A ++ marks e.atr).length + (if emp e.tx e.ks then ([47, 62] : List UInt8) else [62] ++ q e.tx.data.toList).length ≤ 1000000) := by
          have := HG.out
          rw [HPP.out, List.length_append] at this
          exact this
        clear HO2 HO HD
        go_wp2_with fail
        refine (HE.out _).mono ?_
        rintro r w1 ⟨rfl, hbb⟩
        have HD1 := Lib.hid (HD2.out.call hbb)
        clear hbb HD2 x0 x1 x2 x3 x4 HE
        have hB1 := HD1.out.lt
        cases hem : emp e.tx e.ks with
        | true =>
          rw [hem, if_pos rfl] at HPP HQ3
          clear hem
          go_wp2_with fail
          refine (bd_str _ _ HD1.out.1 (by have := HQ3.out; rw [mk_size]; exact Nat.le_trans this (by decide)) hB1).mono ?_
          rintro r w2 ⟨rfl, hd, hbb⟩
          have HD2 := Lib.hid (HD1.out.step hd hbb)
          clear hd hbb HD1 hB1
          have hB1 := HD2.out.lt
          go_wp2_with fail
          refine (bd_string _ HD2.out.1 hB1).mono ?_
          rintro r w3 ⟨rfl, hbb⟩
          have HB3 := Lib.hid (HD2.out.2.1.trans (hbb.mono (Nat.le_succ _)))
          clear hbb HD2
          go_wp2_with fail
          go_ret
          exact ⟨ret_str (by rw [HPP.out]; simp), HB3.out⟩
        | false =>
          rw [hem, if_neg (by decide)] at HPP HQ3
          clear hem
          obtain ⟨x0, x1, x2, x3, x4⟩ := bx5 HD1.out.2.2
          have HT2 : Hid ((⟨(q e.tx.data.toList).toArray⟩ : ByteArray).data.toList = q e.tx.data.toList) := mk_list _
          generalize (⟨(q e.tx.data.toList).toArray⟩ : ByteArray) = t at HT HT2
          go_wp2_with fail
          refine (HT.out _).mono ?_
          rintro r w2 ⟨rfl, hbb⟩
          have HD2 := Lib.hid (HD1.out.call hbb)
          have HT3 : Hid ((⟨#[62]⟩ ++ t : ByteArray).data.toList = [62] ++ q e.tx.data.toList) := by
            show _ = _
            rw [← HT2.out]; simp
          have ht3 : t.size ≤ 1000000 := by
            have h1 := HQ3.out
            rw [← HT2.out] at h1
            simp only [List.length_append, len_size] at h1
            omega
          clear hbb HD1 x0 x1 x2 x3 x4 hB1 HT
          have hB1 := HD2.out.lt
          go_wp2_with fail
          refine (bd_str _ _ HD2.out.1 (by have h1 := HQ3.out; rw [← HT3.out, len_size] at h1; exact Nat.le_trans h1 (by decide)) hB1).mono ?_
          rintro r w3 ⟨rfl, hd, hbb⟩
          have HD3 := Lib.hid (HD2.out.step hd hbb)
          clear hd hbb HD2 hB1
          have hB1 := HD3.out.lt
          go_wp2_with fail
          refine (bd_string _ HD3.out.1 hB1).mono ?_
          rintro r w4 ⟨rfl, hbb⟩
          have HB3 := Lib.hid (HD3.out.2.1.trans (hbb.mono (Nat.le_succ _)))
          clear hbb HD3
          go_wp2_with fail
          go_ret
          exact ⟨ret_str (by rw [HPP.out, ← HT2.out]; simp), HB3.out⟩
end Go.Proofs.Ytgcjgggnmhcfcaa
