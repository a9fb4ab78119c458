/- Package tag: Put, with what it calls. Conditions: those of each theorem's head. -/
import Derived.Test.YtolnpfcncmcacaaGreatDoorBg
import Derived.Laws.EntriesVeiled
set_option maxRecDepth 100000
set_option maxHeartbeats 4000000
namespace Go.Proofs.YtolnpfcncmcacaaGreatDoor.Tp
open Go.RowKit Go.Lib Go.Shelf Tg Sg
theorem quoteOf_no (c : Nat) (w : World) (h : sp8 (By.u c) = false) (_hc : c < 256) :
    Calls Tryz.prog 131 #[.int .u8 c] w fun e w' => e = .returned (.string ByteArray.empty) ∧ w = w' := by
  have hn : ∀ k : Nat, sp8 (By.u k) = true → ((c : Int) == (k : Int)) = false := by
    intro k hs
    rw [beq_eq_false_iff_ne]
    intro e
    have : c = k := by omega
    subst this
    rw [hs] at h
    cases h
  have b38 : ((c : Int) == 38) = false := hn 38 (by decide)
  have b60 : ((c : Int) == 60) = false := hn 60 (by decide)
  have b62 : ((c : Int) == 62) = false := hn 62 (by decide)
  have b39 : ((c : Int) == 39) = false := hn 39 (by decide)
  have b34 : ((c : Int) == 34) = false := hn 34 (by decide)
  have b9 : ((c : Int) == 9) = false := hn 9 (by decide)
  have b10 : ((c : Int) == 10) = false := hn 10 (by decide)
  have b13 : ((c : Int) == 13) = false := hn 13 (by decide)
  clear hn h
  go_enter Tryz.func131, Tryz.ntmps131
  go_wp2
  go_ret
  exact ⟨rfl, rfl⟩
theorem quoteOf_at (c : Nat) (w : World) (h : c = 38 ∨ c = 60 ∨ c = 62 ∨ c = 39 ∨ c = 34 ∨ c = 9 ∨ c = 10 ∨ c = 13) :
    Calls Tryz.prog 131 #[.int .u8 c] w fun e w' => e = .returned (.string ⟨(qb (By.u c)).toArray⟩) ∧ w = w' := by
  rcases h with rfl | rfl | rfl | rfl | rfl | rfl | rfl | rfl <;>
  · go_enter Tryz.func131, Tryz.ntmps131
    go_wp2
    go_ret
    exact ⟨rfl, rfl⟩
theorem sp8_cases (c : Nat) (hc : c < 256) : (c = 38 ∨ c = 60 ∨ c = 62 ∨ c = 39 ∨ c = 34 ∨ c = 9 ∨ c = 10 ∨ c = 13) ∨ sp8 (By.u c) = false := by
  cases h : sp8 (By.u c) with
  | false => exact .inr rfl
  | true =>
    left
    have e : ∀ k : Nat, k < 256 → By.u c = By.u k → c = k := fun k hk e => by rw [← By.u_nat hc, e, By.u_nat hk]
    simp only [sp8, Bool.or_eq_true, beq_iff_eq] at h
    rcases h with ((((((h | h) | h) | h) | h) | h) | h) | h
    · exact .inl (e 38 (by decide) h)
    · exact .inr (.inl (e 60 (by decide) h))
    · exact .inr (.inr (.inl (e 62 (by decide) h)))
    · exact .inr (.inr (.inr (.inl (e 39 (by decide) h))))
    · exact .inr (.inr (.inr (.inr (.inl (e 34 (by decide) h)))))
    · exact .inr (.inr (.inr (.inr (.inr (.inl (e 9 (by decide) h))))))
    · exact .inr (.inr (.inr (.inr (.inr (.inr (.inl (e 10 (by decide) h)))))))
    · exact .inr (.inr (.inr (.inr (.inr (.inr (.inr (e 13 (by decide) h)))))))
theorem quote_any (s : ByteArray) (w : World) (hs : s.size ≤ 1048576) :
    Calls Tryz.prog 100 #[.string s] w fun e w' => e = .returned (.string ⟨(q s.data.toList).toArray⟩) ∧ Below w.heap.size w w' := by
  have HL := Lib.hid (By.len_size s)
  have HE := Lib.hid (q_len s.data.toList)
  have HN := Lib.hid (bd_new w)
  have HB0 : Hid (Below w.heap.size w (w.alloc (.cells #[.pointer none, .slice none 0 0] 98))) := (Below.refl _ w).alloc (Nat.le_refl _) _
  go_enter Tryz.func100, Tryz.ntmps100
  go_wp2_with fail
  go_loopw [8] (fun i wr => ∃ (k : Nat) (out : List UInt8), i = .int .i64 k ∧ k ≤ s.size ∧ Hid (out ++ q (s.data.toList.drop k) = q s.data.toList) ∧ Hid (Bd w.heap.size w.heap.size out wr) ∧ Hid (Below w.heap.size w wr)) (fun i _ => s.size - (RowKit.intOf i).toNat)
  case atStart => exact ⟨0, [], rfl, by omega, (by show _ = _; simp), HN.out, HB0.out⟩
  case round =>
    obtain ⟨k, out, rfl, hk, HO, HD, HB⟩ := hrel
    by_cases hlt : k < s.size
    · obtain ⟨b, hdr, hnb⟩ := By.drop_cons s.data.toList k (by rw [HL.out]; exact hlt)
      have hbk := By.byte_nb s k hlt
      have ho := HO.out
      have hlen := congrArg List.length ho
      rw [hdr, q_cons] at ho hlen
      simp only [List.length_append] at hlen
      have hqb := qb_len b
      have hE := HE.out.2
      rw [HL.out] at hE
      have hmax : out.length + 6 ≤ 8388608 := by omega
      have x256 := By.nat_lt b
      rw [hnb] at hbk
      have hub := By.nat_u b
      have HZ : Hid (w.heap.size ≤ wr.heap.size) := HB.out.size
      rcases sp8_cases b.toNat x256 with h8 | hno
      · have HC := Lib.hid (fun W => quoteOf_at b.toNat W h8)
        have hne : (⟨(qb (By.u b.toNat)).toArray⟩ : ByteArray).toList.isEmpty = false := by
          rw [ByteArray.toList_eq]
          cases hq : qb (By.u b.toNat) with
          | nil => have := (qb_len (By.u b.toNat)).1; rw [hq] at this; simp at this
          | cons _ _ => rfl
        have hsz : (⟨(qb (By.u b.toNat)).toArray⟩ : ByteArray).size ≤ 6 := by
          have := (qb_len (By.u b.toNat)).2
          rw [Lib.size_eq]; simpa using this
        have HO2 : Hid ((out ++ (⟨(qb (By.u b.toNat)).toArray⟩ : ByteArray).data.toList) ++ q (s.data.toList.drop (k + 1)) = q s.data.toList) := by
          show _ = _
          rw [← ho, hub]; simp
        generalize (⟨(qb (By.u b.toNat)).toArray⟩ : ByteArray) = t at HC hne hsz HO2
        generalize b.toNat = y at hbk x256 HC
        clear ho hlen hqb hE hdr hnb hub h8 HE
        go_wp2_with fail
        refine (HC.out _).mono ?_
        rintro r w1 ⟨rfl, rfl⟩
        go_wp2_with fail
        refine (bd_str t _ HD.out (by omega) HZ.out).mono ?_
        rintro r w1 ⟨rfl, hd1, hb1⟩
        have HD1 := Lib.hid hd1
        have HB1 := Lib.hid (HB.out.trans hb1)
        clear hd1 hb1
        go_wp2_with fail
        go_roundw
        case rel => exact ⟨k + 1, _, by go_num, by omega, HO2.out, HD1.out, HB1.out⟩
        case measure => simp [RowKit.intOf]; omega
      · have HC := Lib.hid (fun W => quoteOf_no b.toNat W hno x256)
        have HO2 : Hid ((out ++ [By.u b.toNat]) ++ q (s.data.toList.drop (k + 1)) = q s.data.toList) := by
          show _ = _
          rw [← ho, hub]
          rw [hub] at hno
          rw [qb_plain b hno]; simp
        generalize b.toNat = y at hbk x256 HC HO2
        clear ho hlen hqb hE hdr hnb hub hno HE
        go_wp2_with fail
        refine (HC.out _).mono ?_
        rintro r w1 ⟨rfl, rfl⟩
        go_wp2_with fail
        refine (bd_write y _ x256 HD.out (by omega) HZ.out).mono ?_
        rintro r w1 ⟨rfl, hd1, hb1⟩
        have HD1 := Lib.hid hd1
        have HB1 := Lib.hid (HB.out.trans hb1)
        clear hd1 hb1
        go_wp2_with fail
        go_roundw
        case rel => exact ⟨k + 1, _, by go_num, by omega, HO2.out, HD1.out, HB1.out⟩
        case measure => simp [RowKit.intOf]; omega
    · have HO2 : Hid (out = q s.data.toList) := by
        have := HO.out
        rw [List.drop_of_length_le (by rw [HL.out]; omega), q_nil, List.append_nil] at this
        exact this
      have HZ : Hid (w.heap.size ≤ wr.heap.size) := HB.out.size
      go_wp2_with fail
      refine (bd_string _ HD.out HZ.out).mono ?_
      rintro r w1 ⟨rfl, hb1⟩
      have HB1 := Lib.hid (HB.out.trans hb1)
      clear hb1
      go_wp2_with fail
      go_ret
      exact ⟨by rw [HO2.out]; rfl, HB1.out⟩
theorem mark_any (n v : ByteArray) (w : World) (hn : n.size ≤ 1048576) (hv : v.size ≤ 1048576) :
    Calls Tryz.prog 98 #[.string n, .string v] w fun e w' => e = .returned (.string ⟨(Tg.mark n.data.toList v.data.toList).toArray⟩) ∧ Below w.heap.size w w' := by
  have HQ := Lib.hid (fun W => quote_any v W hv)
  have hz : (⟨(q v.data.toList).toArray⟩ : ByteArray).size ≤ 6291456 := by
    have := (q_len v.data.toList).2
    rw [Lib.size_eq]
    simp only [len_size] at this ⊢
    omega
  have HT : Hid ((⟨(q v.data.toList).toArray⟩ : ByteArray).data.toList = q v.data.toList) := by show _ = _; simp
  generalize (⟨(q v.data.toList).toArray⟩ : ByteArray) = t at HQ hz HT
  have HM : Hid ((((⟨#[32]⟩ ++ n) ++ ⟨#[61, 39]⟩) ++ t) ++ ⟨#[39]⟩ = (⟨(Tg.mark n.data.toList v.data.toList).toArray⟩ : ByteArray)) := by
    show _ = _
    apply bytes_eq
    simp [HT.out, Tg.mark]
  go_enter Tryz.func98, Tryz.ntmps98
  go_wp2_with fail
  refine (HQ.out _).mono ?_
  rintro r w1 ⟨rfl, hb1⟩
  have HB1 := Lib.hid hb1
  clear hb1
  go_wp2_with fail
  go_ret
  exact ⟨by rw [← HM.out]; rfl, HB1.out⟩
end Go.Proofs.YtolnpfcncmcacaaGreatDoor.Tp
namespace Go.Proofs.YtolnpfcncmcacaaGreatDoor.Tp
open Go.RowKit Go.Lib Go.Shelf Tg
def ev (sp nm : ByteArray) (aA : Option Addr) (n cA : Nat) (tx : ByteArray) (aK : Option Addr) (m cK : Nat) : Value := .agg #[.string sp, .string nm, .slice aA n cA, .string tx, .slice aK m cK]
theorem isEmpty_any (sp nm : ByteArray) (aA : Option Addr) (n cA : Nat) (tx : ByteArray) (aK : Option Addr) (m cK : Nat) (w : World) (b : Bool) (hb : (tx.data.toList.isEmpty && decide (m = 0)) = b) :
    Calls Tryz.prog 99 #[.agg #[.string sp, .string nm, .slice aA n cA, .string tx, .slice aK m cK]] w fun e w' => e = .returned (.bool b) ∧ Below w.heap.size w w' := by
  cases ht : tx.data.toList.isEmpty with
  | false =>
    have e1 : tx.toList.isEmpty = false := by rw [ByteArray.toList_eq]; exact ht
    have E : Hid (b = false) := by show _ = _; rw [← hb, ht]; rfl
    clear ht hb
    go_enter Tryz.func99, Tryz.ntmps99
    go_wp2
    go_ret
    exact ⟨by rw [E.out]; rfl, (Below.refl _ _).alloc (Nat.le_refl _) _⟩
  | true =>
    have e1 : tx.toList.isEmpty = true := by rw [ByteArray.toList_eq]; exact ht
    by_cases h0 : m = 0
    · have f0 : ((m : Int) == 0) = true := by rw [h0]; rfl
      have E : Hid (b = true) := by show _ = _; rw [← hb, ht, h0]; rfl
      clear ht hb h0
      go_enter Tryz.func99, Tryz.ntmps99
      go_wp2
      go_ret
      exact ⟨by rw [E.out]; rfl, (Below.refl _ _).alloc (Nat.le_refl _) _⟩
    · have f0 : ((m : Int) == 0) = false := by rw [beq_eq_false_iff_ne]; omega
      have E : Hid (b = false) := by show _ = _; rw [← hb, ht]; simp [h0]
      clear ht hb h0
      go_enter Tryz.func99, Tryz.ntmps99
      go_wp2
      go_ret
      exact ⟨by rw [E.out]; rfl, (Below.refl _ _).alloc (Nat.le_refl _) _⟩
theorem emp_eq (tx : ByteArray) (ks : List El) : (tx.data.toList.isEmpty && decide (ks.length = 0)) = emp tx ks := by
  unfold emp
  cases ks <;> simp
theorem end_any (e : El) (aA : Option Addr) (n cA : Nat) (aK : Option Addr) (cK : Nat) (w : World) (hnm : e.nm.size ≤ 1048576) :
    Calls Tryz.prog 68 #[.agg #[.string e.sp, .string e.nm, .slice aA n cA, .string e.tx, .slice aK e.ks.length cK]] w fun r w' => r = .returned (.string ⟨(fin e).toArray⟩) ∧ Below w.heap.size w w' := by
  have HE := Lib.hid (fun W => isEmpty_any e.sp e.nm aA n cA e.tx aK e.ks.length cK W _ (emp_eq e.tx e.ks))
  have HF : Hid (fin e = if emp e.tx e.ks then [] else [60, 47] ++ e.nm.data.toList ++ [62]) := rfl
  have HM : Hid (((⟨#[60, 47]⟩ ++ e.nm) ++ ⟨#[62]⟩ : ByteArray) = ⟨([60, 47] ++ e.nm.data.toList ++ [62]).toArray⟩) := by
    show _ = _
    apply bytes_eq
    simp
  cases hb : emp e.tx e.ks with
  | true =>
    rw [hb] at HE HF
    clear hb
    generalize e.ks.length = m at HE
    generalize e.sp = sp at HE
    generalize e.tx = tx at HE
    generalize e.nm = nm at HE
    clear hnm
    go_enter Tryz.func68, Tryz.ntmps68
    go_wp2_with fail
    refine (HE.out _).mono ?_
    rintro r w1 ⟨rfl, hb1⟩
    have HB1 := Lib.hid (((Below.refl _ w).alloc (Nat.le_refl _) _).trans (hb1.mono (by simp)))
    clear hb1
    go_wp2_with fail
    go_ret
    exact ⟨by rw [HF.out]; rfl, HB1.out⟩
  | false =>
    rw [hb] at HE HF
    clear hb
    generalize e.ks.length = m at HE
    generalize e.sp = sp at HE
    generalize e.tx = tx at HE
    generalize e.nm = nm at HE HF HM hnm
    go_enter Tryz.func68, Tryz.ntmps68
    go_wp2_with fail
    refine (HE.out _).mono ?_
    rintro r w1 ⟨rfl, hb1⟩
    have HB1 := Lib.hid (((Below.refl _ w).alloc (Nat.le_refl _) _).trans (hb1.mono (by simp)))
    obtain ⟨hc, hf⟩ := bcell hb1
    clear hb1
    go_wp2_with fail
    go_ret
    exact ⟨by rw [HF.out, if_neg (by simp), ← HM.out]; rfl, HB1.out⟩
theorem beg_parts (e : El) (s : ByteArray) : beg e s = (([60] ++ e.nm.data.toList) ++ (if e.sp = s then [] else Tg.mark xmlns e.sp.data.toList)) ++ marks e.atr ++ (if emp e.tx e.ks then [47, 62] else [62] ++ q e.tx.data.toList) := rfl
theorem marks_drop {l : List (ByteArray × ByteArray)} {k : Nat} (h : k < l.length) : marks (l.drop k) = Tg.mark l[k].1.data.toList l[k].2.data.toList ++ marks (l.drop (k + 1)) := by
  rw [List.drop_eq_getElem_cons h]
  unfold marks
  rw [List.flatMap_cons]
theorem bd_new1 (w : World) (o : Obj) : Bd (w.heap.size + 1) (w.heap.size + 1) [] ((w.alloc o).alloc (.cells #[.pointer none, .slice none 0 0] 98)) := by
  have := bd_new (w.alloc o)
  simpa using this
theorem bx5 {w : World} {b : Nat} {v0 v1 v2 v3 v4 : Value} {t : TypeId} {fz : Nat × Nat} (h : w.heap[b]? = some (.cells #[v0, v1, v2, v3, v4] t fz)) :
    w.cell? ⟨b, 0, none⟩ = some v0 ∧ w.cell? ⟨b, 1, none⟩ = some v1 ∧ w.cell? ⟨b, 2, none⟩ = some v2 ∧ w.cell? ⟨b, 3, none⟩ = some v3 ∧ w.cell? ⟨b, 4, none⟩ = some v4 := by
  refine ⟨?_, ?_, ?_, ?_, ?_⟩ <;> (rw [Lib.cell_of_heap h]; rfl)
theorem box_new (w : World) (cs : Array Value) (t : TypeId) : (w.alloc (.cells cs t)).heap[w.heap.size]? = some (.cells cs t (0, 0)) := heap_alloc_new w _
theorem len_front {a b c t : List UInt8} {n : Nat} (h : a ++ b = c) (h2 : (c ++ t).length ≤ n) : a.length ≤ n := by
  subst h
  rw [List.length_append, List.length_append] at h2
  omega
theorem ret_str {a b : List UInt8} (h : a = b) : Ending.returned (.string ⟨a.toArray⟩) = Ending.returned (.string ⟨b.toArray⟩) := by rw [h]
theorem mk_size (l : List UInt8) : (⟨l.toArray⟩ : ByteArray).size = l.length := by rw [Lib.size_eq]
theorem mk_list (l : List UInt8) : (⟨l.toArray⟩ : ByteArray).data.toList = l := by simp
def Bgn (w : World) (cs : Array Value) (t : TypeId) (out : List UInt8) (wr : World) : Prop := Bd (w.heap.size + 1) (w.heap.size + 1) out wr ∧ Below w.heap.size w wr ∧ wr.heap[w.heap.size]? = some (.cells cs t (0, 0))
theorem Bgn.new (w : World) (cs : Array Value) (t : TypeId) : Bgn w cs t [] ((w.alloc (.cells cs t)).alloc (.cells #[.pointer none, .slice none 0 0] 98)) :=
  ⟨bd_new1 w _, ((Below.refl _ w).alloc (Nat.le_refl _) _).alloc (by simp) _, (Below.heap_alloc _ _ _ (by simp)).trans (box_new w cs t)⟩
theorem Bgn.step {w : World} {cs : Array Value} {t : TypeId} {out out' : List UInt8} {wr w' : World} (h : Bgn w cs t out wr) (hd : Bd (w.heap.size + 1) (w.heap.size + 1) out' w') (hb : Below (w.heap.size + 1) wr w') : Bgn w cs t out' w' :=
  ⟨hd, h.2.1.trans (hb.mono (Nat.le_succ _)), (hb.block _ (Nat.lt_succ_self _)).trans h.2.2⟩
theorem Bgn.call {w : World} {cs : Array Value} {t : TypeId} {out : List UInt8} {wr w' : World} (h : Bgn w cs t out wr) (hb : Below wr.heap.size wr w') : Bgn w cs t out w' :=
  h.step (h.1.below hb) (hb.mono (Nat.le_of_lt h.1.lt))
theorem Bgn.alloc {w : World} {cs : Array Value} {t : TypeId} {out : List UInt8} {wr : World} (h : Bgn w cs t out wr) (o : Obj) : Bgn w cs t out (wr.alloc o) := h.call ((Below.refl _ wr).alloc (Nat.le_refl _) o)
theorem Bgn.lt {w : World} {cs : Array Value} {t : TypeId} {out : List UInt8} {wr : World} (h : Bgn w cs t out wr) : w.heap.size + 1 ≤ wr.heap.size := Nat.le_of_lt h.1.lt
theorem begin_any (e : El) (s : ByteArray) (aA : Option Addr) (cA : Nat) (aK : Option Addr) (cK : Nat) (w : World) (ht : wt e ≤ 20000) (hA : AtIn w.heap.size w aA e.atr) :
    Calls Tryz.prog 67 #[.agg #[.string e.sp, .string e.nm, .slice aA e.atr.length cA, .string e.tx, .slice aK e.ks.length cK], .string s] w fun r w' => r = .returned (.string ⟨(beg e s).toArray⟩) ∧ Below w.heap.size w w' := by
  have hw := wt_eq e
  have hnm : e.nm.size ≤ 20000 := by omega
  have han : e.atr.length ≤ 20000 := by omega
  have HG : Hid ((beg e s).length ≤ 1000000) := by have := beg_len e s; show _ ≤ _; omega
  have HP := Lib.hid (beg_parts e s)
  have HE := Lib.hid (fun W => isEmpty_any e.sp e.nm aA e.atr.length cA e.tx aK e.ks.length cK W _ (emp_eq e.tx e.ks))
  have HT := Lib.hid (fun W => quote_any e.tx W (by omega))
  have HS := Lib.hid (fun W => mark_any ⟨#[120, 109, 108, 110, 115]⟩ e.sp W (by decide) (by omega))
  have HAM : Hid (∀ a ∈ e.atr, a.1.size ≤ 1048576 ∧ a.2.size ≤ 1048576) := fun a ha => by have := wtA_mem ha; omega
  have HA := Lib.hid hA
  have HN := Lib.hid (Bgn.new w #[.string e.sp, .string e.nm, .slice aA e.atr.length cA, .string e.tx, .slice aK e.ks.length cK] 48)
  have HZ0 : Hid ((⟨#[60]⟩ ++ e.nm : ByteArray).data.toList = [60] ++ e.nm.data.toList ∧ (⟨#[60]⟩ ++ e.nm : ByteArray).size ≤ 20001) := by
    constructor
    · simp
    · rw [Lib.size_eq]; simp; omega
  have hB1 : w.heap.size + 1 ≤ ((w.alloc (.cells #[.string e.sp, .string e.nm, .slice aA e.atr.length cA, .string e.tx, .slice aK e.ks.length cK] 48)).alloc (.cells #[.pointer none, .slice none 0 0] 98)).heap.size := by simp
  have HZM : Hid ((⟨(Tg.mark xmlns e.sp.data.toList).toArray⟩ : ByteArray).data.toList = Tg.mark xmlns e.sp.data.toList ∧ (⟨(Tg.mark xmlns e.sp.data.toList).toArray⟩ : ByteArray).size ≤ 200000) := by
    refine ⟨mk_list _, ?_⟩
    have h1 := mark_len xmlns e.sp.data.toList
    have h2 : xmlns.length = 5 := rfl
    rw [len_size] at h1
    rw [mk_size]
    omega
  have HS2 : Hid (∀ W, Calls Tryz.prog 98 #[.string ⟨#[120, 109, 108, 110, 115]⟩, .string e.sp] W fun r w' => r = .returned (.string ⟨(Tg.mark xmlns e.sp.data.toList).toArray⟩) ∧ Below W.heap.size W w') := HS.out
  clear HS
  generalize (⟨(Tg.mark xmlns e.sp.data.toList).toArray⟩ : ByteArray) = tm at HZM HS2
  clear hw ht hA
  by_cases hsp : e.sp = s
  case' pos =>
    have n1 : (e.sp.toList == s.toList) = true := by rw [hsp]; simp
    have n2 : (e.sp.toList != s.toList) = false := by rw [hsp]; simp
    have HPP : Hid (beg e s = ([60] ++ e.nm.data.toList) ++ marks e.atr ++ (if emp e.tx e.ks then [47, 62] else [62] ++ q e.tx.data.toList)) := by
      show _ = _
      rw [HP.out, if_pos hsp, List.append_nil]
    clear hsp HP
    go_enter Tryz.func67, Tryz.ntmps67
    go_wp2_with fail
    refine (bd_str _ _ HN.out.1 (by have := HZ0.out.2; simp only [List.length_nil]; omega) hB1).mono ?_
    rintro r wz ⟨rfl, hd, hb⟩
    have HD := Lib.hid (HN.out.step hd hb)
    obtain ⟨x0, x1, x2, x3, x4⟩ := bx5 HD.out.2.2
    clear hd hb hB1 HN
    have HD2 : Hid (Bgn w #[.string e.sp, .string e.nm, .slice aA e.atr.length cA, .string e.tx, .slice aK e.ks.length cK] 48 ([60] ++ e.nm.data.toList) wz) := by
      have := HD.out
      rw [HZ0.out.1] at this
      exact this
    have HPQ : Hid (([60] ++ e.nm.data.toList).length ≤ 20001) := by show _ ≤ _; simp; omega
    clear HD HZ0 HS2 HZM
    generalize [60] ++ e.nm.data.toList = A at HD2 HPQ HPP
    go_wp2_with fail
  case' neg =>
    have n1 : (e.sp.toList == s.toList) = false := by
      rw [beq_eq_false_iff_ne]
      intro h
      rw [ByteArray.toList_eq, ByteArray.toList_eq] at h
      exact hsp (bytes_eq h)
    have n2 : (e.sp.toList != s.toList) = true := by rw [bne, n1]; rfl
    have HPP : Hid (beg e s = (([60] ++ e.nm.data.toList) ++ Tg.mark xmlns e.sp.data.toList) ++ marks e.atr ++ (if emp e.tx e.ks then [47, 62] else [62] ++ q e.tx.data.toList)) := by
      show _ = _
      rw [HP.out, if_neg hsp]
    clear hsp HP
    go_enter Tryz.func67, Tryz.ntmps67
    go_wp2_with fail
    refine (bd_str _ _ HN.out.1 (by have := HZ0.out.2; simp only [List.length_nil]; omega) hB1).mono ?_
    rintro r w1 ⟨rfl, hd, hb⟩
    have HD := Lib.hid (HN.out.step hd hb)
    obtain ⟨x0, x1, x2, x3, x4⟩ := bx5 HD.out.2.2
    clear hd hb hB1 HN
    go_wp2_with fail
    refine (HS2.out _).mono ?_
    rintro r w2 ⟨rfl, hb⟩
    have HD1 := Lib.hid (HD.out.call hb)
    have hB1 := HD1.out.lt
    clear hb HD x0 x1 x2 x3 x4
    go_wp2_with fail
    refine (bd_str _ _ HD1.out.1 (by have h1 := HZ0.out.2; have h2 := HZM.out.2; rw [List.nil_append, len_size]; omega) hB1).mono ?_
    rintro r wz ⟨rfl, hd, hb⟩
    have HD := Lib.hid (HD1.out.step hd hb)
    obtain ⟨x0, x1, x2, x3, x4⟩ := bx5 HD.out.2.2
    have HD2 : Hid (Bgn w #[.string e.sp, .string e.nm, .slice aA e.atr.length cA, .string e.tx, .slice aK e.ks.length cK] 48 (([60] ++ e.nm.data.toList) ++ Tg.mark xmlns e.sp.data.toList) wz) := by
      have := HD.out
      rw [List.nil_append, HZ0.out.1, HZM.out.1] at this
      exact this
    have HPQ : Hid ((([60] ++ e.nm.data.toList) ++ Tg.mark xmlns e.sp.data.toList).length ≤ 300000) := by
      have h1 := HZM.out.1
      have h2 := HZM.out.2
      show _ ≤ _
      rw [← h1, List.length_append, len_size]; simp; omega
    clear hd hb hB1 HD1 HD HZ0 HS2 HZM
    generalize ([60] ++ e.nm.data.toList) ++ Tg.mark xmlns e.sp.data.toList = A at HD2 HPQ HPP
    go_wp2_with fail
  all_goals
    clear x0 x1 x2 x3 x4
    go_loopw [23] (fun i wr => ∃ (k : Nat) (out : List UInt8), i = .int .i64 k ∧ k ≤ e.atr.length ∧ Hid (out ++ marks (e.atr.drop k) = A ++ marks e.atr) ∧ Hid (Bgn w #[.string e.sp, .string e.nm, .slice aA e.atr.length cA, .string e.tx, .slice aK e.ks.length cK] 48 out wr)) (fun i _ => e.atr.length - (RowKit.intOf i).toNat)
    case atStart => exact ⟨0, A, rfl, Nat.zero_le _, rfl, HD2.out⟩
    case round =>
      obtain ⟨k, out, rfl, hk, HO, HD⟩ := hrel
      obtain ⟨x0, x1, x2, x3, x4⟩ := bx5 HD.out.2.2
      by_cases hlt : k < e.atr.length
      · obtain ⟨b, o, rfl, hb, y0, y1⟩ := (HA.out.below HD.out.2.1) k hlt
        have HO2 : Hid ((out ++ Tg.mark e.atr[k].1.data.toList e.atr[k].2.data.toList) ++ marks (e.atr.drop (k + 1)) = A ++ marks e.atr) := by
          have := HO.out
          rw [marks_drop hlt] at this
          show _ = _
          rw [List.append_assoc]; exact this
        have HL : Hid ((out ++ Tg.mark e.atr[k].1.data.toList e.atr[k].2.data.toList).length ≤ 1000000) := by
          have h2 := HG.out
          rw [HPP.out] at h2
          exact len_front HO2.out h2
        obtain ⟨z1, z2⟩ := HAM.out _ (List.getElem_mem hlt)
        have HM := Lib.hid (fun W => mark_any e.atr[k].1 e.atr[k].2 W z1 z2)
        have HT2 := Lib.hid (mk_list (Tg.mark e.atr[k].1.data.toList e.atr[k].2.data.toList))
        generalize (⟨(Tg.mark e.atr[k].1.data.toList e.atr[k].2.data.toList).toArray⟩ : ByteArray) = t at HM HT2
        go_wp2_with fail
        refine (HM.out _).mono ?_
        rintro r w1 ⟨rfl, hbb⟩
        have HD1 := Lib.hid ((HD.out.alloc _).call hbb)
        have hB1 := HD1.out.lt
        clear hbb HD x0 x1 x2 x3 x4 y0 y1
        go_wp2_with fail
        refine (bd_str t _ HD1.out.1 (by have h1 := HL.out; have h2 := congrArg List.length HT2.out; rw [List.length_append] at h1; rw [len_size] at h2; omega) hB1).mono ?_
        rintro r w2 ⟨rfl, hd, hbb⟩
        have HD2 : Hid (Bgn w #[.string e.sp, .string e.nm, .slice (some ⟨b, o, none⟩) e.atr.length cA, .string e.tx, .slice aK e.ks.length cK] 48 (out ++ Tg.mark e.atr[k].1.data.toList e.atr[k].2.data.toList) w2) := by
          have := HD1.out.step hd hbb
          rw [HT2.out] at this
          exact this
        clear hd hbb HD1 hB1
        go_wp2_with fail
        go_roundw
        case rel => exact ⟨k + 1, _, by go_num, by omega, HO2.out, HD2.out⟩
        case measure => simp [RowKit.intOf]; omega
      · have HO2 : Hid (out = A ++ marks e.atr) := by
          have := HO.out
          rw [List.drop_of_length_le (by omega), show marks [] = [] from rfl, List.append_nil] at this
          exact this
        have HD2 : Hid (Bgn w #[.string e.sp, .string e.nm, .slice aA e.atr.length cA, .string e.tx, .slice aK e.ks.length cK] 48 (A ++ marks e.atr) wr) := by have := HD.out; rw [HO2.out] at this; exact this
        have HQ3 : Hid ((A ++ marks e.atr).length + (if emp e.tx e.ks then ([47, 62] : List UInt8) else [62] ++ q e.tx.data.toList).length ≤ 1000000) := by
          have := HG.out
          rw [HPP.out, List.length_append] at this
          exact this
        clear HO2 HO HD
        go_wp2_with fail
        refine (HE.out _).mono ?_
        rintro r w1 ⟨rfl, hbb⟩
        have HD1 := Lib.hid (HD2.out.call hbb)
        clear hbb HD2 x0 x1 x2 x3 x4 HE
        have hB1 := HD1.out.lt
        cases hem : emp e.tx e.ks with
        | true =>
          rw [hem, if_pos rfl] at HPP HQ3
          clear hem
          go_wp2_with fail
          refine (bd_str _ _ HD1.out.1 (by have := HQ3.out; rw [mk_size]; exact Nat.le_trans this (by decide)) hB1).mono ?_
          rintro r w2 ⟨rfl, hd, hbb⟩
          have HD2 := Lib.hid (HD1.out.step hd hbb)
          clear hd hbb HD1 hB1
          have hB1 := HD2.out.lt
          go_wp2_with fail
          refine (bd_string _ HD2.out.1 hB1).mono ?_
          rintro r w3 ⟨rfl, hbb⟩
          have HB3 := Lib.hid (HD2.out.2.1.trans (hbb.mono (Nat.le_succ _)))
          clear hbb HD2
          go_wp2_with fail
          go_ret
          exact ⟨ret_str (by rw [HPP.out]; simp), HB3.out⟩
        | false =>
          rw [hem, if_neg (by decide)] at HPP HQ3
          clear hem
          obtain ⟨x0, x1, x2, x3, x4⟩ := bx5 HD1.out.2.2
          have HT2 : Hid ((⟨(q e.tx.data.toList).toArray⟩ : ByteArray).data.toList = q e.tx.data.toList) := mk_list _
          generalize (⟨(q e.tx.data.toList).toArray⟩ : ByteArray) = t at HT HT2
          go_wp2_with fail
          refine (HT.out _).mono ?_
          rintro r w2 ⟨rfl, hbb⟩
          have HD2 := Lib.hid (HD1.out.call hbb)
          have HT3 : Hid ((⟨#[62]⟩ ++ t : ByteArray).data.toList = [62] ++ q e.tx.data.toList) := by
            show _ = _
            rw [← HT2.out]; simp
          have ht3 : t.size ≤ 1000000 := by
            have h1 := HQ3.out
            rw [← HT2.out] at h1
            simp only [List.length_append, len_size] at h1
            omega
          clear hbb HD1 x0 x1 x2 x3 x4 hB1 HT
          have hB1 := HD2.out.lt
          go_wp2_with fail
          refine (bd_str _ _ HD2.out.1 (by have h1 := HQ3.out; rw [← HT3.out, len_size] at h1; exact Nat.le_trans h1 (by decide)) hB1).mono ?_
          rintro r w3 ⟨rfl, hd, hbb⟩
          have HD3 := Lib.hid (HD2.out.step hd hbb)
          clear hd hbb HD2 hB1
          have hB1 := HD3.out.lt
          go_wp2_with fail
          refine (bd_string _ HD3.out.1 hB1).mono ?_
          rintro r w4 ⟨rfl, hbb⟩
          have HB3 := Lib.hid (HD3.out.2.1.trans (hbb.mono (Nat.le_succ _)))
          clear hbb HD3
          go_wp2_with fail
          go_ret
          exact ⟨ret_str (by rw [HPP.out, ← HT2.out]; simp), HB3.out⟩
end Go.Proofs.YtolnpfcncmcacaaGreatDoor.Tp
namespace Go.Proofs.YtolnpfcncmcacaaGreatDoor.Tp
open Go.RowKit Go.Lib Go.Shelf Tg
theorem AtIn.up {B B' : Nat} {w : World} {a : Option Addr} {l : List (ByteArray × ByteArray)} (h : AtIn B w a l) (hb : B ≤ B') : AtIn B' w a l := by
  intro i hi
  obtain ⟨b, o, ha, hlt, hf⟩ := h i hi
  exact ⟨b, o, ha, Nat.lt_of_lt_of_le hlt hb, hf⟩
theorem cell_alloc {w : World} {b o : Nat} {v : Value} (h : w.cell? ⟨b, o, none⟩ = some v) (x : Obj) : (w.alloc x).cell? ⟨b, o, none⟩ = some v :=
  (World.cell?_of_block (Below.heap_alloc w x b (World.block_lt_of_cell? w _ h))).trans h
theorem puts_drop {l : List El} {k : Nat} (h : k < l.length) (s : ByteArray) : puts (l.drop k) s = put l[k] s ++ puts (l.drop (k + 1)) s := by
  rw [List.drop_eq_getElem_cons h, puts_cons]
theorem heap_lt {w : World} {b : Nat} {o : Obj} (h : w.heap[b]? = some o) : b < w.heap.size := (Array.getElem?_eq_some_iff.1 h).1
structure Pt (B O N : Nat) (cs : Array Value) (w : World) (out : List UInt8) (wr : World) : Prop where
  bf : Bf B O out wr
  kp : Kp B O w wr
  box : wr.heap[N]? = some (.cells cs 48 (0, 0))
theorem Pt.call {B O N : Nat} {cs : Array Value} {w wr w' : World} {out : List UInt8} (h : Pt B O N cs w out wr) (hb : Below wr.heap.size wr w') (hB : B ≤ O) : Pt B O N cs w out w' :=
  ⟨h.bf.below hb, h.kp.trans (Kp.of hb (Nat.le_trans hB (Nat.le_of_lt h.bf.lt))), (hb.block N (heap_lt h.box)).trans h.box⟩
theorem Pt.step {B O N : Nat} {cs : Array Value} {w wr w' : World} {out out' : List UInt8} (h : Pt B O N cs w out wr) (hf : Bf B O out' w') (hk : Kp B O wr w') (hN : N ≠ O) : Pt B O N cs w out' w' :=
  ⟨hf, h.kp.trans hk, hk.block h.box hN (by decide)⟩
theorem Pt.alloc {B O N : Nat} {cs : Array Value} {w wr : World} {out : List UInt8} (h : Pt B O N cs w out wr) (hB : B ≤ O) (o : Obj) : Pt B O N cs w out (wr.alloc o) := h.call ((Below.refl _ wr).alloc (Nat.le_refl _) o) hB
theorem Pt.le {B O N : Nat} {cs : Array Value} {w wr : World} {out : List UInt8} (h : Pt B O N cs w out wr) (hB : B ≤ O) : B ≤ wr.heap.size := Nat.le_trans hB (Nat.le_of_lt h.bf.lt)
theorem putC_any (e : El) : ∀ (B O U : Nat) (w : World) (v : Value) (s : ByteArray) (l : List UInt8), In B w e v → wt e ≤ 20000 → B ≤ O → U ≠ O → Bf B O l w →
    w.heap[U]? = some (.cells #[.func (.func 65) #[] #[.pointer (some ⟨O, 0, none⟩), .pointer (some ⟨U, 0, none⟩)]] 99 (0, 0)) → l.length + (put e s).length ≤ 1000000 →
    Calls Tryz.prog 65 #[v, .string s, .pointer (some ⟨O, 0, none⟩), .pointer (some ⟨U, 0, none⟩)] w fun r w' => r = .returned (.tuple #[]) ∧ Bf B O (l ++ put e s) w' ∧ Kp B O w w' := by
  refine El.ind (P := fun e => ∀ (B O U : Nat) (w : World) (v : Value) (s : ByteArray) (l : List UInt8), In B w e v → wt e ≤ 20000 → B ≤ O → U ≠ O → Bf B O l w →
    w.heap[U]? = some (.cells #[.func (.func 65) #[] #[.pointer (some ⟨O, 0, none⟩), .pointer (some ⟨U, 0, none⟩)]] 99 (0, 0)) → l.length + (put e s).length ≤ 1000000 →
    Calls Tryz.prog 65 #[v, .string s, .pointer (some ⟨O, 0, none⟩), .pointer (some ⟨U, 0, none⟩)] w fun r w' => r = .returned (.tuple #[]) ∧ Bf B O (l ++ put e s) w' ∧ Kp B O w w') (fun sp nm atr tx ks ih => ?_) e
  intro B O U w v s l hin ht hBO hUO hbf hU hlen
  generalize hE : El.mk sp nm atr tx ks = E at hin ht hlen
  obtain rfl : E.ks = ks := by rw [← hE]; rfl
  clear hE
  obtain ⟨aA, cA, aK, cK, rfl, _, hkm, hat, hks⟩ := hin.out
  have hw := wt_eq E
  have hwk := wts_len E.ks
  have hnk : E.ks.length ≤ 20000 := by omega
  have IH := Lib.hid ih
  have HBO := Lib.hid hBO
  have HUO := Lib.hid hUO
  have hOw : O < w.heap.size := hbf.lt
  have HNO : Hid (w.heap.size ≠ O) := by show _ ≠ _; omega
  have HBE := Lib.hid (begin_any E s aA cA aK cK · ht ·)
  have HFI := Lib.hid (fun W => end_any E aA E.atr.length cA aK cK W (by omega))
  have HKS := Lib.hid hks
  have HAT := Lib.hid hat
  have HWT : Hid (∀ k ∈ E.ks, wt k ≤ 20000) := fun k hk => by have := wts_mem hk; omega
  have HU := Lib.hid hU
  have HP0 : Hid (Pt B O w.heap.size #[.string E.sp, .string E.nm, .slice aA E.atr.length cA, .string E.tx, .slice aK E.ks.length cK] w l (w.alloc (.cells #[.string E.sp, .string E.nm, .slice aA E.atr.length cA, .string E.tx, .slice aK E.ks.length cK] 48))) :=
    ⟨hbf.alloc _, (Kp.refl _ _ _).alloc (by omega) _, box_new w _ _⟩
  have HPE := Lib.hid (put_eq E s)
  have HLN := Lib.hid hlen
  clear hw hwk ih hin hbf hUO hU hat hks hkm ht hlen hBO
  go_enter Tryz.func65, Tryz.ntmps65
  go_wp2_with fail
  refine (HBE.out _ ((HAT.out.below HP0.out.kp.below).up (HP0.out.le HBO.out))).mono ?_
  rintro r w1 ⟨rfl, hb⟩
  have HP1 := Lib.hid (HP0.out.call hb HBO.out)
  have HT1 := Lib.hid (mk_list (beg E s))
  clear hb HP0
  generalize (⟨(beg E s).toArray⟩ : ByteArray) = tb at HT1
  go_wp2_with fail
  have HLP : Hid (l.length + ((beg E s).length + (puts E.ks E.sp).length + (fin E).length) ≤ 1000000) := by
    have := HLN.out
    rw [HPE.out, List.length_append, List.length_append] at this
    exact this
  refine (bf_str tb _ HP1.out.bf (by have h1 := HLP.out; rw [← HT1.out, len_size] at h1; omega) (HP1.out.le HBO.out)).mono ?_
  rintro r w2 ⟨rfl, hf, hk⟩
  have HP2 : Hid (Pt B O w.heap.size #[.string E.sp, .string E.nm, .slice aA E.atr.length cA, .string E.tx, .slice aK E.ks.length cK] w (l ++ beg E s) w2) := by
    have := HP1.out.step hf hk HNO.out
    rw [HT1.out] at this
    exact this
  clear hf hk HP1 HT1
  obtain ⟨x0, x1, x2, x3, x4⟩ := bx5 HP2.out.box
  go_wp2_with fail
  clear x0 x1 x2 x3 x4
  go_loopw [15] (fun i wr => ∃ (k : Nat) (out : List UInt8), i = .int .i64 k ∧ k ≤ E.ks.length ∧ Hid (out ++ puts (E.ks.drop k) E.sp = (l ++ beg E s) ++ puts E.ks E.sp) ∧ Hid (Pt B O w.heap.size #[.string E.sp, .string E.nm, .slice aA E.atr.length cA, .string E.tx, .slice aK E.ks.length cK] w out wr)) (fun i _ => E.ks.length - (RowKit.intOf i).toNat)
  case atStart => exact ⟨0, _, rfl, Nat.zero_le _, rfl, HP2.out⟩
  case round =>
    obtain ⟨k, out, rfl, hk, HO, HD⟩ := hrel
    clear HP2
    by_cases hlt : k < E.ks.length
    · obtain ⟨b, o, a1, c1, a2, c2, rfl, hb, hf5, hkin⟩ := (HKS.out.below HD.out.kp.below) k hlt
      obtain ⟨y0, y1, y2, y3, y4⟩ := hf5
      obtain ⟨x0, x1, x2, x3, x4⟩ := bx5 HD.out.box
      have hUr := HD.out.kp.block HU.out HUO.out (by decide)
      have u0 : wr.cell? ⟨U, 0, none⟩ = some (.func (.func 65) #[] #[.pointer (some ⟨O, 0, none⟩), .pointer (some ⟨U, 0, none⟩)]) := by rw [Lib.cell_of_heap hUr]; rfl
      have u1 := cell_alloc u0 (.cells #[.string E.ks[k].sp, .string E.ks[k].nm, .slice a1 E.ks[k].atr.length c1, .string E.ks[k].tx, .slice a2 E.ks[k].ks.length c2] 48)
      have e0 := cell_alloc x0 (.cells #[.string E.ks[k].sp, .string E.ks[k].nm, .slice a1 E.ks[k].atr.length c1, .string E.ks[k].tx, .slice a2 E.ks[k].ks.length c2] 48)
      have HD1 : Hid (Pt B O w.heap.size _ w out (wr.alloc (.cells #[.string E.ks[k].sp, .string E.ks[k].nm, .slice a1 E.ks[k].atr.length c1, .string E.ks[k].tx, .slice a2 E.ks[k].ks.length c2] 48))) := HD.out.alloc HBO.out _
      have HO2 : Hid ((out ++ put E.ks[k] E.sp) ++ puts (E.ks.drop (k + 1)) E.sp = (l ++ beg E s) ++ puts E.ks E.sp) := by
        have := HO.out
        rw [puts_drop hlt] at this
        show _ = _
        rw [List.append_assoc]; exact this
      have HL : Hid (out.length + (put E.ks[k] E.sp).length ≤ 1000000) := by
        have h1 := congrArg List.length HO2.out
        have h2 := HLP.out
        simp only [List.length_append] at h1
        show _ ≤ _
        omega
      have HC := Lib.hid (IH.out _ (List.getElem_mem hlt) B O U (wr.alloc (.cells #[.string E.ks[k].sp, .string E.ks[k].nm, .slice a1 E.ks[k].atr.length c1, .string E.ks[k].tx, .slice a2 E.ks[k].ks.length c2] 48)) (.agg #[.string E.ks[k].sp, .string E.ks[k].nm, .slice a1 E.ks[k].atr.length c1, .string E.ks[k].tx, .slice a2 E.ks[k].ks.length c2]) E.sp out (hkin.stay (((Below.refl B wr).alloc (HD.out.le HBO.out) _))) (HWT.out _ (List.getElem_mem hlt)) HBO.out HUO.out HD1.out.bf (HD1.out.kp.block HU.out HUO.out (by decide)) HL.out)
      clear hUr u0 x0 x1 x2 x3 x4 hkin hb HD HO
      go_wp2_with fail
      refine HC.out.mono ?_
      rintro r w3 ⟨rfl, hf, hkk⟩
      have HD2 := Lib.hid (HD1.out.step hf hkk HNO.out)
      clear hf hkk HD1 HC u1 e0 y0 y1 y2 y3 y4
      go_wp2_with fail
      go_roundw
      case rel => exact ⟨k + 1, _, by go_num, by omega, HO2.out, HD2.out⟩
      case measure => simp [RowKit.intOf]; omega
    · have HO2 : Hid (out = (l ++ beg E s) ++ puts E.ks E.sp) := by
        have := HO.out
        rw [List.drop_of_length_le (by omega), puts_nil, List.append_nil] at this
        exact this
      have HD2 : Hid (Pt B O w.heap.size #[.string E.sp, .string E.nm, .slice aA E.atr.length cA, .string E.tx, .slice aK E.ks.length cK] w ((l ++ beg E s) ++ puts E.ks E.sp) wr) := by have := HD.out; rw [HO2.out] at this; exact this
      obtain ⟨x0, x1, x2, x3, x4⟩ := bx5 HD2.out.box
      clear HO2 HO HD
      go_wp2_with fail
      refine (HFI.out _).mono ?_
      rintro r w3 ⟨rfl, hb⟩
      have HP3 := Lib.hid (HD2.out.call hb HBO.out)
      have HT1 := Lib.hid (mk_list (fin E))
      clear hb HD2 x0 x1 x2 x3 x4
      generalize (⟨(fin E).toArray⟩ : ByteArray) = tf at HT1
      go_wp2_with fail
      refine (bf_str tf _ HP3.out.bf (by have h1 := HLP.out; rw [← HT1.out, len_size] at h1; simp only [List.length_append]; omega) (HP3.out.le HBO.out)).mono ?_
      rintro r w4 ⟨rfl, hf, hk⟩
      have HP4 : Hid (Bf B O (l ++ put E s) w4 ∧ Kp B O w w4) := by
        have := HP3.out.step hf hk HNO.out
        rw [HT1.out] at this
        rw [HPE.out]
        refine ⟨?_, this.kp⟩
        have h2 := this.bf
        simpa only [List.append_assoc] using h2
      clear hf hk HP3
      go_wp2_with fail
      go_end0
      exact ⟨rfl, HP4.out.1, HP4.out.2⟩
theorem bf_new2 (w : World) (o : Obj) : Bf (w.heap.size + 1) (w.heap.size + 1) [] ((w.alloc o).alloc (.cells #[.pointer none, .slice none 0 0] 98)) := Bf.of (bd_new1 w o)
theorem put_any (e : El) (w : World) (v : Value) (s : ByteArray) (hin : In w.heap.size w e v) (ht : wt e ≤ 20000) :
    Calls Tryz.prog 44 #[v, .string s] w fun r w' => r = .returned (.string ⟨(put e s).toArray⟩) ∧ Below w.heap.size w w' := by
  obtain ⟨aA, cA, aK, cK, rfl, _, _, _, _⟩ := hin.out
  have HL : Hid (([] : List UInt8).length + (put e s).length ≤ 1000000) := by have := put_len e s; show _ ≤ _; rw [List.length_nil]; omega
  have HI := Lib.hid hin
  have HT := Lib.hid ht
  clear hin ht
  go_enter Tryz.func44, Tryz.ntmps44
  go_wp2_with fail
  refine (putC_any e (w.heap.size + 1) (w.heap.size + 1) (w.heap.size + 1 + 1) _ _ s [] ?h1 HT.out (Nat.le_refl _) (by omega) ?h2 ?h3 HL.out).mono ?_
  case h1 => exact (HI.out.stay ((((Below.refl _ w).alloc (Nat.le_refl _) _).alloc (by simp) _).alloc (by simp; omega) _)).mono (Nat.le_succ _)
  case h2 => exact (bf_new2 w _).alloc _
  case h3 =>
    have h := box_new ((w.alloc (.cells #[.string e.sp, .string e.nm, .slice aA e.atr.length cA, .string e.tx, .slice aK e.ks.length cK] 48)).alloc (.cells #[.pointer none, .slice none 0 0] 98)) #[.func (.func 65) #[] #[.pointer (some ⟨w.heap.size + 1, 0, none⟩), .pointer (some ⟨w.heap.size + 1 + 1, 0, none⟩)]] 99
    simpa using h
  rintro r w1 ⟨rfl, hf, hk⟩
  have HF := Lib.hid hf
  have HB1 : Hid (Below w.heap.size w w1) := ((((Below.refl _ w).alloc (Nat.le_refl _) _).alloc (by simp) _).alloc (by simp; omega) _).trans (hk.below.mono (Nat.le_succ _))
  have hB1 : w.heap.size + 1 ≤ w1.heap.size := Nat.le_of_lt HF.out.lt
  clear hf hk HL HI HT
  go_wp2_with fail
  refine (bf_string _ HF.out hB1).mono ?_
  rintro r w2 ⟨rfl, hk⟩
  have HB2 := Lib.hid (HB1.out.trans (hk.below.mono (Nat.le_succ _)))
  clear hk HB1 HF hB1
  go_wp2_with fail
  go_ret
  exact ⟨rfl, HB2.out⟩
end Go.Proofs.YtolnpfcncmcacaaGreatDoor.Tp
