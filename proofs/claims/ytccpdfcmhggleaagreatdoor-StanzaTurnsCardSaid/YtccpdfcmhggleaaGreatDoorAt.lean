/- Package tag: Quote, begin, end; regions that draw their order; names. Conditions: those of each theorem's head. -/
import Derived.Test.YtccpdfcmhggleaaGreatDoorAb
import Derived.Laws.EntriesVeiled
import Derived.BigQuiet

namespace Go.Proofs.YtccpdfcmhggleaaGreatDoor
open Go.RowKit Go.Lib Go.Shelf Tg Sg

def qbS (c : UInt8) : ByteArray := if sp8 c then ⟨(qb c).toArray⟩ else ByteArray.empty
theorem quoteOf_no (c : Nat) (w : World) (h : sp8 (By.u c) = false) (_hc : c < 256) :
    Calls Tryz.prog 103 #[.int .u8 c] w fun e w' => e = .returned (.string ByteArray.empty) ∧ w = w' := by
  have hn : ∀ k : Nat, sp8 (By.u k) = true → ((c : Int) == (k : Int)) = false := by
    intro k hs
    rw [beq_eq_false_iff_ne]
    intro e
    have : c = k := by omega
    subst this
    rw [hs] at h
    cases h
  have b38 : ((c : Int) == 38) = false := hn 38 (by decide)
  have b60 : ((c : Int) == 60) = false := hn 60 (by decide)
  have b62 : ((c : Int) == 62) = false := hn 62 (by decide)
  have b39 : ((c : Int) == 39) = false := hn 39 (by decide)
  have b34 : ((c : Int) == 34) = false := hn 34 (by decide)
  have b9 : ((c : Int) == 9) = false := hn 9 (by decide)
  have b10 : ((c : Int) == 10) = false := hn 10 (by decide)
  have b13 : ((c : Int) == 13) = false := hn 13 (by decide)
  clear hn h
  go_enter Tryz.func103, Tryz.ntmps103
  go_wp2
  go_ret
  exact ⟨rfl, rfl⟩
theorem quoteOf_at (c : Nat) (w : World) (h : c = 38 ∨ c = 60 ∨ c = 62 ∨ c = 39 ∨ c = 34 ∨ c = 9 ∨ c = 10 ∨ c = 13) :
    Calls Tryz.prog 103 #[.int .u8 c] w fun e w' => e = .returned (.string ⟨(qb (By.u c)).toArray⟩) ∧ w = w' := by
  rcases h with rfl | rfl | rfl | rfl | rfl | rfl | rfl | rfl <;>
  · go_enter Tryz.func103, Tryz.ntmps103
    go_wp2
    go_ret
    exact ⟨rfl, rfl⟩
/-- The byte's quote: either eight, or itself. -/
theorem sp8_cases (c : Nat) (hc : c < 256) : (c = 38 ∨ c = 60 ∨ c = 62 ∨ c = 39 ∨ c = 34 ∨ c = 9 ∨ c = 10 ∨ c = 13) ∨ sp8 (By.u c) = false := by
  cases h : sp8 (By.u c) with
  | false => exact .inr rfl
  | true =>
    left
    have e : ∀ k : Nat, k < 256 → By.u c = By.u k → c = k := fun k hk e => by rw [← By.u_nat hc, e, By.u_nat hk]
    simp only [sp8, Bool.or_eq_true, beq_iff_eq] at h
    rcases h with ((((((h | h) | h) | h) | h) | h) | h) | h
    · exact .inl (e 38 (by decide) h)
    · exact .inr (.inl (e 60 (by decide) h))
    · exact .inr (.inr (.inl (e 62 (by decide) h)))
    · exact .inr (.inr (.inr (.inl (e 39 (by decide) h))))
    · exact .inr (.inr (.inr (.inr (.inl (e 34 (by decide) h)))))
    · exact .inr (.inr (.inr (.inr (.inr (.inl (e 9 (by decide) h))))))
    · exact .inr (.inr (.inr (.inr (.inr (.inr (.inl (e 10 (by decide) h)))))))
    · exact .inr (.inr (.inr (.inr (.inr (.inr (.inr (e 13 (by decide) h)))))))
set_option maxRecDepth 100000 in
set_option maxHeartbeats 4000000 in
/-- Quote: each byte's mark, one behind the other. -/
theorem quote_any (s : ByteArray) (w : World) (hs : s.size ≤ 1048576) :
    Calls Tryz.prog 90 #[.string s] w fun e w' => e = .returned (.string ⟨(q s.data.toList).toArray⟩) ∧ Below w.heap.size w w' := by
  have HL := Lib.hid (By.len_size s)
  have HE := Lib.hid (q_len s.data.toList)
  have HN := Lib.hid (bd_new w)
  have HB0 : Hid (Below w.heap.size w (w.alloc (.cells #[.pointer none, .slice none 0 0] 96))) := (Below.refl _ w).alloc (Nat.le_refl _) _
  go_enter Tryz.func90, Tryz.ntmps90
  go_wp2_with fail
  go_loopw [8] (fun i wr => ∃ (k : Nat) (out : List UInt8), i = .int .i64 k ∧ k ≤ s.size ∧ Hid (out ++ q (s.data.toList.drop k) = q s.data.toList) ∧ Hid (Bd w.heap.size w.heap.size out wr) ∧ Hid (Below w.heap.size w wr)) (fun i _ => s.size - (RowKit.intOf i).toNat)
  case atStart => exact ⟨0, [], rfl, by omega, (by show _ = _; simp), HN.out, HB0.out⟩
  case round =>
    obtain ⟨k, out, rfl, hk, HO, HD, HB⟩ := hrel
    by_cases hlt : k < s.size
    · obtain ⟨b, hdr, hnb⟩ := By.drop_cons s.data.toList k (by rw [HL.out]; exact hlt)
      have hbk := By.byte_nb s k hlt
      have ho := HO.out
      have hlen := congrArg List.length ho
      rw [hdr, q_cons] at ho hlen
      simp only [List.length_append] at hlen
      have hqb := qb_len b
      have hE := HE.out.2
      rw [HL.out] at hE
      have hmax : out.length + 6 ≤ 8388608 := by omega
      have x256 := By.nat_lt b
      rw [hnb] at hbk
      have hub := By.nat_u b
      have HZ : Hid (w.heap.size ≤ wr.heap.size) := HB.out.size
      rcases sp8_cases b.toNat x256 with h8 | hno
      · have HC := Lib.hid (fun W => quoteOf_at b.toNat W h8)
        have hne : (⟨(qb (By.u b.toNat)).toArray⟩ : ByteArray).toList.isEmpty = false := by
          rw [ByteArray.toList_eq]
          cases hq : qb (By.u b.toNat) with
          | nil => have := (qb_len (By.u b.toNat)).1; rw [hq] at this; simp at this
          | cons _ _ => rfl
        have hsz : (⟨(qb (By.u b.toNat)).toArray⟩ : ByteArray).size ≤ 6 := by
          have := (qb_len (By.u b.toNat)).2
          rw [Lib.size_eq]; simpa using this
        have HO2 : Hid ((out ++ (⟨(qb (By.u b.toNat)).toArray⟩ : ByteArray).data.toList) ++ q (s.data.toList.drop (k + 1)) = q s.data.toList) := by
          show _ = _
          rw [← ho, hub]; simp
        generalize (⟨(qb (By.u b.toNat)).toArray⟩ : ByteArray) = t at HC hne hsz HO2
        generalize b.toNat = y at hbk x256 HC
        clear ho hlen hqb hE hdr hnb hub h8 HE
        go_wp2_with fail
        refine (HC.out _).mono ?_
        rintro r w1 ⟨rfl, rfl⟩
        go_wp2_with fail
        refine (bd_str t _ HD.out (by omega) HZ.out).mono ?_
        rintro r w1 ⟨rfl, hd1, hb1⟩
        have HD1 := Lib.hid hd1
        have HB1 := Lib.hid (HB.out.trans hb1)
        clear hd1 hb1
        go_wp2_with fail
        go_roundw
        case rel => exact ⟨k + 1, _, by go_num, by omega, HO2.out, HD1.out, HB1.out⟩
        case measure => simp [RowKit.intOf]; omega
      · have HC := Lib.hid (fun W => quoteOf_no b.toNat W hno x256)
        have HO2 : Hid ((out ++ [By.u b.toNat]) ++ q (s.data.toList.drop (k + 1)) = q s.data.toList) := by
          show _ = _
          rw [← ho, hub]
          rw [hub] at hno
          rw [qb_plain b hno]; simp
        generalize b.toNat = y at hbk x256 HC HO2
        clear ho hlen hqb hE hdr hnb hub hno HE
        go_wp2_with fail
        refine (HC.out _).mono ?_
        rintro r w1 ⟨rfl, rfl⟩
        go_wp2_with fail
        refine (bd_write y _ x256 HD.out (by omega) HZ.out).mono ?_
        rintro r w1 ⟨rfl, hd1, hb1⟩
        have HD1 := Lib.hid hd1
        have HB1 := Lib.hid (HB.out.trans hb1)
        clear hd1 hb1
        go_wp2_with fail
        go_roundw
        case rel => exact ⟨k + 1, _, by go_num, by omega, HO2.out, HD1.out, HB1.out⟩
        case measure => simp [RowKit.intOf]; omega
    · have HO2 : Hid (out = q s.data.toList) := by
        have := HO.out
        rw [List.drop_of_length_le (by rw [HL.out]; omega), q_nil, List.append_nil] at this
        exact this
      have HZ : Hid (w.heap.size ≤ wr.heap.size) := HB.out.size
      go_wp2_with fail
      refine (bd_string _ HD.out HZ.out).mono ?_
      rintro r w1 ⟨rfl, hb1⟩
      have HB1 := Lib.hid (HB.out.trans hb1)
      clear hb1
      go_wp2_with fail
      go_ret
      exact ⟨by rw [HO2.out]; rfl, HB1.out⟩
/-- What looks like an attribute. -/
theorem mark_any (n v : ByteArray) (w : World) (hn : n.size ≤ 1048576) (hv : v.size ≤ 1048576) :
    Calls Tryz.prog 88 #[.string n, .string v] w fun e w' => e = .returned (.string ⟨(Tg.mark n.data.toList v.data.toList).toArray⟩) ∧ Below w.heap.size w w' := by
  have HQ := Lib.hid (fun W => quote_any v W hv)
  have hz : (⟨(q v.data.toList).toArray⟩ : ByteArray).size ≤ 6291456 := by
    have := (q_len v.data.toList).2
    rw [Lib.size_eq]
    simp only [len_size] at this ⊢
    omega
  have HT : Hid ((⟨(q v.data.toList).toArray⟩ : ByteArray).data.toList = q v.data.toList) := by show _ = _; simp
  generalize (⟨(q v.data.toList).toArray⟩ : ByteArray) = t at HQ hz HT
  have HM : Hid ((((⟨#[32]⟩ ++ n) ++ ⟨#[61, 39]⟩) ++ t) ++ ⟨#[39]⟩ = (⟨(Tg.mark n.data.toList v.data.toList).toArray⟩ : ByteArray)) := by
    show _ = _
    apply bytes_eq
    simp [HT.out, Tg.mark]
  go_enter Tryz.func88, Tryz.ntmps88
  go_wp2_with fail
  refine (HQ.out _).mono ?_
  rintro r w1 ⟨rfl, hb1⟩
  have HB1 := Lib.hid hb1
  clear hb1
  go_wp2_with fail
  go_ret
  exact ⟨by rw [← HM.out]; rfl, HB1.out⟩

end Go.Proofs.YtccpdfcmhggleaaGreatDoor

namespace Go.Proofs.YtccpdfcmhggleaaGreatDoor
open Go.RowKit Go.Lib Go.Shelf Tg

/-- An element as a value. -/
def ev (sp nm : ByteArray) (aA : Option Addr) (n cA : Nat) (tx : ByteArray) (aK : Option Addr) (m cK : Nat) : Value := .agg #[.string sp, .string nm, .slice aA n cA, .string tx, .slice aK m cK]
theorem isEmpty_any (sp nm : ByteArray) (aA : Option Addr) (n cA : Nat) (tx : ByteArray) (aK : Option Addr) (m cK : Nat) (w : World) (b : Bool) (hb : (tx.data.toList.isEmpty && decide (m = 0)) = b) :
    Calls Tryz.prog 89 #[.agg #[.string sp, .string nm, .slice aA n cA, .string tx, .slice aK m cK]] w fun e w' => e = .returned (.bool b) ∧ Below w.heap.size w w' := by
  cases ht : tx.data.toList.isEmpty with
  | false =>
    have e1 : tx.toList.isEmpty = false := by rw [ByteArray.toList_eq]; exact ht
    have E : Hid (b = false) := by show _ = _; rw [← hb, ht]; rfl
    clear ht hb
    go_enter Tryz.func89, Tryz.ntmps89
    go_wp2
    go_ret
    exact ⟨by rw [E.out]; rfl, (Below.refl _ _).alloc (Nat.le_refl _) _⟩
  | true =>
    have e1 : tx.toList.isEmpty = true := by rw [ByteArray.toList_eq]; exact ht
    by_cases h0 : m = 0
    · have f0 : ((m : Int) == 0) = true := by rw [h0]; rfl
      have E : Hid (b = true) := by show _ = _; rw [← hb, ht, h0]; rfl
      clear ht hb h0
      go_enter Tryz.func89, Tryz.ntmps89
      go_wp2
      go_ret
      exact ⟨by rw [E.out]; rfl, (Below.refl _ _).alloc (Nat.le_refl _) _⟩
    · have f0 : ((m : Int) == 0) = false := by rw [beq_eq_false_iff_ne]; omega
      have E : Hid (b = false) := by show _ = _; rw [← hb, ht]; simp [h0]
      clear ht hb h0
      go_enter Tryz.func89, Tryz.ntmps89
      go_wp2
      go_ret
      exact ⟨by rw [E.out]; rfl, (Below.refl _ _).alloc (Nat.le_refl _) _⟩
theorem emp_eq (tx : ByteArray) (ks : List El) : (tx.data.toList.isEmpty && decide (ks.length = 0)) = emp tx ks := by
  unfold emp
  cases ks <;> simp
theorem end_any (e : El) (aA : Option Addr) (n cA : Nat) (aK : Option Addr) (cK : Nat) (w : World) (hnm : e.nm.size ≤ 1048576) :
    Calls Tryz.prog 62 #[.agg #[.string e.sp, .string e.nm, .slice aA n cA, .string e.tx, .slice aK e.ks.length cK]] w fun r w' => r = .returned (.string ⟨(fin e).toArray⟩) ∧ Below w.heap.size w w' := by
  have HE := Lib.hid (fun W => isEmpty_any e.sp e.nm aA n cA e.tx aK e.ks.length cK W _ (emp_eq e.tx e.ks))
  have HF : Hid (fin e = if emp e.tx e.ks then [] else [60, 47] ++ e.nm.data.toList ++ [62]) := rfl
  have HM : Hid (((⟨#[60, 47]⟩ ++ e.nm) ++ ⟨#[62]⟩ : ByteArray) = ⟨([60, 47] ++ e.nm.data.toList ++ [62]).toArray⟩) := by
    show _ = _
    apply bytes_eq
    simp
  cases hb : emp e.tx e.ks with
  | true =>
    rw [hb] at HE HF
    clear hb
    generalize e.ks.length = m at HE
    generalize e.sp = sp at HE
    generalize e.tx = tx at HE
    generalize e.nm = nm at HE
    clear hnm
    go_enter Tryz.func62, Tryz.ntmps62
    go_wp2_with fail
    refine (HE.out _).mono ?_
    rintro r w1 ⟨rfl, hb1⟩
    have HB1 := Lib.hid (((Below.refl _ w).alloc (Nat.le_refl _) _).trans (hb1.mono (by simp)))
    clear hb1
    go_wp2_with fail
    go_ret
    exact ⟨by rw [HF.out]; rfl, HB1.out⟩
  | false =>
    rw [hb] at HE HF
    clear hb
    generalize e.ks.length = m at HE
    generalize e.sp = sp at HE
    generalize e.tx = tx at HE
    generalize e.nm = nm at HE HF HM hnm
    go_enter Tryz.func62, Tryz.ntmps62
    go_wp2_with fail
    refine (HE.out _).mono ?_
    rintro r w1 ⟨rfl, hb1⟩
    have HB1 := Lib.hid (((Below.refl _ w).alloc (Nat.le_refl _) _).trans (hb1.mono (by simp)))
    obtain ⟨hc, hf⟩ := bcell hb1
    clear hb1
    go_wp2_with fail
    go_ret
    exact ⟨by rw [HF.out, if_neg (by simp), ← HM.out]; rfl, HB1.out⟩
/-- What stands ahead of an element's kids, but for its end. -/
theorem beg_parts (e : El) (s : ByteArray) : beg e s = (([60] ++ e.nm.data.toList) ++ (if e.sp = s then [] else Tg.mark xmlns e.sp.data.toList)) ++ marks e.atr ++ (if emp e.tx e.ks then [47, 62] else [62] ++ q e.tx.data.toList) := rfl
theorem marks_drop {l : List (ByteArray × ByteArray)} {k : Nat} (h : k < l.length) : marks (l.drop k) = Tg.mark l[k].1.data.toList l[k].2.data.toList ++ marks (l.drop (k + 1)) := by
  rw [List.drop_eq_getElem_cons h]
  unfold marks
  rw [List.flatMap_cons]
theorem bd_new1 (w : World) (o : Obj) : Bd (w.heap.size + 1) (w.heap.size + 1) [] ((w.alloc o).alloc (.cells #[.pointer none, .slice none 0 0] 96)) := by
  have := bd_new (w.alloc o)
  simpa using this
/-- A box of five cells, cell by cell. -/
theorem bx5 {w : World} {b : Nat} {v0 v1 v2 v3 v4 : Value} {t : TypeId} {fz : Nat × Nat} (h : w.heap[b]? = some (.cells #[v0, v1, v2, v3, v4] t fz)) :
    w.cell? ⟨b, 0, none⟩ = some v0 ∧ w.cell? ⟨b, 1, none⟩ = some v1 ∧ w.cell? ⟨b, 2, none⟩ = some v2 ∧ w.cell? ⟨b, 3, none⟩ = some v3 ∧ w.cell? ⟨b, 4, none⟩ = some v4 := by
  refine ⟨?_, ?_, ?_, ?_, ?_⟩ <;> (rw [Lib.cell_of_heap h]; rfl)
theorem box_new (w : World) (cs : Array Value) (t : TypeId) : (w.alloc (.cells cs t)).heap[w.heap.size]? = some (.cells cs t (0, 0)) := heap_alloc_new w _
theorem len_front {a b c t : List UInt8} {n : Nat} (h : a ++ b = c) (h2 : (c ++ t).length ≤ n) : a.length ≤ n := by
  subst h
  rw [List.length_append, List.length_append] at h2
  omega
theorem ret_str {a b : List UInt8} (h : a = b) : Ending.returned (.string ⟨a.toArray⟩) = Ending.returned (.string ⟨b.toArray⟩) := by rw [h]
theorem mk_size (l : List UInt8) : (⟨l.toArray⟩ : ByteArray).size = l.length := by rw [Lib.size_eq]
theorem mk_list (l : List UInt8) : (⟨l.toArray⟩ : ByteArray).data.toList = l := by simp
/-- A box in the block behind w, a builder in the next, and all that w held. -/
def Bgn (w : World) (cs : Array Value) (t : TypeId) (out : List UInt8) (wr : World) : Prop := Bd (w.heap.size + 1) (w.heap.size + 1) out wr ∧ Below w.heap.size w wr ∧ wr.heap[w.heap.size]? = some (.cells cs t (0, 0))
theorem Bgn.new (w : World) (cs : Array Value) (t : TypeId) : Bgn w cs t [] ((w.alloc (.cells cs t)).alloc (.cells #[.pointer none, .slice none 0 0] 96)) :=
  ⟨bd_new1 w _, ((Below.refl _ w).alloc (Nat.le_refl _) _).alloc (by simp) _, (Below.heap_alloc _ _ _ (by simp)).trans (box_new w cs t)⟩
theorem Bgn.step {w : World} {cs : Array Value} {t : TypeId} {out out' : List UInt8} {wr w' : World} (h : Bgn w cs t out wr) (hd : Bd (w.heap.size + 1) (w.heap.size + 1) out' w') (hb : Below (w.heap.size + 1) wr w') : Bgn w cs t out' w' :=
  ⟨hd, h.2.1.trans (hb.mono (Nat.le_succ _)), (hb.block _ (Nat.lt_succ_self _)).trans h.2.2⟩
theorem Bgn.call {w : World} {cs : Array Value} {t : TypeId} {out : List UInt8} {wr w' : World} (h : Bgn w cs t out wr) (hb : Below wr.heap.size wr w') : Bgn w cs t out w' :=
  h.step (h.1.below hb) (hb.mono (Nat.le_of_lt h.1.lt))
theorem Bgn.alloc {w : World} {cs : Array Value} {t : TypeId} {out : List UInt8} {wr : World} (h : Bgn w cs t out wr) (o : Obj) : Bgn w cs t out (wr.alloc o) := h.call ((Below.refl _ wr).alloc (Nat.le_refl _) o)
theorem Bgn.lt {w : World} {cs : Array Value} {t : TypeId} {out : List UInt8} {wr : World} (h : Bgn w cs t out wr) : w.heap.size + 1 ≤ wr.heap.size := Nat.le_of_lt h.1.lt
set_option maxRecDepth 100000 in
set_option maxHeartbeats 4000000 in
/-- begin: an element's text ahead of its kids. -/
theorem begin_any (e : El) (s : ByteArray) (aA : Option Addr) (cA : Nat) (aK : Option Addr) (cK : Nat) (w : World) (ht : wt e ≤ 20000) (hA : AtIn w.heap.size w aA e.atr) :
    Calls Tryz.prog 61 #[.agg #[.string e.sp, .string e.nm, .slice aA e.atr.length cA, .string e.tx, .slice aK e.ks.length cK], .string s] w fun r w' => r = .returned (.string ⟨(beg e s).toArray⟩) ∧ Below w.heap.size w w' := by
  have hw := wt_eq e
  have hnm : e.nm.size ≤ 20000 := by omega
  have han : e.atr.length ≤ 20000 := by omega
  have HG : Hid ((beg e s).length ≤ 1000000) := by have := beg_len e s; show _ ≤ _; omega
  have HP := Lib.hid (beg_parts e s)
  have HE := Lib.hid (fun W => isEmpty_any e.sp e.nm aA e.atr.length cA e.tx aK e.ks.length cK W _ (emp_eq e.tx e.ks))
  have HT := Lib.hid (fun W => quote_any e.tx W (by omega))
  have HS := Lib.hid (fun W => mark_any ⟨#[120, 109, 108, 110, 115]⟩ e.sp W (by decide) (by omega))
  have HAM : Hid (∀ a ∈ e.atr, a.1.size ≤ 1048576 ∧ a.2.size ≤ 1048576) := fun a ha => by have := wtA_mem ha; omega
  have HA := Lib.hid hA
  have HN := Lib.hid (Bgn.new w #[.string e.sp, .string e.nm, .slice aA e.atr.length cA, .string e.tx, .slice aK e.ks.length cK] 29)
  have HZ0 : Hid ((⟨#[60]⟩ ++ e.nm : ByteArray).data.toList = [60] ++ e.nm.data.toList ∧ (⟨#[60]⟩ ++ e.nm : ByteArray).size ≤ 20001) := by
    constructor
    · simp
    · rw [Lib.size_eq]; simp; omega
  have hB1 : w.heap.size + 1 ≤ ((w.alloc (.cells #[.string e.sp, .string e.nm, .slice aA e.atr.length cA, .string e.tx, .slice aK e.ks.length cK] 29)).alloc (.cells #[.pointer none, .slice none 0 0] 96)).heap.size := by simp
  have HZM : Hid ((⟨(Tg.mark xmlns e.sp.data.toList).toArray⟩ : ByteArray).data.toList = Tg.mark xmlns e.sp.data.toList ∧ (⟨(Tg.mark xmlns e.sp.data.toList).toArray⟩ : ByteArray).size ≤ 200000) := by
    refine ⟨mk_list _, ?_⟩
    have h1 := mark_len xmlns e.sp.data.toList
    have h2 : xmlns.length = 5 := rfl
    rw [len_size] at h1
    rw [mk_size]
    omega
  have HS2 : Hid (∀ W, Calls Tryz.prog 88 #[.string ⟨#[120, 109, 108, 110, 115]⟩, .string e.sp] W fun r w' => r = .returned (.string ⟨(Tg.mark xmlns e.sp.data.toList).toArray⟩) ∧ Below W.heap.size W w') := HS.out
  clear HS
  generalize (⟨(Tg.mark xmlns e.sp.data.toList).toArray⟩ : ByteArray) = tm at HZM HS2
  clear hw ht hA
  by_cases hsp : e.sp = s
  case' pos =>
    have n1 : (e.sp.toList == s.toList) = true := by rw [hsp]; simp
    have n2 : (e.sp.toList != s.toList) = false := by rw [hsp]; simp
    have HPP : Hid (beg e s = ([60] ++ e.nm.data.toList) ++ marks e.atr ++ (if emp e.tx e.ks then [47, 62] else [62] ++ q e.tx.data.toList)) := by
      show _ = _
      rw [HP.out, if_pos hsp, List.append_nil]
    clear hsp HP
    go_enter Tryz.func61, Tryz.ntmps61
    go_wp2_with fail
    refine (bd_str _ _ HN.out.1 (by have := HZ0.out.2; simp only [List.length_nil]; omega) hB1).mono ?_
    rintro r wz ⟨rfl, hd, hb⟩
    have HD := Lib.hid (HN.out.step hd hb)
    obtain ⟨x0, x1, x2, x3, x4⟩ := bx5 HD.out.2.2
    clear hd hb hB1 HN
    have HD2 : Hid (Bgn w #[.string e.sp, .string e.nm, .slice aA e.atr.length cA, .string e.tx, .slice aK e.ks.length cK] 29 ([60] ++ e.nm.data.toList) wz) := by
      have := HD.out
      rw [HZ0.out.1] at this
      exact this
    have HPQ : Hid (([60] ++ e.nm.data.toList).length ≤ 20001) := by show _ ≤ _; simp; omega
    clear HD HZ0 HS2 HZM
    generalize [60] ++ e.nm.data.toList = A at HD2 HPQ HPP
    go_wp2_with fail
  case' neg =>
    have n1 : (e.sp.toList == s.toList) = false := by
      rw [beq_eq_false_iff_ne]
      intro h
      rw [ByteArray.toList_eq, ByteArray.toList_eq] at h
      exact hsp (bytes_eq h)
    have n2 : (e.sp.toList != s.toList) = true := by rw [bne, n1]; rfl
    have HPP : Hid (beg e s = (([60] ++ e.nm.data.toList) ++ Tg.mark xmlns e.sp.data.toList) ++ marks e.atr ++ (if emp e.tx e.ks then [47, 62] else [62] ++ q e.tx.data.toList)) := by
      show _ = _
      rw [HP.out, if_neg hsp]
    clear hsp HP
    go_enter Tryz.func61, Tryz.ntmps61
    go_wp2_with fail
    refine (bd_str _ _ HN.out.1 (by have := HZ0.out.2; simp only [List.length_nil]; omega) hB1).mono ?_
    rintro r w1 ⟨rfl, hd, hb⟩
    have HD := Lib.hid (HN.out.step hd hb)
    obtain ⟨x0, x1, x2, x3, x4⟩ := bx5 HD.out.2.2
    clear hd hb hB1 HN
    go_wp2_with fail
    refine (HS2.out _).mono ?_
    rintro r w2 ⟨rfl, hb⟩
    have HD1 := Lib.hid (HD.out.call hb)
    have hB1 := HD1.out.lt
    clear hb HD x0 x1 x2 x3 x4
    go_wp2_with fail
    refine (bd_str _ _ HD1.out.1 (by have h1 := HZ0.out.2; have h2 := HZM.out.2; rw [List.nil_append, len_size]; omega) hB1).mono ?_
    rintro r wz ⟨rfl, hd, hb⟩
    have HD := Lib.hid (HD1.out.step hd hb)
    obtain ⟨x0, x1, x2, x3, x4⟩ := bx5 HD.out.2.2
    have HD2 : Hid (Bgn w #[.string e.sp, .string e.nm, .slice aA e.atr.length cA, .string e.tx, .slice aK e.ks.length cK] 29 (([60] ++ e.nm.data.toList) ++ Tg.mark xmlns e.sp.data.toList) wz) := by
      have := HD.out
      rw [List.nil_append, HZ0.out.1, HZM.out.1] at this
      exact this
    have HPQ : Hid ((([60] ++ e.nm.data.toList) ++ Tg.mark xmlns e.sp.data.toList).length ≤ 300000) := by
      have h1 := HZM.out.1
      have h2 := HZM.out.2
      show _ ≤ _
      rw [← h1, List.length_append, len_size]; simp; omega
    clear hd hb hB1 HD1 HD HZ0 HS2 HZM
    generalize ([60] ++ e.nm.data.toList) ++ Tg.mark xmlns e.sp.data.toList = A at HD2 HPQ HPP
    go_wp2_with fail
  all_goals
    clear x0 x1 x2 x3 x4
    go_loopw [23] (fun i wr => ∃ (k : Nat) (out : List UInt8), i = .int .i64 k ∧ k ≤ e.atr.length ∧ Hid (out ++ marks (e.atr.drop k) = A ++ marks e.atr) ∧ Hid (Bgn w #[.string e.sp, .string e.nm, .slice aA e.atr.length cA, .string e.tx, .slice aK e.ks.length cK] 29 out wr)) (fun i _ => e.atr.length - (RowKit.intOf i).toNat)
    case atStart => exact ⟨0, A, rfl, Nat.zero_le _, rfl, HD2.out⟩
    case round =>
      obtain ⟨k, out, rfl, hk, HO, HD⟩ := hrel
      obtain ⟨x0, x1, x2, x3, x4⟩ := bx5 HD.out.2.2
      by_cases hlt : k < e.atr.length
      · obtain ⟨b, o, rfl, hb, y0, y1⟩ := (HA.out.below HD.out.2.1) k hlt
        have HO2 : Hid ((out ++ Tg.mark e.atr[k].1.data.toList e.atr[k].2.data.toList) ++ marks (e.atr.drop (k + 1)) = A ++ marks e.atr) := by
          have := HO.out
          rw [marks_drop hlt] at this
          show _ = _
          rw [List.append_assoc]; exact this
        have HL : Hid ((out ++ Tg.mark e.atr[k].1.data.toList e.atr[k].2.data.toList).length ≤ 1000000) := by
          have h2 := HG.out
          rw [HPP.out] at h2
          exact len_front HO2.out h2
        obtain ⟨z1, z2⟩ := HAM.out _ (List.getElem_mem hlt)
        have HM := Lib.hid (fun W => mark_any e.atr[k].1 e.atr[k].2 W z1 z2)
        have HT2 := Lib.hid (mk_list (Tg.mark e.atr[k].1.data.toList e.atr[k].2.data.toList))
        generalize (⟨(Tg.mark e.atr[k].1.data.toList e.atr[k].2.data.toList).toArray⟩ : ByteArray) = t at HM HT2
        go_wp2_with fail
        refine (HM.out _).mono ?_
        rintro r w1 ⟨rfl, hbb⟩
        have HD1 := Lib.hid ((HD.out.alloc _).call hbb)
        have hB1 := HD1.out.lt
        clear hbb HD x0 x1 x2 x3 x4 y0 y1
        go_wp2_with fail
        refine (bd_str t _ HD1.out.1 (by have h1 := HL.out; have h2 := congrArg List.length HT2.out; rw [List.length_append] at h1; rw [len_size] at h2; omega) hB1).mono ?_
        rintro r w2 ⟨rfl, hd, hbb⟩
        have HD2 : Hid (Bgn w #[.string e.sp, .string e.nm, .slice (some ⟨b, o, none⟩) e.atr.length cA, .string e.tx, .slice aK e.ks.length cK] 29 (out ++ Tg.mark e.atr[k].1.data.toList e.atr[k].2.data.toList) w2) := by
          have := HD1.out.step hd hbb
          rw [HT2.out] at this
          exact this
        clear hd hbb HD1 hB1
        go_wp2_with fail
        go_roundw
        case rel => exact ⟨k + 1, _, by go_num, by omega, HO2.out, HD2.out⟩
        case measure => simp [RowKit.intOf]; omega
      · have HO2 : Hid (out = A ++ marks e.atr) := by
          have := HO.out
          rw [List.drop_of_length_le (by omega), show marks [] = [] from rfl, List.append_nil] at this
          exact this
        have HD2 : Hid (Bgn w #[.string e.sp, .string e.nm, .slice aA e.atr.length cA, .string e.tx, .slice aK e.ks.length cK] 29 (A ++ marks e.atr) wr) := by have := HD.out; rw [HO2.out] at this; exact this
        have HQ3 : Hid ((A ++ marks e.atr).length + (if emp e.tx e.ks then ([47, 62] : List UInt8) else [62] ++ q e.tx.data.toList).length ≤ 1000000) := by
          have := HG.out
          rw [HPP.out, List.length_append] at this
          exact this
        clear HO2 HO HD
        go_wp2_with fail
        refine (HE.out _).mono ?_
        rintro r w1 ⟨rfl, hbb⟩
        have HD1 := Lib.hid (HD2.out.call hbb)
        clear hbb HD2 x0 x1 x2 x3 x4 HE
        have hB1 := HD1.out.lt
        cases hem : emp e.tx e.ks with
        | true =>
          rw [hem, if_pos rfl] at HPP HQ3
          clear hem
          go_wp2_with fail
          refine (bd_str _ _ HD1.out.1 (by have := HQ3.out; rw [mk_size]; exact Nat.le_trans this (by decide)) hB1).mono ?_
          rintro r w2 ⟨rfl, hd, hbb⟩
          have HD2 := Lib.hid (HD1.out.step hd hbb)
          clear hd hbb HD1 hB1
          have hB1 := HD2.out.lt
          go_wp2_with fail
          refine (bd_string _ HD2.out.1 hB1).mono ?_
          rintro r w3 ⟨rfl, hbb⟩
          have HB3 := Lib.hid (HD2.out.2.1.trans (hbb.mono (Nat.le_succ _)))
          clear hbb HD2
          go_wp2_with fail
          go_ret
          exact ⟨ret_str (by rw [HPP.out]; simp), HB3.out⟩
        | false =>
          rw [hem, if_neg (by decide)] at HPP HQ3
          clear hem
          obtain ⟨x0, x1, x2, x3, x4⟩ := bx5 HD1.out.2.2
          have HT2 : Hid ((⟨(q e.tx.data.toList).toArray⟩ : ByteArray).data.toList = q e.tx.data.toList) := mk_list _
          generalize (⟨(q e.tx.data.toList).toArray⟩ : ByteArray) = t at HT HT2
          go_wp2_with fail
          refine (HT.out _).mono ?_
          rintro r w2 ⟨rfl, hbb⟩
          have HD2 := Lib.hid (HD1.out.call hbb)
          have HT3 : Hid ((⟨#[62]⟩ ++ t : ByteArray).data.toList = [62] ++ q e.tx.data.toList) := by
            show _ = _
            rw [← HT2.out]; simp
          have ht3 : t.size ≤ 1000000 := by
            have h1 := HQ3.out
            rw [← HT2.out] at h1
            simp only [List.length_append, len_size] at h1
            omega
          clear hbb HD1 x0 x1 x2 x3 x4 hB1 HT
          have hB1 := HD2.out.lt
          go_wp2_with fail
          refine (bd_str _ _ HD2.out.1 (by have h1 := HQ3.out; rw [← HT3.out, len_size] at h1; exact Nat.le_trans h1 (by decide)) hB1).mono ?_
          rintro r w3 ⟨rfl, hd, hbb⟩
          have HD3 := Lib.hid (HD2.out.step hd hbb)
          clear hd hbb HD2 hB1
          have hB1 := HD3.out.lt
          go_wp2_with fail
          refine (bd_string _ HD3.out.1 hB1).mono ?_
          rintro r w4 ⟨rfl, hbb⟩
          have HB3 := Lib.hid (HD3.out.2.1.trans (hbb.mono (Nat.le_succ _)))
          clear hbb HD3
          go_wp2_with fail
          go_ret
          exact ⟨ret_str (by rw [HPP.out, ← HT2.out]; simp), HB3.out⟩

end Go.Proofs.YtccpdfcmhggleaaGreatDoor

namespace Go.Proofs.YtccpdfcmhggleaaGreatDoor
open Go.RowKit Go.Lib Go.Shelf Tg

theorem AtIn.up {B B' : Nat} {w : World} {a : Option Addr} {l : List (ByteArray × ByteArray)} (h : AtIn B w a l) (hb : B ≤ B') : AtIn B' w a l := by
  intro i hi
  obtain ⟨b, o, ha, hlt, hf⟩ := h i hi
  exact ⟨b, o, ha, Nat.lt_of_lt_of_le hlt hb, hf⟩
theorem cell_alloc {w : World} {b o : Nat} {v : Value} (h : w.cell? ⟨b, o, none⟩ = some v) (x : Obj) : (w.alloc x).cell? ⟨b, o, none⟩ = some v :=
  (World.cell?_of_block (Below.heap_alloc w x b (World.block_lt_of_cell? w _ h))).trans h
theorem puts_drop {l : List El} {k : Nat} (h : k < l.length) (s : ByteArray) : puts (l.drop k) s = put l[k] s ++ puts (l.drop (k + 1)) s := by
  rw [List.drop_eq_getElem_cons h, puts_cons]
theorem heap_lt {w : World} {b : Nat} {o : Obj} (h : w.heap[b]? = some o) : b < w.heap.size := (Array.getElem?_eq_some_iff.1 h).1
/-- What Put's inner function keeps: the builder, its box, all that w held below B. -/
structure Pt (B O N : Nat) (cs : Array Value) (w : World) (out : List UInt8) (wr : World) : Prop where
  bf : Bf B O out wr
  kp : Kp B O w wr
  box : wr.heap[N]? = some (.cells cs 29 (0, 0))
theorem Pt.call {B O N : Nat} {cs : Array Value} {w wr w' : World} {out : List UInt8} (h : Pt B O N cs w out wr) (hb : Below wr.heap.size wr w') (hB : B ≤ O) : Pt B O N cs w out w' :=
  ⟨h.bf.below hb, h.kp.trans (Kp.of hb (Nat.le_trans hB (Nat.le_of_lt h.bf.lt))), (hb.block N (heap_lt h.box)).trans h.box⟩
theorem Pt.step {B O N : Nat} {cs : Array Value} {w wr w' : World} {out out' : List UInt8} (h : Pt B O N cs w out wr) (hf : Bf B O out' w') (hk : Kp B O wr w') (hN : N ≠ O) : Pt B O N cs w out' w' :=
  ⟨hf, h.kp.trans hk, hk.block h.box hN (by decide)⟩
theorem Pt.alloc {B O N : Nat} {cs : Array Value} {w wr : World} {out : List UInt8} (h : Pt B O N cs w out wr) (hB : B ≤ O) (o : Obj) : Pt B O N cs w out (wr.alloc o) := h.call ((Below.refl _ wr).alloc (Nat.le_refl _) o) hB
theorem Pt.le {B O N : Nat} {cs : Array Value} {w wr : World} {out : List UInt8} (h : Pt B O N cs w out wr) (hB : B ≤ O) : B ≤ wr.heap.size := Nat.le_trans hB (Nat.le_of_lt h.bf.lt)

theorem bf_new2 (w : World) (o : Obj) : Bf (w.heap.size + 1) (w.heap.size + 1) [] ((w.alloc o).alloc (.cells #[.pointer none, .slice none 0 0] 96)) := Bf.of (bd_new1 w o)
end Go.Proofs.YtccpdfcmhggleaaGreatDoor

namespace Go.Proofs.YtccpdfcmhggleaaGreatDoor
open Go.RowKit Go.Lib

/-- The worlds in which all that lay in w stands as it stood. -/
def Ext (w : World) : Type := { w' : World // Below w.heap.size w w' }
def Ext.to {w : World} (x : Ext w) : World := x.1
theorem Ext.below {w : World} (x : Ext w) : Below w.heap.size w x.to := x.2
instance extSome (w : World) : Nonempty (Ext w) := ⟨⟨w, Below.refl _ _⟩⟩
theorem ext_region {P : Program} {id : Nat} {Q : Exit → Act → World → Prop} {a : Act} {w : World} {l : List Oper} (hm : P.follows .mixedOrders = true) (hB : Region.lexB .any l.toArray = true)
    (h : wpQuiet P l.toArray (fun w' => ∃ x : Ext w, w' = x.to) (fun a' => ∀ w', (∃ x : Ext w, w' = x.to) → Q .normal a' w') l a) : (Code.region id l.toArray true).wp P Q a w :=
  wp_region_quiet (C := fun w' => ∃ x : Ext w, w' = x.to) hm hB ⟨⟨w.drew, (Below.refl _ _).drew⟩, rfl⟩ (by simpa using h)
theorem ext_call {P : Program} {f : FuncId} {args : Array Value} {w : World} (x : Ext w) {v : Value} (h : Calls P f args x.to fun e w' => e = .returned v ∧ Below x.to.heap.size x.to w') :
    Calls P f args x.to fun e w'' => e = .returned v ∧ ∃ y : Ext w, w'' = y.to :=
  h.mono fun _ w'' ⟨he, hb⟩ => ⟨he, ⟨w'', x.below.trans (hb.mono x.below.size)⟩, rfl⟩
theorem ext_same {P : Program} {f : FuncId} {args : Array Value} {w : World} (x : Ext w) {v : Value} (h : Calls P f args x.to fun e w' => e = .returned v ∧ x.to = w') :
    Calls P f args x.to fun e w'' => e = .returned v ∧ ∃ y : Ext w, w'' = y.to :=
  h.mono fun _ _ ⟨he, hb⟩ => ⟨he, x, hb.symm⟩
theorem ext_cell {w : World} (x : Ext w) {p : Addr} {v : Value} (h : w.cell? p = some v) : x.to.cell? p = some v := by
  have hlt := World.block_lt_of_cell? _ _ h
  rw [← h]
  exact x.below.cell hlt

end Go.Proofs.YtccpdfcmhggleaaGreatDoor

namespace Go.Proofs.YtccpdfcmhggleaaGreatDoor
open Go.RowKit Go.Lib Go.Shelf Tg

theorem mayBegin_any (c : Nat) (w : World) :
    Calls Tryz.prog 100 #[.int .u8 c] w fun e w' => e = .returned (.bool (bgn c)) ∧ w = w' := by
  have k1 : decide ((97 : Int) ≤ (c : Int)) = decide (97 ≤ c) := by rw [decide_eq_decide]; omega
  have k2 : decide ((c : Int) ≤ 122) = decide (c ≤ 122) := by rw [decide_eq_decide]; omega
  have k3 : decide ((65 : Int) ≤ (c : Int)) = decide (65 ≤ c) := by rw [decide_eq_decide]; omega
  have k4 : decide ((c : Int) ≤ 90) = decide (c ≤ 90) := by rw [decide_eq_decide]; omega
  have k5 : ((c : Int) == 95) = (c == 95) := by rw [Bool.eq_iff_iff]; simp only [beq_iff_eq]; omega
  have E : Hid (bgn c = ((decide (97 ≤ c) && decide (c ≤ 122)) || (decide (65 ≤ c) && decide (c ≤ 90)) || c == 95)) := rfl
  generalize decide (97 ≤ c) = b1 at k1 E
  generalize decide (c ≤ 122) = b2 at k2 E
  generalize decide (65 ≤ c) = b3 at k3 E
  generalize decide (c ≤ 90) = b4 at k4 E
  generalize (c == 95) = b5 at k5 E
  cases b1 <;> cases b2 <;> cases b3 <;> cases b4 <;> cases b5 <;>
  · go_enter Tryz.func100, Tryz.ntmps100
    go_wp2
    go_ret
    exact ⟨by rw [E.out]; rfl, rfl⟩
theorem mayFollow_any (c : Nat) (w : World) :
    Calls Tryz.prog 101 #[.int .u8 c] w fun e w' => e = .returned (.bool (fol c)) ∧ w = w' := by
  have k1 : decide ((48 : Int) ≤ (c : Int)) = decide (48 ≤ c) := by rw [decide_eq_decide]; omega
  have k2 : decide ((c : Int) ≤ 57) = decide (c ≤ 57) := by rw [decide_eq_decide]; omega
  have k3 : ((c : Int) == 45) = (c == 45) := by rw [Bool.eq_iff_iff]; simp only [beq_iff_eq]; omega
  have k4 : ((c : Int) == 46) = (c == 46) := by rw [Bool.eq_iff_iff]; simp only [beq_iff_eq]; omega
  have E : Hid (fol c = ((decide (48 ≤ c) && decide (c ≤ 57)) || c == 45 || c == 46)) := rfl
  generalize decide (48 ≤ c) = b1 at k1 E
  generalize decide (c ≤ 57) = b2 at k2 E
  generalize (c == 45) = b3 at k3 E
  generalize (c == 46) = b4 at k4 E
  cases b1 <;> cases b2 <;> cases b3 <;> cases b4 <;>
  · go_enter Tryz.func101, Tryz.ntmps101
    go_wp2
    go_ret
    exact ⟨by rw [E.out]; rfl, rfl⟩
/-- A byte of a name. -/
def nmb (c : Nat) : Bool := bgn c || fol c
theorem all_take {l : List UInt8} {p : UInt8 → Bool} {k : Nat} (h : k < l.length) : (l.take (k + 1)).all p = ((l.take k).all p && p l[k]) := by
  rw [List.take_succ_eq_append_getElem h, List.all_append]; simp
set_option maxRecDepth 100000 in
set_option maxHeartbeats 4000000 in
theorem isName_any (s : ByteArray) (w : World) (hs : s.size ≤ 1048576) :
    Calls Tryz.prog 83 #[.string s] w fun e w' => e = .returned (.bool (nameB s.data.toList)) ∧ w = w' := by
  have hl := By.len_size s
  have E : Hid (nameB s.data.toList = (!s.data.toList.isEmpty && decide (s.data.toList.length ≤ 64) && bgn (Sg.nb s.data.toList 0) && s.data.toList.all fun c => bgn c.toNat || fol c.toNat)) := rfl
  by_cases h0 : s.size = 0
  · obtain rfl := By.empty_of h0
    clear hl h0 hs
    go_enter Tryz.func83, Tryz.ntmps83
    go_wp2
    go_ret
    exact ⟨rfl, rfl⟩
  have hne := By.nonempty h0
  have he : s.data.toList.isEmpty = false := by rw [← ByteArray.toList_eq]; exact hne
  rw [he, hl] at E
  by_cases h64 : 64 < s.size
  · have d64 : decide ((64 : Int) < s.size) = true := by simp; omega
    have E2 : Hid (nameB s.data.toList = false) := by show _ = _; rw [E.out, decide_eq_false (by omega)]; rfl
    clear hl he h0 h64 E
    go_enter Tryz.func83, Tryz.ntmps83
    go_wp2
    go_ret
    exact ⟨by rw [E2.out]; rfl, rfl⟩
  have d64 : decide ((64 : Int) < s.size) = false := by simp; omega
  rw [decide_eq_true (show s.size ≤ 64 by omega)] at E
  have i0 : (0 : Int) < s.size := by omega
  have p0 : 0 < s.size := by omega
  have hb := By.byte_nb s 0 p0
  have hnb : By.nb s.data.toList 0 = Sg.nb s.data.toList 0 := rfl
  rw [hnb] at hb
  have MB := Lib.hid (fun W => mayBegin_any (Sg.nb s.data.toList 0) W)
  generalize Sg.nb s.data.toList 0 = y at hb MB E
  cases hbg : bgn y with
  | false =>
    have E2 : Hid (nameB s.data.toList = false) := by show _ = _; rw [E.out, hbg]; rfl
    rw [hbg] at MB
    clear hl he h0 h64 E hbg hnb
    go_enter Tryz.func83, Tryz.ntmps83
    go_wp2_with fail
    refine (MB.out _).mono ?_
    rintro r w' ⟨rfl, rfl⟩
    go_wp2_with fail
    go_ret
    exact ⟨by rw [E2.out]; rfl, rfl⟩
  | true =>
    have E2 : Hid (nameB s.data.toList = s.data.toList.all fun c => bgn c.toNat || fol c.toNat) := by show _ = _; rw [E.out, hbg]; rfl
    rw [hbg] at MB
    have HL := Lib.hid hl
    clear hl he h0 h64 E hbg hnb
    go_enter Tryz.func83, Tryz.ntmps83
    go_wp2_with fail
    refine (MB.out _).mono ?_
    rintro r w' ⟨rfl, rfl⟩
    go_wp2_with fail
    go_loop [19] (fun i => ∃ k : Nat, i = .int .i64 k ∧ k ≤ s.size ∧ Hid ((s.data.toList.take k).all (fun c => bgn c.toNat || fol c.toNat) = true)) (fun i => s.size - (RowKit.intOf i).toNat)
    case atStart => exact ⟨0, rfl, Nat.zero_le _, rfl⟩
    case round =>
      obtain ⟨k, rfl, hk, HA⟩ := hrel
      by_cases hlt : k < s.size
      · have hbk := By.byte_nb s k hlt
        have hlt2 : k < s.data.toList.length := by rw [HL.out]; exact hlt
        have hgk : (s.data.toList[k]'hlt2).toNat = By.nb s.data.toList k := by
          unfold By.nb
          rw [List.getD_eq_getElem?_getD, List.getElem?_eq_getElem hlt2]; rfl
        have HT := Lib.hid (all_take (p := fun c => bgn c.toNat || fol c.toNat) hlt2)
        have MB := Lib.hid (fun W => mayBegin_any (By.nb s.data.toList k) W)
        have MF := Lib.hid (fun W => mayFollow_any (By.nb s.data.toList k) W)
        have HM : Hid (s.data.toList[k]'hlt2 ∈ s.data.toList) := List.getElem_mem hlt2
        have HG : Hid ((bgn (s.data.toList[k]'hlt2).toNat || fol (s.data.toList[k]'hlt2).toNat) = (bgn (By.nb s.data.toList k) || fol (By.nb s.data.toList k))) := by show _ = _; rw [hgk]
        clear hgk
        generalize By.nb s.data.toList k = z at hbk MB MF HG
        generalize bgn z = b1 at MB HG
        generalize fol z = b2 at MF HG
        cases b1
        · cases b2
          · have E3 : Hid (nameB s.data.toList = false) := by
              show _ = _
              rw [E2.out, Bool.eq_false_iff]
              intro h
              have := List.all_eq_true.1 h _ HM.out
              rw [HG.out] at this
              cases this
            clear hlt2 HM HG HT
            go_wp2_with fail
            refine (MB.out _).mono ?_
            rintro r w' ⟨rfl, rfl⟩
            go_wp2_with fail
            refine (MF.out _).mono ?_
            rintro r w' ⟨rfl, rfl⟩
            go_wp2_with fail
            go_ret
            exact ⟨by rw [E3.out]; rfl, rfl⟩
          · have HA2 : Hid ((s.data.toList.take (k + 1)).all (fun c => bgn c.toNat || fol c.toNat) = true) := by
              show _ = _
              rw [HT.out, HA.out, HG.out]; rfl
            clear hlt2 HM HG HT
            go_wp2_with fail
            refine (MB.out _).mono ?_
            rintro r w' ⟨rfl, rfl⟩
            go_wp2_with fail
            refine (MF.out _).mono ?_
            rintro r w' ⟨rfl, rfl⟩
            go_wp2_with fail
            go_round
            case rel => exact ⟨k + 1, by go_num, by omega, HA2.out⟩
            case measure => simp [RowKit.intOf]; omega
        · have HA2 : Hid ((s.data.toList.take (k + 1)).all (fun c => bgn c.toNat || fol c.toNat) = true) := by
            show _ = _
            rw [HT.out, HA.out, HG.out]; rfl
          clear hlt2 HM HG HT
          go_wp2_with fail
          refine (MB.out _).mono ?_
          rintro r w' ⟨rfl, rfl⟩
          go_wp2_with fail
          go_round
          case rel => exact ⟨k + 1, by go_num, by omega, HA2.out⟩
          case measure => simp [RowKit.intOf]; omega
      · have E3 : Hid (nameB s.data.toList = true) := by
          have := HA.out
          rw [List.take_of_length_le (by rw [HL.out]; omega)] at this
          show _ = _
          rw [E2.out, this]
        go_wp2_with fail
        go_ret
        exact ⟨by rw [E3.out]; rfl, rfl⟩
theorem isText_any (s : ByteArray) (w : World) (hs : s.size ≤ 1048576) :
    Calls Tryz.prog 85 #[.string s] w fun e w' => e = .returned (.bool (isTx s.data.toList)) ∧ Below w.heap.size w w' := by
  by_cases h : ∃ cs, Sg.IsT s.data.toList cs
  · obtain ⟨cs, h⟩ := h
    have E : Hid (isTx s.data.toList = true) := (isTx_iff _).2 ⟨cs, h⟩
    have H := Lib.hid (fun W => check_yes s W hs h)
    clear h hs
    go_enter Tryz.func85, Tryz.ntmps85
    go_wp2_with fail
    refine (H.out _).mono ?_
    rintro r w' ⟨rfl, hb⟩
    have HB := Lib.hid hb
    clear hb
    go_wp2_with fail
    go_ret
    exact ⟨by rw [E.out]; rfl, HB.out⟩
  · have E : Hid (isTx s.data.toList = false) := by show _ = _; rw [Bool.eq_false_iff, ne_eq, isTx_iff]; exact h
    have H := Lib.hid (fun W => check_no s W hs fun cs hc => h ⟨cs, hc⟩)
    clear h hs
    go_enter Tryz.func85, Tryz.ntmps85
    go_wp2_with fail
    refine (H.out _).mono ?_
    rintro r w' ⟨rfl, hb⟩
    have HB := Lib.hid hb
    clear hb
    go_wp2_with fail
    go_ret
    exact ⟨by rw [E.out]; rfl, HB.out⟩
theorem isSpace_any (s : ByteArray) (w : World) (hs : s.size ≤ 1048576) :
    Calls Tryz.prog 84 #[.string s] w fun e w' => e = .returned (.bool (spaceB s.data.toList)) ∧ Below w.heap.size w w' := by
  have hl := By.len_size s
  have HB0 : Hid (Below w.heap.size w w) := Below.refl _ _
  have E : Hid (spaceB s.data.toList = (!s.data.toList.isEmpty && decide (s.data.toList.length ≤ 256) && isTx s.data.toList)) := rfl
  by_cases h0 : s.size = 0
  · obtain rfl := By.empty_of h0
    have E2 : Hid (spaceB (⟨#[]⟩ : ByteArray).data.toList = false) := E.out.trans (by simp)
    clear hl h0 hs E
    go_enter Tryz.func84, Tryz.ntmps84
    go_wp2
    go_ret
    exact ⟨by rw [E2.out]; rfl, HB0.out⟩
  have hne := By.nonempty h0
  have hne2 : (s.toList != []) = true := by
    rw [bne_iff_ne]; intro h; rw [h] at hne; cases hne
  have he : s.data.toList.isEmpty = false := by rw [← ByteArray.toList_eq]; exact hne
  rw [he, hl] at E
  by_cases h64 : s.size ≤ 256
  · have d64 : decide ((s.size : Int) ≤ 256) = true := by simp; omega
    have E2 : Hid (spaceB s.data.toList = isTx s.data.toList) := by show _ = _; rw [E.out, decide_eq_true h64]; rfl
    have H := Lib.hid (fun W => isText_any s W hs)
    generalize isTx s.data.toList = b at H E2
    clear hl he h0 h64 E
    go_enter Tryz.func84, Tryz.ntmps84
    go_wp2_with fail
    refine (H.out _).mono ?_
    rintro r w' ⟨rfl, hb⟩
    have HB := Lib.hid hb
    clear hb
    go_wp2_with fail
    go_ret
    exact ⟨by rw [E2.out]; rfl, HB.out⟩
  · have d64 : decide ((s.size : Int) ≤ 256) = false := by simp; omega
    have E2 : Hid (spaceB s.data.toList = false) := by show _ = _; rw [E.out, decide_eq_false h64]; rfl
    clear hl he h0 h64 E
    go_enter Tryz.func84, Tryz.ntmps84
    go_wp2
    go_ret
    exact ⟨by rw [E2.out]; rfl, HB0.out⟩
theorem isAttrName_any (s : ByteArray) (w : World) (hs : s.size ≤ 1048576) :
    Calls Tryz.prog 86 #[.string s] w fun e w' => e = .returned (.bool (attrNameB s.data.toList)) ∧ w = w' := by
  have E : Hid (attrNameB s.data.toList = (s.data.toList == xlang || (!(s.data.toList == xmlns) && nameB s.data.toList))) := rfl
  have N := Lib.hid (fun W => isName_any s W hs)
  by_cases h1 : s.data.toList = xlang
  · obtain rfl : s = ⟨#[120, 109, 108, 58, 108, 97, 110, 103]⟩ := bytes_eq h1
    have E2 : Hid (attrNameB (⟨#[120, 109, 108, 58, 108, 97, 110, 103]⟩ : ByteArray).data.toList = true) := by show _ = _; decide
    clear E N h1 hs
    go_enter Tryz.func86, Tryz.ntmps86
    go_wp2_with fail
    go_ret
    exact ⟨by rw [E2.out]; rfl, rfl⟩
  by_cases h2 : s.data.toList = xmlns
  · obtain rfl : s = ⟨#[120, 109, 108, 110, 115]⟩ := bytes_eq h2
    have E2 : Hid (attrNameB (⟨#[120, 109, 108, 110, 115]⟩ : ByteArray).data.toList = false) := by show _ = _; decide
    clear E N h1 h2 hs
    go_enter Tryz.func86, Tryz.ntmps86
    go_wp2_with fail
    go_ret
    exact ⟨by rw [E2.out]; rfl, rfl⟩
  have n1 : ¬ s.toList = [120, 109, 108, 58, 108, 97, 110, 103] := by rw [ByteArray.toList_eq]; exact h1
  have n2 : ¬ s.toList = [120, 109, 108, 110, 115] := by rw [ByteArray.toList_eq]; exact h2
  have m1 : (s.toList == [120, 109, 108, 58, 108, 97, 110, 103]) = false := by rw [beq_eq_false_iff_ne]; exact n1
  have m2 : (s.toList == [120, 109, 108, 110, 115]) = false := by rw [beq_eq_false_iff_ne]; exact n2
  have E2 : Hid (attrNameB s.data.toList = nameB s.data.toList) := by
    show _ = _
    rw [E.out, show (s.data.toList == xlang) = false from by simpa using h1, show (s.data.toList == xmlns) = false from by simpa using h2]; rfl
  generalize nameB s.data.toList = b at N E2
  clear E h1 h2 hs
  go_enter Tryz.func86, Tryz.ntmps86
  go_wp2_with fail
  refine (N.out _).mono ?_
  rintro r w' ⟨rfl, rfl⟩
  go_wp2_with fail
  go_ret
  exact ⟨by rw [E2.out]; rfl, rfl⟩

end Go.Proofs.YtccpdfcmhggleaaGreatDoor

namespace Go.Proofs.YtccpdfcmhggleaaGreatDoor
open Go.RowKit Go.Lib Go.Shelf Tg

theorem isAt_any (n v nm : ByteArray) (Bn : Nat) (w : World) (h : w.cell? ⟨Bn, 0, none⟩ = some (.string nm)) :
    Calls Tryz.prog 102 #[.agg #[.string n, .string v], .pointer (some ⟨Bn, 0, none⟩)] w fun e w' => e = .returned (.bool (n.data.toList == nm.data.toList)) ∧ Below w.heap.size w w' := by
  have h1 := cell_alloc h (.cells #[.string n, .string v] 49)
  have E : Hid ((n.toList == nm.toList) = (n.data.toList == nm.data.toList)) := by show _ = _; rw [ByteArray.toList_eq, ByteArray.toList_eq]
  go_enter Tryz.func102, Tryz.ntmps102
  go_wp2
  go_ret
  exact ⟨by rw [← E.out]; rfl, (Below.refl _ _).alloc (Nat.le_refl _) _⟩
theorem hasB_take {l : List (ByteArray × ByteArray)} {k : Nat} (h : k < l.length) (nm : ByteArray) : hasB (l.take (k + 1)) nm = (hasB (l.take k) nm || l[k].1.data.toList == nm.data.toList) := by
  unfold hasB
  rw [List.take_succ_eq_append_getElem h, List.any_append]; simp
theorem hasB_mem {l : List (ByteArray × ByteArray)} {k : Nat} (h : k < l.length) {nm : ByteArray} (he : (l[k].1.data.toList == nm.data.toList) = true) : hasB l nm = true :=
  List.any_eq_true.2 ⟨_, List.getElem_mem h, he⟩
/-- What the search gives. -/
def IxP (l : List (ByteArray × ByteArray)) (nm : ByteArray) (w : World) (e : Ending) (w' : World) : Prop :=
  ((∃ i : Nat, hasB l nm = true ∧ e = .returned (.int .i64 i)) ∨ (hasB l nm = false ∧ e = .returned (.int .i64 (-1)))) ∧ Below w.heap.size w w'
set_option maxRecDepth 100000 in
set_option maxHeartbeats 4000000 in
theorem indexFunc_any (l : List (ByteArray × ByteArray)) (nm : ByteArray) (Bn : Nat) (a : Option Addr) (c : Nat) (w : World) (h : w.cell? ⟨Bn, 0, none⟩ = some (.string nm)) (hl : l.length ≤ 20000) (hA : AtIn w.heap.size w a l) :
    Calls Tryz.prog 65 #[.slice a l.length c, .func (.func 102) #[] #[.pointer (some ⟨Bn, 0, none⟩)]] w (IxP l nm w) := by
  have HA := Lib.hid hA
  have HC := Lib.hid h
  have HW : Hid (Below w.heap.size w w) := Below.refl _ _
  have hBn : Bn < w.heap.size := World.block_lt_of_cell? w _ h
  clear hA h
  go_enter Tryz.func65, Tryz.ntmps65
  go_wp2_with fail
  go_loopw [8] (fun i wr => ∃ k : Nat, i = .int .i64 k ∧ k ≤ l.length ∧ Hid (hasB (l.take k) nm = false) ∧ Hid (Below w.heap.size w wr)) (fun i _ => l.length - (RowKit.intOf i).toNat)
  case atStart => exact ⟨0, rfl, Nat.zero_le _, rfl, HW.out⟩
  case round =>
    obtain ⟨k, rfl, hk, HO, HB⟩ := hrel
    by_cases hlt : k < l.length
    · obtain ⟨b, o, rfl, hb, y0, y1⟩ := (HA.out.below HB.out) k hlt
      have hz : (⟨Bn, 0, none⟩ : Addr).block < w.heap.size := hBn
      have HF := Lib.hid (isAt_any l[k].1 l[k].2 nm Bn wr ((HB.out.cell hz).trans HC.out))
      have HT := Lib.hid (hasB_take hlt nm)
      have HM := Lib.hid (fun he => hasB_mem (nm := nm) hlt he)
      generalize (l[k].1.data.toList == nm.data.toList) = bb at HF HT HM
      clear hz
      cases bb with
      | true =>
        have HM2 : Hid (hasB l nm = true) := HM.out rfl
        clear HM
        go_wp2_with fail
        refine HF.out.mono ?_
        rintro r w1 ⟨rfl, hbb⟩
        have HB1 := Lib.hid (more HB.out (Nat.le_refl _) hbb)
        clear hbb
        go_wp2_with fail
        go_ret
        exact ⟨.inl ⟨k, HM2.out, rfl⟩, HB1.out⟩
      | false =>
        go_wp2_with fail
        refine HF.out.mono ?_
        rintro r w1 ⟨rfl, hbb⟩
        have HB1 := Lib.hid (more HB.out (Nat.le_refl _) hbb)
        have HT2 : Hid (hasB (l.take (k + 1)) nm = false) := by show _ = _; rw [HT.out, HO.out]; rfl
        clear hbb
        go_wp2_with fail
        go_roundw
        case rel => exact ⟨k + 1, by go_num, by omega, HT2.out, HB1.out⟩
        case measure => simp [RowKit.intOf]; omega
    · have HN : Hid (hasB l nm = false) := by
        have := HO.out
        rw [List.take_of_length_le (by omega)] at this
        exact this
      go_wp2_with fail
      go_ret
      exact ⟨.inr ⟨HN.out, rfl⟩, HB.out⟩
theorem containsFunc_any (l : List (ByteArray × ByteArray)) (nm : ByteArray) (Bn : Nat) (a : Option Addr) (c : Nat) (w : World) (h : w.cell? ⟨Bn, 0, none⟩ = some (.string nm)) (hl : l.length ≤ 20000) (hA : AtIn w.heap.size w a l) :
    Calls Tryz.prog 30 #[.slice a l.length c, .func (.func 102) #[] #[.pointer (some ⟨Bn, 0, none⟩)]] w fun e w' => e = .returned (.bool (hasB l nm)) ∧ Below w.heap.size w w' := by
  have H := Lib.hid (indexFunc_any l nm Bn a c w h hl hA)
  clear h hA hl
  go_enter Tryz.func30, Tryz.ntmps30
  go_wp2_with fail
  refine H.out.mono ?_
  rintro r w1 ⟨hr, hb⟩
  have HB := Lib.hid hb
  clear hb
  rcases hr with ⟨i, hh, rfl⟩ | ⟨hh, rfl⟩
  · have HH := Lib.hid hh
    clear hh
    go_wp2_with fail
    go_ret
    exact ⟨by rw [HH.out]; rfl, HB.out⟩
  · have HH := Lib.hid hh
    clear hh
    go_wp2_with fail
    go_ret
    exact ⟨by rw [HH.out]; rfl, HB.out⟩
theorem hasAttr_any (l : List (ByteArray × ByteArray)) (nm : ByteArray) (a : Option Addr) (c : Nat) (w : World) (hl : l.length ≤ 20000) (hA : AtIn w.heap.size w a l) :
    Calls Tryz.prog 87 #[.slice a l.length c, .string nm] w fun e w' => e = .returned (.bool (hasB l nm)) ∧ Below w.heap.size w w' := by
  have HW : Hid (Below w.heap.size w (w.alloc (.cells #[.string nm] 9))) := (Below.refl _ _).alloc (Nat.le_refl _) _
  have H := Lib.hid (containsFunc_any l nm w.heap.size a c (w.alloc (.cells #[.string nm] 9)) (by simp) hl ((hA.below HW.out).up HW.out.size))
  clear hA hl
  go_enter Tryz.func87, Tryz.ntmps87
  go_wp2_with fail
  refine H.out.mono ?_
  rintro r w1 ⟨rfl, hb⟩
  have HB := Lib.hid (more HW.out (Nat.le_refl _) hb)
  clear hb
  go_wp2_with fail
  go_ret
  exact ⟨rfl, HB.out⟩

end Go.Proofs.YtccpdfcmhggleaaGreatDoor
