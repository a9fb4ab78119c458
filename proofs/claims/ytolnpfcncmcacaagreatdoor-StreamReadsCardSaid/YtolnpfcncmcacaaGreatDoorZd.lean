/- Contracts of stream's handshake, isHeader, reason, End. Conditions: texts have at most 6000 bytes; the error is a number of 64 bits. -/
import Derived.Test.YtolnpfcncmcacaaGreatDoorZc
import Derived.Test.YtolnpfcncmcacaaGreatDoorQS
set_option maxRecDepth 100000
set_option maxHeartbeats 4000000
namespace Go.Proofs.YtolnpfcncmcacaaGreatDoor
open Go.RowKit Go.Lib Go.Shelf Tg Sn
def idN : ByteArray := ⟨#[105, 100]⟩
def streamN : ByteArray := ⟨#[115, 116, 114, 101, 97, 109]⟩
def compS : ByteArray := ⟨#[106, 97, 98, 98, 101, 114, 58, 99, 111, 109, 112, 111, 110, 101, 110, 116, 58, 97, 99, 99, 101, 112, 116]⟩
def shakeN : ByteArray := ⟨#[104, 97, 110, 100, 115, 104, 97, 107, 101]⟩
def hexT (id s : ByteArray) : ByteArray := ⟨(Dg.hx (Dg.sha1 (id ++ s).data.toList)).toArray⟩
theorem hexT_list (id s : ByteArray) : (hexT id s).data.toList = Dg.hx (Dg.sha1 (id ++ s).data.toList) := by simp [hexT]
def shakeT (id s : ByteArray) : ByteArray := ⟨#[60, 104, 97, 110, 100, 115, 104, 97, 107, 101, 62]⟩ ++ hexT id s ++ ⟨#[60, 47, 104, 97, 110, 100, 115, 104, 97, 107, 101, 62]⟩
theorem sha1_20 (l : List UInt8) : (Dg.sha1 l).length = 20 := Dg.sha1_length l
theorem hexT_size (id s : ByteArray) : (hexT id s).size = 40 := by
  rw [Lib.size_eq, hexT_list, Dg.hx_length, sha1_20]
theorem handshake_any (id s : ByteArray) (w : World) (h1 : id.size ≤ 6000) (h2 : s.size ≤ 6000) :
    Calls Tryz.prog 36 #[.string id, .string s] w fun e w' => e = .returned (.string (shakeT id s)) ∧ Below w.heap.size w w' := by
  have hz : (id ++ s).size ≤ 100000 := by rw [ByteArray.size_append]; omega
  have C1 := Lib.hid (fun W => Dn.sha1_any (id ++ s) W hz)
  have C2 : Hid (∀ W, Calls Tryz.prog 59 #[.string ⟨(Dg.sha1 (id ++ s).data.toList).toArray⟩] W fun e w' => e = .returned (.string (hexT id s)) ∧ Below W.heap.size W w') := fun W => by
    have := Dn.hex_any ⟨(Dg.sha1 (id ++ s).data.toList).toArray⟩ W (by rw [Lib.size_eq]; simp [sha1_20])
    simpa [hexT] using this
  have hx := hexT_size id s
  unfold shakeT
  generalize hexT id s = H at C2 hx ⊢
  generalize Dg.sha1 (id ++ s).data.toList = D at C1 C2
  go_enter Tryz.func36, Tryz.ntmps36
  go_wp2_with fail
  refine (C1.out _).mono ?_
  rintro r w1 ⟨rfl, hb⟩
  have HB1 := Lib.hid hb
  clear hb
  go_wp2_with fail
  refine (C2.out _).mono ?_
  rintro r w2 ⟨rfl, hb⟩
  have HB2 := Lib.hid (HB1.out.trans (hb.mono HB1.out.size))
  clear hb
  go_wp2_with fail
  go_ret
  exact ⟨rfl, HB2.out⟩
def spL : List UInt8 := [104, 116, 116, 112, 58, 47, 47, 101, 116, 104, 101, 114, 120, 46, 106, 97, 98, 98, 101, 114, 46, 111, 114, 103, 47, 115, 116, 114, 101, 97, 109, 115]
def streamL : List UInt8 := [115, 116, 114, 101, 97, 109]
def hdB (k : Int) (sp nm : ByteArray) (l : List At) : Bool := decide (k = 1) && ((sp.toList == spL) && ((nm.toList == streamL) && !(attrV l idN).toList.isEmpty))
theorem isHeader_any (k er : Int) (sp nm tx : ByteArray) (l : List At) (aA aK : Option Addr) (cA nK cK B : Nat) (w : World) (hA : AtIn B w aA l) (hB : B ≤ w.heap.size) (hl : l.length ≤ maxLen) (hs : ∀ a ∈ l, a.2.size ≤ 1048576) :
    Calls Tryz.prog 35 #[.agg #[.int .i64 k, .string sp, .string nm, .slice aA l.length cA, .string tx, .slice aK nK cK, .int .i64 er]] w fun e w' => e = .returned (.bool (hdB k sp nm l)) ∧ Below w.heap.size w w' := by
  have HW0 : Hid (Below w.heap.size w (w.alloc (.cells #[.int .i64 k, .string sp, .string nm, .slice aA l.length cA, .string tx, .slice aK nK cK, .int .i64 er] 50))) := (Below.refl _ w).alloc (Nat.le_refl _) _
  have C : Hid (∀ W, Below w.heap.size w W → Calls Tryz.prog 37 #[.agg #[.string sp, .string nm, .slice aA l.length cA, .string tx, .slice aK nK cK], .string idN] W fun r w' => r = .returned (.string (attrV l idN)) ∧ Below W.heap.size W w') :=
    fun W hb => tAttr_any sp nm tx idN l aA aK cA nK cK B W (hA.below (hb.mono hB)) (Nat.le_trans hB hb.size) hl hs
  have C := Lib.hid (C.out _ HW0.out)
  clear hA hs
  unfold hdB
  by_cases h1 : k = 1
  · subst h1
    generalize attrV l idN = v at C
    unfold idN at C
    unfold spL streamL
    by_cases h2 : sp.toList = [104, 116, 116, 112, 58, 47, 47, 101, 116, 104, 101, 114, 120, 46, 106, 97, 98, 98, 101, 114, 46, 111, 114, 103, 47, 115, 116, 114, 101, 97, 109, 115]
    · have e2 : (sp.toList == [104, 116, 116, 112, 58, 47, 47, 101, 116, 104, 101, 114, 120, 46, 106, 97, 98, 98, 101, 114, 46, 111, 114, 103, 47, 115, 116, 114, 101, 97, 109, 115]) = true := by rw [h2]; rfl
      by_cases h3 : nm.toList = [115, 116, 114, 101, 97, 109]
      · have e3 : (nm.toList == [115, 116, 114, 101, 97, 109]) = true := by rw [h3]; rfl
        rw [e2, e3]
        by_cases h4 : v.toList.isEmpty = true
        · rw [h4]
          go_enter Tryz.func35, Tryz.ntmps35
          go_wp2_with fail
          refine C.out.mono ?_
          rintro r w1 ⟨rfl, hb⟩
          have HB1 := Lib.hid (HW0.out.trans (hb.mono HW0.out.size))
          clear hb
          go_wp2_with fail
          go_ret
          exact ⟨rfl, HB1.out⟩
        · have h4 : v.toList.isEmpty = false := by simpa using h4
          rw [h4]
          go_enter Tryz.func35, Tryz.ntmps35
          go_wp2_with fail
          refine C.out.mono ?_
          rintro r w1 ⟨rfl, hb⟩
          have HB1 := Lib.hid (HW0.out.trans (hb.mono HW0.out.size))
          clear hb
          go_wp2_with fail
          go_ret
          exact ⟨rfl, HB1.out⟩
      · have e3 : (nm.toList == [115, 116, 114, 101, 97, 109]) = false := beq_eq_false_iff_ne.2 h3
        rw [e2, e3]
        go_enter Tryz.func35, Tryz.ntmps35
        go_wp2_with fail
        go_ret
        exact ⟨rfl, HW0.out⟩
    · have e2 : (sp.toList == [104, 116, 116, 112, 58, 47, 47, 101, 116, 104, 101, 114, 120, 46, 106, 97, 98, 98, 101, 114, 46, 111, 114, 103, 47, 115, 116, 114, 101, 97, 109, 115]) = false := beq_eq_false_iff_ne.2 h2
      rw [e2]
      go_enter Tryz.func35, Tryz.ntmps35
      go_wp2_with fail
      go_ret
      exact ⟨rfl, HW0.out⟩
  · have e1 : (k == 1) = false := beq_eq_false_iff_ne.2 h1
    rw [decide_eq_false h1]
    clear h1
    go_enter Tryz.func35, Tryz.ntmps35
    go_wp2_with fail
    go_ret
    exact ⟨rfl, HW0.out⟩
def reasonOf (p k er : Int) (sp nm : ByteArray) : ByteArray := if k = 4 then condOf er else if k = 3 then ⟨#[]⟩ else if p ≠ 1 ∧ stB k sp nm spS errN = true then ⟨#[]⟩ else ⟨#[105, 110, 118, 97, 108, 105, 100, 45, 120, 109, 108]⟩
theorem reasonOf_size (p k er : Int) (sp nm : ByteArray) : (reasonOf p k er sp nm).size ≤ 20 := by
  unfold reasonOf
  split
  · exact condOf_size er
  · split
    · decide
    · split <;> decide
theorem reason_any (d s : ByteArray) (p k er : Int) (sp nm tx : ByteArray) (aA aK : Option Addr) (nA cA nK cK : Nat) (w : World) (he : (Lit.int .i64 er).wf = true) :
    Calls Tryz.prog 41 #[.agg #[.string d, .string s, .int .i64 p], .agg #[.int .i64 k, .string sp, .string nm, .slice aA nA cA, .string tx, .slice aK nK cK, .int .i64 er]] w fun e w' => e = .returned (.string (reasonOf p k er sp nm)) ∧ Below w.heap.size w w' := by
  have HW0 : Hid (Below w.heap.size w ((w.alloc (.cells #[.string d, .string s, .int .i64 p] 40)).alloc (.cells #[.int .i64 k, .string sp, .string nm, .slice aA nA cA, .string tx, .slice aK nK cK, .int .i64 er] 50))) := ((Below.refl _ w).alloc (Nat.le_refl _) _).alloc (by simp) _
  have C1 := Lib.hid (fun W => conditionOf_any er W he)
  have C2 := Lib.hid (fun W => isError_any k er sp nm tx aA aK nA cA nK cK W)
  unfold reasonOf
  by_cases h4 : k = 4
  · subst h4
    rw [if_pos rfl]
    go_enter Tryz.func41, Tryz.ntmps41
    go_wp2_with fail
    refine (C1.out _).mono ?_
    rintro r w1 ⟨rfl, hb⟩
    have HB1 := Lib.hid (HW0.out.trans (hb.mono HW0.out.size))
    clear hb
    go_wp2_with fail
    go_ret
    exact ⟨rfl, HB1.out⟩
  have e4 : (k == 4) = false := beq_eq_false_iff_ne.2 h4
  rw [if_neg h4]
  by_cases h3 : k = 3
  · subst h3
    rw [if_pos rfl]
    go_enter Tryz.func41, Tryz.ntmps41
    go_wp2_with fail
    go_ret
    exact ⟨rfl, HW0.out⟩
  have e3 : (k == 3) = false := beq_eq_false_iff_ne.2 h3
  rw [if_neg h3]
  clear h3 h4
  by_cases h1 : p = 1
  · subst h1
    rw [if_neg (fun h => h.1 rfl)]
    go_enter Tryz.func41, Tryz.ntmps41
    go_wp2_with fail
    go_ret
    exact ⟨rfl, HW0.out⟩
  have e1 : (p != 1) = true := by simpa using h1
  generalize hq : stB k sp nm spS errN = q at C2
  cases q with
  | true =>
    rw [if_pos ⟨h1, rfl⟩]
    clear h1
    go_enter Tryz.func41, Tryz.ntmps41
    go_wp2_with fail
    refine (C2.out _).mono ?_
    rintro r w1 ⟨rfl, hb⟩
    have HB1 := Lib.hid (HW0.out.trans (hb.mono HW0.out.size))
    clear hb
    go_wp2_with fail
    go_ret
    exact ⟨rfl, HB1.out⟩
  | false =>
    rw [if_neg (fun h => by cases h.2)]
    clear h1
    go_enter Tryz.func41, Tryz.ntmps41
    go_wp2_with fail
    refine (C2.out _).mono ?_
    rintro r w1 ⟨rfl, hb⟩
    have HB1 := Lib.hid (HW0.out.trans (hb.mono HW0.out.size))
    clear hb
    go_wp2_with fail
    go_ret
    exact ⟨rfl, HB1.out⟩
end Go.Proofs.YtolnpfcncmcacaaGreatDoor
