/- Contracts of stanza's kindOfError, condOf, kindOf, isAddressed, hasType, hasTexts, hasLoad. Condition: texts have at most 1048576 bytes; the elements are not too much. -/
import Derived.Test.YtccpdfcmhggleaaGreatDoorSc
namespace Go.Proofs.YtccpdfcmhggleaaGreatDoor
open Go.RowKit Go.Lib Go.Shelf Tg St

theorem bx14 {w : World} {b : Nat} {v0 v1 v2 v3 v4 v5 v6 v7 v8 v9 v10 v11 v12 v13 : Value} {t : TypeId} {fz : Nat × Nat} (h : w.heap[b]? = some (.cells #[v0, v1, v2, v3, v4, v5, v6, v7, v8, v9, v10, v11, v12, v13] t fz)) :
    w.cell? ⟨b, 0, none⟩ = some v0 ∧ w.cell? ⟨b, 1, none⟩ = some v1 ∧ w.cell? ⟨b, 2, none⟩ = some v2 ∧ w.cell? ⟨b, 3, none⟩ = some v3 ∧ w.cell? ⟨b, 4, none⟩ = some v4 ∧ w.cell? ⟨b, 5, none⟩ = some v5 ∧ w.cell? ⟨b, 6, none⟩ = some v6 ∧ w.cell? ⟨b, 7, none⟩ = some v7 ∧ w.cell? ⟨b, 8, none⟩ = some v8 ∧ w.cell? ⟨b, 9, none⟩ = some v9 ∧ w.cell? ⟨b, 10, none⟩ = some v10 ∧ w.cell? ⟨b, 11, none⟩ = some v11 ∧ w.cell? ⟨b, 12, none⟩ = some v12 ∧ w.cell? ⟨b, 13, none⟩ = some v13 := by
  refine ⟨?_, ?_, ?_, ?_, ?_, ?_, ?_, ?_, ?_, ?_, ?_, ?_, ?_, ?_⟩ <;> (rw [Lib.cell_of_heap h]; rfl)
/-! ### kindOfError, condOf -/
set_option maxRecDepth 100000 in
set_option maxHeartbeats 4000000 in
theorem kindOfError_any (c : ByteArray) (w : World) (hc : c.size ≤ 1048576) :
    Calls Tryz.prog 40 #[.string c] w fun e w' => e = .returned (.string (kindOfErr c)) ∧ Below w.heap.size w w' := by
  have HC := Lib.hid (conditions_any w)
  go_enter Tryz.func40, Tryz.ntmps40
  go_wp2_with fail
  refine HC.out.mono ?_
  rintro r w1 ⟨b, rfl, hm, hb⟩
  obtain ⟨s, hlk, hsk⟩ := hm.look c hc
  have hlk0 := hlk w1 (Below.refl _ _)
  have HB := Lib.hid hb
  have HK := Lib.hid hsk
  have HNO : Hid (isCond c = false → kindOfErr c = eCan) := by
    intro h
    unfold kindOfErr
    have : conds.find? (fun p => eqb c p.1) = none := by
      rw [List.find?_eq_none]
      intro p hp he
      unfold isCond at h
      rw [List.any_eq_false] at h
      exact h p hp he
    rw [this]
  clear hlk hb hm hsk HC
  generalize isCond c = t at hlk0 HK HNO
  cases t with
  | true =>
    have HE : Hid (s = kindOfErr c) := HK.out rfl
    clear HK HNO
    go_wp2_with fail
    go_ret
    exact ⟨by rw [← HE.out]; rfl, HB.out.alloc HB.out.size _⟩
  | false =>
    have HE : Hid (kindOfErr c = eCan) := HNO.out rfl
    clear HK HNO
    go_wp2_with fail
    go_ret
    exact ⟨by rw [HE.out]; rfl, HB.out.alloc HB.out.size _⟩
theorem condOf_drop {l : List El} {k : Nat} (h : k < l.length) : condOf (l.drop k) = if (isCond l[k].nm && eqb l[k].sp ER) = true then l[k].nm else condOf (l.drop (k + 1)) := by
  unfold condOf
  rw [List.drop_eq_getElem_cons h, List.find?_cons]
  cases (isCond l[k].nm && eqb l[k].sp ER) <;> rfl
set_option maxRecDepth 100000 in
set_option maxHeartbeats 8000000 in
theorem condOf_any (sp nm tx : ByteArray) (l : List El) (aA aK : Option Addr) (nA cA cK B : Nat) (w : World) (hK : KsIn B w aK l) (hB : B ≤ w.heap.size) (hw : wts l ≤ 20000) :
    Calls Tryz.prog 69 #[.agg #[.string sp, .string nm, .slice aA nA cA, .string tx, .slice aK l.length cK]] w fun e w' => e = .returned (.string (condOf l)) ∧ Below w.heap.size w w' := by
  have HK := Lib.hid hK
  have HB := Lib.hid hB
  have hl : l.length ≤ 20000 := by have := wts_len l; omega
  have HKW : Hid (∀ k ∈ l, k.nm.size ≤ 1048576) := fun k hk => by have := wts_mem hk; have := wt_eq k; omega
  have HW0 : Hid (Below w.heap.size w (w.alloc (.cells #[.string sp, .string nm, .slice aA nA cA, .string tx, .slice aK l.length cK] 29))) := (Below.refl _ w).alloc (Nat.le_refl _) _
  have HX0 := Lib.hid (box_new w #[.string sp, .string nm, .slice aA nA cA, .string tx, .slice aK l.length cK] 29)
  have HD0 : Hid (condOf (l.drop 0) = condOf l) := by show _ = _; rw [List.drop_zero]
  clear hK hB hw
  go_enter Tryz.func69, Tryz.ntmps69
  go_wp2_with fail
  refine (conditions_any _).mono ?_
  rintro r w1 ⟨bm, rfl, hm, hb1⟩
  have HB1 := Lib.hid (HW0.out.trans (hb1.mono HW0.out.size))
  have HX1 := Lib.hid ((hb1.block _ (heap_lt HX0.out)).trans HX0.out)
  have HM1 := Lib.hid hm
  obtain ⟨x0, x1, x2, x3, x4⟩ := bx5 HX1.out
  clear hb1 hm HW0 HX0
  go_wp2_with fail
  clear x0 x1 x2 x3 x4
  go_loopw [12] (fun i wr => ∃ k : Nat, i = .int .i64 k ∧ k ≤ l.length ∧ Hid (condOf (l.drop k) = condOf l) ∧ Hid (Below w.heap.size w wr) ∧ Hid (CondM bm wr)) (fun i _ => l.length - (RowKit.intOf i).toNat)
  case atStart => exact ⟨0, rfl, Nat.zero_le _, HD0.out, HB1.out, HM1.out⟩
  case round =>
    clear HD0 HB1 HX1 HM1
    obtain ⟨k, rfl, hk, HD, HBW, HM⟩ := hrel
    by_cases hlt : k < l.length
    · obtain ⟨b, o, a1, c1, a2, c2, rfl, hb, hf5, hkin⟩ := (HK.out.below (HBW.out.mono HB.out)) k hlt
      obtain ⟨y0, y1, y2, y3, y4⟩ := hf5
      have hdv := condOf_drop hlt
      have hkw := HKW.out _ (List.getElem_mem hlt)
      rw [HD.out] at hdv
      clear hkin
      generalize l[k] = K at y0 y1 y2 y3 y4 hdv hkw
      have HBA : Hid (∀ o, Below w.heap.size w (wr.alloc o)) := fun o => HBW.out.alloc HBW.out.size o
      obtain ⟨s, hlk, _⟩ := HM.out.look K.nm hkw
      have hlk1 := fun o => hlk (wr.alloc o) ((Below.refl _ wr).alloc (Nat.le_refl _) o)
      have HMA : Hid (∀ o o', CondM bm ((wr.alloc o).alloc o')) := fun o o' => (HM.out.later ((Below.refl _ wr).alloc (Nat.le_refl _) o)).later ((Below.refl _ _).alloc (Nat.le_refl _) o')
      have HBB : Hid (∀ o o', Below w.heap.size w ((wr.alloc o).alloc o')) := fun o o' => (HBA.out o).alloc (HBA.out o).size o'
      clear hlk
      generalize isCond K.nm = t at hlk1 hdv
      cases t with
      | true =>
        by_cases he : K.sp.data.toList = [117, 114, 110, 58, 105, 101, 116, 102, 58, 112, 97, 114, 97, 109, 115, 58, 120, 109, 108, 58, 110, 115, 58, 120, 109, 112, 112, 45, 115, 116, 97, 110, 122, 97, 115]
        · have he2 : K.sp.toList = [117, 114, 110, 58, 105, 101, 116, 102, 58, 112, 97, 114, 97, 109, 115, 58, 120, 109, 108, 58, 110, 115, 58, 120, 109, 112, 112, 45, 115, 116, 97, 110, 122, 97, 115] := by rw [ByteArray.toList_eq]; exact he
          have he3 := lit_eq he
          have HE : Hid (condOf l = K.nm) := by
            show _ = _
            rw [hdv, if_pos]
            rw [show K.sp = ER from By.bytes_ext he, eqb_self]; rfl
          clear hdv HD he
          go_wp2_with fail
          go_ret
          exact ⟨by rw [HE.out]; rfl, HBB.out _ _⟩
        · obtain ⟨n0, m0⟩ := lit_ne he
          have HE : Hid (condOf (l.drop (k + 1)) = condOf l) := by
            show _ = _
            rw [hdv, if_neg]
            rw [show eqb K.sp ER = false from eqb_lit he]; simp
          clear hdv HD he
          go_wp2_with fail
          go_roundw
          case rel => exact ⟨k + 1, by go_num, by omega, HE.out, HBB.out _ _, HMA.out _ _⟩
          case measure => simp [RowKit.intOf]; omega
      | false =>
        have HE : Hid (condOf (l.drop (k + 1)) = condOf l) := by
          show _ = _
          rw [hdv, if_neg (by simp)]
        clear hdv HD
        go_wp2_with fail
        go_roundw
        case rel => exact ⟨k + 1, by go_num, by omega, HE.out, HBB.out _ _, HMA.out _ _⟩
        case measure => simp [RowKit.intOf]; omega
    · obtain rfl : k = l.length := by omega
      have HE : Hid (condOf l = cUndef) := by
        show _ = _
        rw [← HD.out, List.drop_length]; rfl
      go_wp2_with fail
      go_ret
      exact ⟨by rw [HE.out]; rfl, HBW.out⟩
/-! ### kindOf -/
set_option maxRecDepth 100000 in
set_option maxHeartbeats 4000000 in
theorem kindOf_any (n : ByteArray) (w : World) :
    Calls Tryz.prog 32 #[.string n] w fun e w' => e = .returned (.int .i64 (kindOf n)) ∧ Below w.heap.size w w' := by
  have C1 := Lib.hid (fun W => nameOf_any 1 W)
  have C2 := Lib.hid (fun W => nameOf_any 2 W)
  have C3 := Lib.hid (fun W => nameOf_any 3 W)
  have HB := Lib.hid (fun (o : Obj) => (Below.refl w.heap.size w).alloc (Nat.le_refl _) o)
  have e1 : nameOf 1 = nPre := rfl
  have e2 : nameOf 2 = nMsg := rfl
  have e3 : nameOf 3 = nIq := rfl
  rw [e1] at C1
  rw [e2] at C2
  rw [e3] at C3
  have t1 : (nPre.toList == n.toList) = eqb nPre n := rfl
  have t2 : (nMsg.toList == n.toList) = eqb nMsg n := rfl
  have t3 : (nIq.toList == n.toList) = eqb nIq n := rfl
  have HE : Hid (kindOf n = if eqb nPre n = true then 1 else if eqb nMsg n = true then 2 else if eqb nIq n = true then 3 else 0) := rfl
  generalize eqb nPre n = b1 at t1 HE
  generalize eqb nMsg n = b2 at t2 HE
  generalize eqb nIq n = b3 at t3 HE
  clear e1 e2 e3
  generalize nPre = p1 at *
  generalize nMsg = p2 at *
  generalize nIq = p3 at *
  go_enter Tryz.func32, Tryz.ntmps32
  go_wp2_with fail
  refine wp_loop_rounds 4 ?_
  rw [rounds_succ]
  go_wp2_with fail
  refine (C1.out _).mono ?_
  rintro r w1 ⟨rfl, rfl⟩
  cases b1 with
  | true =>
    go_wp2_with fail
    go_ret
    exact ⟨by rw [HE.out]; rfl, HB.out _⟩
  | false =>
    go_wp2_with fail
    rw [rounds_succ]
    go_wp2_with fail
    refine (C2.out _).mono ?_
    rintro r w1 ⟨rfl, rfl⟩
    cases b2 with
    | true =>
      go_wp2_with fail
      go_ret
      exact ⟨by rw [HE.out]; rfl, HB.out _⟩
    | false =>
      go_wp2_with fail
      rw [rounds_succ]
      go_wp2_with fail
      refine (C3.out _).mono ?_
      rintro r w1 ⟨rfl, rfl⟩
      cases b3 with
      | true =>
        go_wp2_with fail
        go_ret
        exact ⟨by rw [HE.out]; rfl, HB.out _⟩
      | false =>
        go_wp2_with fail
        rw [rounds_succ]
        go_wp2_with fail
        go_ret
        exact ⟨by rw [HE.out]; rfl, HB.out _⟩
end Go.Proofs.YtccpdfcmhggleaaGreatDoor
