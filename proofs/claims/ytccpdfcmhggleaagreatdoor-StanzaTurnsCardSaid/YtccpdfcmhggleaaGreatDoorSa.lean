/- Contracts of package stanza's small functions: mayShow, mayStatus, mayBody, isShow, nameOf, isText, isOwn, isStrange, loads. Condition: a text has at most 1048576 bytes. -/
import Derived.Test.YtccpdfcmhggleaaGreatDoorPb
namespace Go.Proofs.YtccpdfcmhggleaaGreatDoor
open Go.RowKit Go.Lib Go.Shelf Tg St

theorem eqb_E0 (t : ByteArray) : eqb t E0 = t.toList.isEmpty := by
  rw [Bool.eq_iff_iff, eqb_iff, emp_iff]
theorem eqb_lit {t : ByteArray} {l : List UInt8} (h : t.data.toList ≠ l) : eqb t ⟨l.toArray⟩ = false := eqb_ne fun e => h (by rw [e])
/-- A stanza's box. -/
theorem st_box (w : World) (cs : Array Value) (t : TypeId) : Below w.heap.size w (w.alloc (.cells cs t)) := (Below.refl _ w).alloc (Nat.le_refl _) _

theorem mayShow_any (kd : Int) (ty fn fd fr tn td tr id sh st bd cd : ByteArray) (aL : Option Addr) (nL cL : Nat) (w : World) :
    Calls Tryz.prog 50 #[.agg #[.int .i64 kd, .string ty, .string fn, .string fd, .string fr, .string tn, .string td, .string tr, .string id, .string sh, .string st, .string bd, .slice aL nL cL, .string cd]] w fun e w' => e = .returned (.bool (decide (kd = 1) && eqb ty E0)) ∧ Below w.heap.size w w' := by
  rw [eqb_E0]
  have k1 : (kd == 1) = decide (kd = 1) := rfl
  generalize decide (kd = 1) = b1 at k1
  generalize hb : ty.toList.isEmpty = b2
  have HB := Lib.hid (st_box w #[.int .i64 kd, .string ty, .string fn, .string fd, .string fr, .string tn, .string td, .string tr, .string id, .string sh, .string st, .string bd, .slice aL nL cL, .string cd] 26)
  cases b1 <;> cases b2 <;>
  · go_enter Tryz.func50, Tryz.ntmps50
    go_wp2_with fail
    go_ret
    exact ⟨rfl, HB.out⟩

theorem mayStatus_any (kd : Int) (ty fn fd fr tn td tr id sh st bd cd : ByteArray) (aL : Option Addr) (nL cL : Nat) (w : World) :
    Calls Tryz.prog 52 #[.agg #[.int .i64 kd, .string ty, .string fn, .string fd, .string fr, .string tn, .string td, .string tr, .string id, .string sh, .string st, .string bd, .slice aL nL cL, .string cd]] w fun e w' => e = .returned (.bool (decide (kd = 1))) ∧ Below w.heap.size w w' := by
  have k1 : (kd == 1) = decide (kd = 1) := rfl
  generalize decide (kd = 1) = b1 at k1
  have HB := Lib.hid (st_box w #[.int .i64 kd, .string ty, .string fn, .string fd, .string fr, .string tn, .string td, .string tr, .string id, .string sh, .string st, .string bd, .slice aL nL cL, .string cd] 26)
  cases b1 <;>
  · go_enter Tryz.func52, Tryz.ntmps52
    go_wp2_with fail
    go_ret
    exact ⟨rfl, HB.out⟩

theorem mayBody_any (kd : Int) (ty fn fd fr tn td tr id sh st bd cd : ByteArray) (aL : Option Addr) (nL cL : Nat) (w : World) :
    Calls Tryz.prog 53 #[.agg #[.int .i64 kd, .string ty, .string fn, .string fd, .string fr, .string tn, .string td, .string tr, .string id, .string sh, .string st, .string bd, .slice aL nL cL, .string cd]] w fun e w' => e = .returned (.bool (decide (kd = 2))) ∧ Below w.heap.size w w' := by
  have k1 : (kd == 2) = decide (kd = 2) := rfl
  generalize decide (kd = 2) = b1 at k1
  have HB := Lib.hid (st_box w #[.int .i64 kd, .string ty, .string fn, .string fd, .string fr, .string tn, .string td, .string tr, .string id, .string sh, .string st, .string bd, .slice aL nL cL, .string cd] 26)
  cases b1 <;>
  · go_enter Tryz.func53, Tryz.ntmps53
    go_wp2_with fail
    go_ret
    exact ⟨rfl, HB.out⟩

theorem isShow_any (s : ByteArray) (w : World) :
    Calls Tryz.prog 51 #[.string s] w fun e w' => e = .returned (.bool (showB s)) ∧ w = w' := by
  by_cases h0 : s.data.toList = [97, 119, 97, 121]
  · obtain rfl : s = ⟨#[97, 119, 97, 121]⟩ := By.bytes_ext h0
    have EN : showB ⟨#[97, 119, 97, 121]⟩ = true := by decide +kernel
    rw [EN]
    clear EN
    go_enter Tryz.func51, Tryz.ntmps51
    go_wp2_with fail
    go_ret
    exact ⟨rfl, rfl⟩
  by_cases h1 : s.data.toList = [99, 104, 97, 116]
  · obtain rfl : s = ⟨#[99, 104, 97, 116]⟩ := By.bytes_ext h1
    have EN : showB ⟨#[99, 104, 97, 116]⟩ = true := by decide +kernel
    rw [EN]
    clear EN
    go_enter Tryz.func51, Tryz.ntmps51
    go_wp2_with fail
    go_ret
    exact ⟨rfl, rfl⟩
  by_cases h2 : s.data.toList = [100, 110, 100]
  · obtain rfl : s = ⟨#[100, 110, 100]⟩ := By.bytes_ext h2
    have EN : showB ⟨#[100, 110, 100]⟩ = true := by decide +kernel
    rw [EN]
    clear EN
    go_enter Tryz.func51, Tryz.ntmps51
    go_wp2_with fail
    go_ret
    exact ⟨rfl, rfl⟩
  by_cases h3 : s.data.toList = [120, 97]
  · obtain rfl : s = ⟨#[120, 97]⟩ := By.bytes_ext h3
    have EN : showB ⟨#[120, 97]⟩ = true := by decide +kernel
    rw [EN]
    clear EN
    go_enter Tryz.func51, Tryz.ntmps51
    go_wp2_with fail
    go_ret
    exact ⟨rfl, rfl⟩
  obtain ⟨n0, m0⟩ := lit_ne h0
  obtain ⟨n1, m1⟩ := lit_ne h1
  obtain ⟨n2, m2⟩ := lit_ne h2
  obtain ⟨n3, m3⟩ := lit_ne h3
  have E : showB s = false := by
    unfold showB sAway sChat sDnd sXa
    rw [show eqb s ⟨#[97, 119, 97, 121]⟩ = false from eqb_lit h0, show eqb s ⟨#[99, 104, 97, 116]⟩ = false from eqb_lit h1, show eqb s ⟨#[100, 110, 100]⟩ = false from eqb_lit h2, show eqb s ⟨#[120, 97]⟩ = false from eqb_lit h3]
    rfl
  clear h0 h1 h2 h3
  go_enter Tryz.func51, Tryz.ntmps51
  go_wp2_with fail
  go_ret
  exact ⟨by rw [E]; rfl, rfl⟩

theorem nameOf_any (k : Int) (w : World) :
    Calls Tryz.prog 36 #[.int .i64 k] w fun e w' => e = .returned (.string (nameOf k)) ∧ w = w' := by
  by_cases h1 : k = 1
  · subst h1
    go_enter Tryz.func36, Tryz.ntmps36
    go_wp2_with fail
    go_ret
    exact ⟨rfl, rfl⟩
  by_cases h2 : k = 2
  · subst h2
    go_enter Tryz.func36, Tryz.ntmps36
    go_wp2_with fail
    go_ret
    exact ⟨rfl, rfl⟩
  by_cases h3 : k = 3
  · subst h3
    go_enter Tryz.func36, Tryz.ntmps36
    go_wp2_with fail
    go_ret
    exact ⟨rfl, rfl⟩
  have E : nameOf k = E0 := by unfold nameOf; rw [if_neg h1, if_neg h2, if_neg h3]
  have k1 : (k == 1) = false := beq_eq_false_iff_ne.2 h1
  have k2 : (k == 2) = false := beq_eq_false_iff_ne.2 h2
  have k3 : (k == 3) = false := beq_eq_false_iff_ne.2 h3
  clear h1 h2 h3
  go_enter Tryz.func36, Tryz.ntmps36
  go_wp2_with fail
  go_ret
  exact ⟨by rw [E]; rfl, rfl⟩

theorem stText_any (s : ByteArray) (m : Nat) (w : World) (hs : s.size ≤ 1048576) :
    Calls Tryz.prog 49 #[.string s, .int .i64 m] w fun e w' => e = .returned (.bool (txtB s m)) ∧ Below w.heap.size w w' := by
  have HB0 : Hid (Below w.heap.size w w) := Below.refl _ _
  by_cases hle : s.size ≤ m
  · have d1 : decide ((s.size : Int) ≤ m) = true := by simp; omega
    by_cases h : ∃ cs, Sg.IsT s.data.toList cs
    · obtain ⟨cs, h⟩ := h
      have E : Hid (txtB s m = true) := by show _ = _; unfold txtB; rw [(isTx_iff _).2 ⟨cs, h⟩, decide_eq_true hle]; rfl
      have H := Lib.hid (fun W => check_yes s W hs h)
      clear h hs
      go_enter Tryz.func49, Tryz.ntmps49
      go_wp2_with fail
      refine (H.out _).mono ?_
      rintro r w' ⟨rfl, hb⟩
      have HB := Lib.hid hb
      clear hb
      go_wp2_with fail
      go_ret
      exact ⟨by rw [E.out]; rfl, HB.out⟩
    · have E : Hid (txtB s m = false) := by
        show _ = _
        unfold txtB
        rw [show isTx s.data.toList = false from by rw [Bool.eq_false_iff, ne_eq, isTx_iff]; exact h, Bool.and_false]
      have H := Lib.hid (fun W => check_no s W hs fun cs hc => h ⟨cs, hc⟩)
      clear h hs
      go_enter Tryz.func49, Tryz.ntmps49
      go_wp2_with fail
      refine (H.out _).mono ?_
      rintro r w' ⟨rfl, hb⟩
      have HB := Lib.hid hb
      clear hb
      go_wp2_with fail
      go_ret
      exact ⟨by rw [E.out]; rfl, HB.out⟩
  · have d1 : decide ((s.size : Int) ≤ m) = false := by simp; omega
    have E : Hid (txtB s m = false) := by show _ = _; unfold txtB; rw [decide_eq_false hle]; rfl
    go_enter Tryz.func49, Tryz.ntmps49
    go_wp2_with fail
    go_ret
    exact ⟨by rw [E.out]; rfl, HB0.out⟩

set_option maxRecDepth 100000 in
theorem isOwn_any (e : El) (aA aK : Option Addr) (nA cA nK cK : Nat) (tx : ByteArray) (w : World) :
    Calls Tryz.prog 58 #[.agg #[.string e.sp, .string e.nm, .slice aA nA cA, .string tx, .slice aK nK cK]] w fun r w' => r = .returned (.bool (ownB e)) ∧ Below w.heap.size w w' := by
  have E : ownB e = (eqb e.sp SP && (eqb e.nm kShow || eqb e.nm kStat || eqb e.nm kPrio || eqb e.nm kBody || eqb e.nm kThr || eqb e.nm kSubj || eqb e.nm tErr)) := rfl
  rw [E]
  clear E
  generalize e.sp = sp
  generalize e.nm = nm
  by_cases h : sp.data.toList = [106, 97, 98, 98, 101, 114, 58, 99, 111, 109, 112, 111, 110, 101, 110, 116, 58, 97, 99, 99, 101, 112, 116]
  · obtain rfl : sp = ⟨#[106, 97, 98, 98, 101, 114, 58, 99, 111, 109, 112, 111, 110, 101, 110, 116, 58, 97, 99, 99, 101, 112, 116]⟩ := By.bytes_ext h
    have ES : eqb ⟨#[106, 97, 98, 98, 101, 114, 58, 99, 111, 109, 112, 111, 110, 101, 110, 116, 58, 97, 99, 99, 101, 112, 116]⟩ SP = true := eqb_self _
    rw [ES, Bool.true_and]
    clear h ES
    by_cases g0 : nm.data.toList = [115, 104, 111, 119]
    · obtain rfl : nm = ⟨#[115, 104, 111, 119]⟩ := By.bytes_ext g0
      have EN : (eqb ⟨#[115, 104, 111, 119]⟩ kShow || eqb ⟨#[115, 104, 111, 119]⟩ kStat || eqb ⟨#[115, 104, 111, 119]⟩ kPrio || eqb ⟨#[115, 104, 111, 119]⟩ kBody || eqb ⟨#[115, 104, 111, 119]⟩ kThr || eqb ⟨#[115, 104, 111, 119]⟩ kSubj || eqb ⟨#[115, 104, 111, 119]⟩ tErr) = true := by decide +kernel
      rw [EN]
      clear EN
      clear g0
      have HB := Lib.hid (st_box w #[.string ⟨#[106, 97, 98, 98, 101, 114, 58, 99, 111, 109, 112, 111, 110, 101, 110, 116, 58, 97, 99, 99, 101, 112, 116]⟩, .string ⟨#[115, 104, 111, 119]⟩, .slice aA nA cA, .string tx, .slice aK nK cK] 29)
      go_enter Tryz.func58, Tryz.ntmps58
      go_wp2_with fail
      go_ret
      exact ⟨rfl, HB.out⟩
    by_cases g1 : nm.data.toList = [115, 116, 97, 116, 117, 115]
    · obtain rfl : nm = ⟨#[115, 116, 97, 116, 117, 115]⟩ := By.bytes_ext g1
      have EN : (eqb ⟨#[115, 116, 97, 116, 117, 115]⟩ kShow || eqb ⟨#[115, 116, 97, 116, 117, 115]⟩ kStat || eqb ⟨#[115, 116, 97, 116, 117, 115]⟩ kPrio || eqb ⟨#[115, 116, 97, 116, 117, 115]⟩ kBody || eqb ⟨#[115, 116, 97, 116, 117, 115]⟩ kThr || eqb ⟨#[115, 116, 97, 116, 117, 115]⟩ kSubj || eqb ⟨#[115, 116, 97, 116, 117, 115]⟩ tErr) = true := by decide +kernel
      rw [EN]
      clear EN
      clear g0 g1
      have HB := Lib.hid (st_box w #[.string ⟨#[106, 97, 98, 98, 101, 114, 58, 99, 111, 109, 112, 111, 110, 101, 110, 116, 58, 97, 99, 99, 101, 112, 116]⟩, .string ⟨#[115, 116, 97, 116, 117, 115]⟩, .slice aA nA cA, .string tx, .slice aK nK cK] 29)
      go_enter Tryz.func58, Tryz.ntmps58
      go_wp2_with fail
      go_ret
      exact ⟨rfl, HB.out⟩
    by_cases g2 : nm.data.toList = [112, 114, 105, 111, 114, 105, 116, 121]
    · obtain rfl : nm = ⟨#[112, 114, 105, 111, 114, 105, 116, 121]⟩ := By.bytes_ext g2
      have EN : (eqb ⟨#[112, 114, 105, 111, 114, 105, 116, 121]⟩ kShow || eqb ⟨#[112, 114, 105, 111, 114, 105, 116, 121]⟩ kStat || eqb ⟨#[112, 114, 105, 111, 114, 105, 116, 121]⟩ kPrio || eqb ⟨#[112, 114, 105, 111, 114, 105, 116, 121]⟩ kBody || eqb ⟨#[112, 114, 105, 111, 114, 105, 116, 121]⟩ kThr || eqb ⟨#[112, 114, 105, 111, 114, 105, 116, 121]⟩ kSubj || eqb ⟨#[112, 114, 105, 111, 114, 105, 116, 121]⟩ tErr) = true := by decide +kernel
      rw [EN]
      clear EN
      clear g0 g1 g2
      have HB := Lib.hid (st_box w #[.string ⟨#[106, 97, 98, 98, 101, 114, 58, 99, 111, 109, 112, 111, 110, 101, 110, 116, 58, 97, 99, 99, 101, 112, 116]⟩, .string ⟨#[112, 114, 105, 111, 114, 105, 116, 121]⟩, .slice aA nA cA, .string tx, .slice aK nK cK] 29)
      go_enter Tryz.func58, Tryz.ntmps58
      go_wp2_with fail
      go_ret
      exact ⟨rfl, HB.out⟩
    by_cases g3 : nm.data.toList = [98, 111, 100, 121]
    · obtain rfl : nm = ⟨#[98, 111, 100, 121]⟩ := By.bytes_ext g3
      have EN : (eqb ⟨#[98, 111, 100, 121]⟩ kShow || eqb ⟨#[98, 111, 100, 121]⟩ kStat || eqb ⟨#[98, 111, 100, 121]⟩ kPrio || eqb ⟨#[98, 111, 100, 121]⟩ kBody || eqb ⟨#[98, 111, 100, 121]⟩ kThr || eqb ⟨#[98, 111, 100, 121]⟩ kSubj || eqb ⟨#[98, 111, 100, 121]⟩ tErr) = true := by decide +kernel
      rw [EN]
      clear EN
      clear g0 g1 g2 g3
      have HB := Lib.hid (st_box w #[.string ⟨#[106, 97, 98, 98, 101, 114, 58, 99, 111, 109, 112, 111, 110, 101, 110, 116, 58, 97, 99, 99, 101, 112, 116]⟩, .string ⟨#[98, 111, 100, 121]⟩, .slice aA nA cA, .string tx, .slice aK nK cK] 29)
      go_enter Tryz.func58, Tryz.ntmps58
      go_wp2_with fail
      go_ret
      exact ⟨rfl, HB.out⟩
    by_cases g4 : nm.data.toList = [116, 104, 114, 101, 97, 100]
    · obtain rfl : nm = ⟨#[116, 104, 114, 101, 97, 100]⟩ := By.bytes_ext g4
      have EN : (eqb ⟨#[116, 104, 114, 101, 97, 100]⟩ kShow || eqb ⟨#[116, 104, 114, 101, 97, 100]⟩ kStat || eqb ⟨#[116, 104, 114, 101, 97, 100]⟩ kPrio || eqb ⟨#[116, 104, 114, 101, 97, 100]⟩ kBody || eqb ⟨#[116, 104, 114, 101, 97, 100]⟩ kThr || eqb ⟨#[116, 104, 114, 101, 97, 100]⟩ kSubj || eqb ⟨#[116, 104, 114, 101, 97, 100]⟩ tErr) = true := by decide +kernel
      rw [EN]
      clear EN
      clear g0 g1 g2 g3 g4
      have HB := Lib.hid (st_box w #[.string ⟨#[106, 97, 98, 98, 101, 114, 58, 99, 111, 109, 112, 111, 110, 101, 110, 116, 58, 97, 99, 99, 101, 112, 116]⟩, .string ⟨#[116, 104, 114, 101, 97, 100]⟩, .slice aA nA cA, .string tx, .slice aK nK cK] 29)
      go_enter Tryz.func58, Tryz.ntmps58
      go_wp2_with fail
      go_ret
      exact ⟨rfl, HB.out⟩
    by_cases g5 : nm.data.toList = [115, 117, 98, 106, 101, 99, 116]
    · obtain rfl : nm = ⟨#[115, 117, 98, 106, 101, 99, 116]⟩ := By.bytes_ext g5
      have EN : (eqb ⟨#[115, 117, 98, 106, 101, 99, 116]⟩ kShow || eqb ⟨#[115, 117, 98, 106, 101, 99, 116]⟩ kStat || eqb ⟨#[115, 117, 98, 106, 101, 99, 116]⟩ kPrio || eqb ⟨#[115, 117, 98, 106, 101, 99, 116]⟩ kBody || eqb ⟨#[115, 117, 98, 106, 101, 99, 116]⟩ kThr || eqb ⟨#[115, 117, 98, 106, 101, 99, 116]⟩ kSubj || eqb ⟨#[115, 117, 98, 106, 101, 99, 116]⟩ tErr) = true := by decide +kernel
      rw [EN]
      clear EN
      clear g0 g1 g2 g3 g4 g5
      have HB := Lib.hid (st_box w #[.string ⟨#[106, 97, 98, 98, 101, 114, 58, 99, 111, 109, 112, 111, 110, 101, 110, 116, 58, 97, 99, 99, 101, 112, 116]⟩, .string ⟨#[115, 117, 98, 106, 101, 99, 116]⟩, .slice aA nA cA, .string tx, .slice aK nK cK] 29)
      go_enter Tryz.func58, Tryz.ntmps58
      go_wp2_with fail
      go_ret
      exact ⟨rfl, HB.out⟩
    by_cases g6 : nm.data.toList = [101, 114, 114, 111, 114]
    · obtain rfl : nm = ⟨#[101, 114, 114, 111, 114]⟩ := By.bytes_ext g6
      have EN : (eqb ⟨#[101, 114, 114, 111, 114]⟩ kShow || eqb ⟨#[101, 114, 114, 111, 114]⟩ kStat || eqb ⟨#[101, 114, 114, 111, 114]⟩ kPrio || eqb ⟨#[101, 114, 114, 111, 114]⟩ kBody || eqb ⟨#[101, 114, 114, 111, 114]⟩ kThr || eqb ⟨#[101, 114, 114, 111, 114]⟩ kSubj || eqb ⟨#[101, 114, 114, 111, 114]⟩ tErr) = true := by decide +kernel
      rw [EN]
      clear EN
      clear g0 g1 g2 g3 g4 g5 g6
      have HB := Lib.hid (st_box w #[.string ⟨#[106, 97, 98, 98, 101, 114, 58, 99, 111, 109, 112, 111, 110, 101, 110, 116, 58, 97, 99, 99, 101, 112, 116]⟩, .string ⟨#[101, 114, 114, 111, 114]⟩, .slice aA nA cA, .string tx, .slice aK nK cK] 29)
      go_enter Tryz.func58, Tryz.ntmps58
      go_wp2_with fail
      go_ret
      exact ⟨rfl, HB.out⟩
    obtain ⟨n0, m0⟩ := lit_ne g0
    obtain ⟨n1, m1⟩ := lit_ne g1
    obtain ⟨n2, m2⟩ := lit_ne g2
    obtain ⟨n3, m3⟩ := lit_ne g3
    obtain ⟨n4, m4⟩ := lit_ne g4
    obtain ⟨n5, m5⟩ := lit_ne g5
    obtain ⟨n6, m6⟩ := lit_ne g6
    have EN : (eqb nm kShow || eqb nm kStat || eqb nm kPrio || eqb nm kBody || eqb nm kThr || eqb nm kSubj || eqb nm tErr) = false := by
      rw [show eqb nm kShow = false from eqb_lit g0, show eqb nm kStat = false from eqb_lit g1, show eqb nm kPrio = false from eqb_lit g2, show eqb nm kBody = false from eqb_lit g3, show eqb nm kThr = false from eqb_lit g4, show eqb nm kSubj = false from eqb_lit g5, show eqb nm tErr = false from eqb_lit g6]
      rfl
    rw [EN]
    clear EN g0 g1 g2 g3 g4 g5 g6
    have HB := Lib.hid (st_box w #[.string ⟨#[106, 97, 98, 98, 101, 114, 58, 99, 111, 109, 112, 111, 110, 101, 110, 116, 58, 97, 99, 99, 101, 112, 116]⟩, .string nm, .slice aA nA cA, .string tx, .slice aK nK cK] 29)
    go_enter Tryz.func58, Tryz.ntmps58
    go_wp2_with fail
    go_ret
    exact ⟨rfl, HB.out⟩
  · obtain ⟨n0, m0⟩ := lit_ne h
    have ES : eqb sp SP = false := eqb_lit h
    rw [ES, Bool.false_and]
    clear h ES
    have HB := Lib.hid (st_box w #[.string sp, .string nm, .slice aA nA cA, .string tx, .slice aK nK cK] 29)
    go_enter Tryz.func58, Tryz.ntmps58
    go_wp2_with fail
    go_ret
    exact ⟨rfl, HB.out⟩

theorem isStrange_any (n v : ByteArray) (w : World) :
    Calls Tryz.prog 31 #[.agg #[.string n, .string v]] w fun r w' => r = .returned (.bool (strange n)) ∧ Below w.heap.size w w' := by
  by_cases h0 : n.data.toList = [102, 114, 111, 109]
  · obtain rfl : n = ⟨#[102, 114, 111, 109]⟩ := By.bytes_ext h0
    have EN : strange ⟨#[102, 114, 111, 109]⟩ = false := by decide +kernel
    rw [EN]
    clear EN
    have HB := Lib.hid (st_box w #[.string ⟨#[102, 114, 111, 109]⟩, .string v] 49)
    go_enter Tryz.func31, Tryz.ntmps31
    go_wp2_with fail
    go_ret
    exact ⟨rfl, HB.out⟩
  by_cases h1 : n.data.toList = [116, 111]
  · obtain rfl : n = ⟨#[116, 111]⟩ := By.bytes_ext h1
    have EN : strange ⟨#[116, 111]⟩ = false := by decide +kernel
    rw [EN]
    clear EN
    have HB := Lib.hid (st_box w #[.string ⟨#[116, 111]⟩, .string v] 49)
    go_enter Tryz.func31, Tryz.ntmps31
    go_wp2_with fail
    go_ret
    exact ⟨rfl, HB.out⟩
  by_cases h2 : n.data.toList = [105, 100]
  · obtain rfl : n = ⟨#[105, 100]⟩ := By.bytes_ext h2
    have EN : strange ⟨#[105, 100]⟩ = false := by decide +kernel
    rw [EN]
    clear EN
    have HB := Lib.hid (st_box w #[.string ⟨#[105, 100]⟩, .string v] 49)
    go_enter Tryz.func31, Tryz.ntmps31
    go_wp2_with fail
    go_ret
    exact ⟨rfl, HB.out⟩
  by_cases h3 : n.data.toList = [116, 121, 112, 101]
  · obtain rfl : n = ⟨#[116, 121, 112, 101]⟩ := By.bytes_ext h3
    have EN : strange ⟨#[116, 121, 112, 101]⟩ = false := by decide +kernel
    rw [EN]
    clear EN
    have HB := Lib.hid (st_box w #[.string ⟨#[116, 121, 112, 101]⟩, .string v] 49)
    go_enter Tryz.func31, Tryz.ntmps31
    go_wp2_with fail
    go_ret
    exact ⟨rfl, HB.out⟩
  by_cases h4 : n.data.toList = [120, 109, 108, 58, 108, 97, 110, 103]
  · obtain rfl : n = ⟨#[120, 109, 108, 58, 108, 97, 110, 103]⟩ := By.bytes_ext h4
    have EN : strange ⟨#[120, 109, 108, 58, 108, 97, 110, 103]⟩ = false := by decide +kernel
    rw [EN]
    clear EN
    have HB := Lib.hid (st_box w #[.string ⟨#[120, 109, 108, 58, 108, 97, 110, 103]⟩, .string v] 49)
    go_enter Tryz.func31, Tryz.ntmps31
    go_wp2_with fail
    go_ret
    exact ⟨rfl, HB.out⟩
  obtain ⟨n0, m0⟩ := lit_ne h0
  obtain ⟨n1, m1⟩ := lit_ne h1
  obtain ⟨n2, m2⟩ := lit_ne h2
  obtain ⟨n3, m3⟩ := lit_ne h3
  obtain ⟨n4, m4⟩ := lit_ne h4
  have EN : strange n = true := by
    unfold strange
    rw [show eqb n aFrom = false from eqb_lit h0, show eqb n aTo = false from eqb_lit h1, show eqb n aId = false from eqb_lit h2, show eqb n aType = false from eqb_lit h3, show eqb n aLang = false from eqb_lit h4]
    rfl
  rw [EN]
  clear EN h0 h1 h2 h3 h4
  have HB := Lib.hid (st_box w #[.string n, .string v] 49)
  go_enter Tryz.func31, Tryz.ntmps31
  go_wp2_with fail
  go_ret
  exact ⟨rfl, HB.out⟩

/-- How many elements a Load has at least and at most. -/
def loadsOf (k : Int) (ty : ByteArray) : Nat × Nat := if eqb ty tErr = true then (0, 0) else if k ≠ 3 then (0, 4) else if eqb ty tRes = true then (0, 1) else (1, 1)
theorem loads_any (kd : Int) (ty fn fd fr tn td tr id sh st bd cd : ByteArray) (aL : Option Addr) (nL cL : Nat) (w : World) :
    Calls Tryz.prog 55 #[.agg #[.int .i64 kd, .string ty, .string fn, .string fd, .string fr, .string tn, .string td, .string tr, .string id, .string sh, .string st, .string bd, .slice aL nL cL, .string cd]] w fun e w' => e = .returned (.tuple #[.int .i64 (loadsOf kd ty).1, .int .i64 (loadsOf kd ty).2]) ∧ Below w.heap.size w w' := by
  unfold loadsOf
  by_cases h0 : ty.data.toList = [101, 114, 114, 111, 114]
  · obtain rfl : ty = ⟨#[101, 114, 114, 111, 114]⟩ := By.bytes_ext h0
    rw [if_pos (show eqb ⟨#[101, 114, 114, 111, 114]⟩ tErr = true from eqb_self _)]
    clear h0
    have HB := Lib.hid (st_box w #[.int .i64 kd, .string ⟨#[101, 114, 114, 111, 114]⟩, .string fn, .string fd, .string fr, .string tn, .string td, .string tr, .string id, .string sh, .string st, .string bd, .slice aL nL cL, .string cd] 26)
    go_enter Tryz.func55, Tryz.ntmps55
    go_wp2_with fail
    go_ret2
    exact ⟨rfl, HB.out⟩
  rw [if_neg (by rw [show eqb ty tErr = false from eqb_lit h0]; simp)]
  obtain ⟨n0, m0⟩ := lit_ne h0
  by_cases h3 : kd = 3
  · subst h3
    rw [if_neg (by simp)]
    by_cases h1 : ty.data.toList = [114, 101, 115, 117, 108, 116]
    · obtain rfl : ty = ⟨#[114, 101, 115, 117, 108, 116]⟩ := By.bytes_ext h1
      rw [if_pos (show eqb ⟨#[114, 101, 115, 117, 108, 116]⟩ tRes = true from eqb_self _)]
      clear h0 h1 n0 m0
      have HB := Lib.hid (st_box w #[.int .i64 3, .string ⟨#[114, 101, 115, 117, 108, 116]⟩, .string fn, .string fd, .string fr, .string tn, .string td, .string tr, .string id, .string sh, .string st, .string bd, .slice aL nL cL, .string cd] 26)
      go_enter Tryz.func55, Tryz.ntmps55
      go_wp2_with fail
      go_ret2
      exact ⟨rfl, HB.out⟩
    · rw [if_neg (by rw [show eqb ty tRes = false from eqb_lit h1]; simp)]
      obtain ⟨n1, m1⟩ := lit_ne h1
      clear h0 h1
      have HB := Lib.hid (st_box w #[.int .i64 3, .string ty, .string fn, .string fd, .string fr, .string tn, .string td, .string tr, .string id, .string sh, .string st, .string bd, .slice aL nL cL, .string cd] 26)
      go_enter Tryz.func55, Tryz.ntmps55
      go_wp2_with fail
      go_ret2
      exact ⟨rfl, HB.out⟩
  · rw [if_pos h3]
    have k3 : (kd == 3) = false := beq_eq_false_iff_ne.2 h3
    have k4 : (kd != 3) = true := by rw [bne, k3]; rfl
    clear h0
    have HB := Lib.hid (st_box w #[.int .i64 kd, .string ty, .string fn, .string fd, .string fr, .string tn, .string td, .string tr, .string id, .string sh, .string st, .string bd, .slice aL nL cL, .string cd] 26)
    go_enter Tryz.func55, Tryz.ntmps55
    go_wp2_with fail
    go_ret2
    exact ⟨rfl, HB.out⟩

end Go.Proofs.YtccpdfcmhggleaaGreatDoor
