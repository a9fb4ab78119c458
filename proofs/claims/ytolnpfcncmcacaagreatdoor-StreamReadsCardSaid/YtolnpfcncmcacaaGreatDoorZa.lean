/- Contracts of package stream's small functions: isUp, isStanza, isError, and tag.Attr. Condition: the values of the attributes have at most 1048576 bytes. -/
import Derived.Test.YtolnpfcncmcacaaGreatDoorMB
namespace Go.Proofs.YtolnpfcncmcacaaGreatDoor
open Go.RowKit Go.Lib Go.Shelf Tg Sn
def upB (p : Int) : Bool := decide (p = 1) || decide (p = 2) || decide (p = 3)
theorem isUp_any (d s : ByteArray) (p : Int) (w : World) :
    Calls Tryz.prog 34 #[.agg #[.string d, .string s, .int .i64 p]] w fun e w' => e = .returned (.bool (upB p)) ∧ Below w.heap.size w w' := by
  have HW0 : Hid (Below w.heap.size w (w.alloc (.cells #[.string d, .string s, .int .i64 p] 40))) := (Below.refl _ w).alloc (Nat.le_refl _) _
  unfold upB
  by_cases h1 : p = 1
  · subst h1
    go_enter Tryz.func34, Tryz.ntmps34
    go_wp2_with fail
    go_ret
    exact ⟨rfl, HW0.out⟩
  by_cases h2 : p = 2
  · subst h2
    go_enter Tryz.func34, Tryz.ntmps34
    go_wp2_with fail
    go_ret
    exact ⟨rfl, HW0.out⟩
  by_cases h3 : p = 3
  · subst h3
    go_enter Tryz.func34, Tryz.ntmps34
    go_wp2_with fail
    go_ret
    exact ⟨rfl, HW0.out⟩
  have n1 : (p == 1) = false := beq_eq_false_iff_ne.2 h1
  have n2 : (p == 2) = false := beq_eq_false_iff_ne.2 h2
  have n3 : (p == 3) = false := beq_eq_false_iff_ne.2 h3
  rw [decide_eq_false h1, decide_eq_false h2, decide_eq_false h3]
  clear h1 h2 h3
  go_enter Tryz.func34, Tryz.ntmps34
  go_wp2_with fail
  go_ret
  exact ⟨rfl, HW0.out⟩
def stB (k : Int) (sp nm space name : ByteArray) : Bool := decide (k = 2) && (sp.toList == space.toList) && (nm.toList == name.toList)
theorem isStanza_any (k er : Int) (sp nm tx : ByteArray) (a b : Option Addr) (n1 c1 n2 c2 : Nat) (space name : ByteArray) (w : World) :
    Calls Tryz.prog 38 #[.agg #[.int .i64 k, .string sp, .string nm, .slice a n1 c1, .string tx, .slice b n2 c2, .int .i64 er], .string space, .string name] w fun e w' => e = .returned (.bool (stB k sp nm space name)) ∧ Below w.heap.size w w' := by
  have HW0 : Hid (Below w.heap.size w (w.alloc (.cells #[.int .i64 k, .string sp, .string nm, .slice a n1 c1, .string tx, .slice b n2 c2, .int .i64 er] 50))) := (Below.refl _ w).alloc (Nat.le_refl _) _
  unfold stB
  by_cases h1 : k = 2
  · subst h1
    generalize h2 : (sp.toList == space.toList) = b2
    generalize h3 : (nm.toList == name.toList) = b3
    cases b2 <;> cases b3 <;>
    · go_enter Tryz.func38, Tryz.ntmps38
      go_wp2_with fail
      go_ret
      exact ⟨rfl, HW0.out⟩
  · have e1 : (k == 2) = false := beq_eq_false_iff_ne.2 h1
    rw [decide_eq_false h1]
    clear h1
    go_enter Tryz.func38, Tryz.ntmps38
    go_wp2_with fail
    go_ret
    exact ⟨rfl, HW0.out⟩
def spS : ByteArray := ⟨#[104, 116, 116, 112, 58, 47, 47, 101, 116, 104, 101, 114, 120, 46, 106, 97, 98, 98, 101, 114, 46, 111, 114, 103, 47, 115, 116, 114, 101, 97, 109, 115]⟩
def errN : ByteArray := ⟨#[101, 114, 114, 111, 114]⟩
theorem isError_any (k er : Int) (sp nm tx : ByteArray) (a b : Option Addr) (n1 c1 n2 c2 : Nat) (w : World) :
    Calls Tryz.prog 39 #[.agg #[.int .i64 k, .string sp, .string nm, .slice a n1 c1, .string tx, .slice b n2 c2, .int .i64 er]] w fun e w' => e = .returned (.bool (stB k sp nm spS errN)) ∧ Below w.heap.size w w' := by
  have HW0 : Hid (Below w.heap.size w (w.alloc (.cells #[.int .i64 k, .string sp, .string nm, .slice a n1 c1, .string tx, .slice b n2 c2, .int .i64 er] 50))) := (Below.refl _ w).alloc (Nat.le_refl _) _
  have C := Lib.hid (fun W => isStanza_any k er sp nm tx a b n1 c1 n2 c2 spS errN W)
  go_enter Tryz.func39, Tryz.ntmps39
  go_wp2_with fail
  refine (C.out _).mono ?_
  rintro r w1 ⟨rfl, hb⟩
  have HB1 := Lib.hid (more HW0.out (Nat.le_refl _) hb)
  clear hb
  go_wp2_with fail
  go_ret
  exact ⟨rfl, HB1.out⟩
end Go.Proofs.YtolnpfcncmcacaaGreatDoor
