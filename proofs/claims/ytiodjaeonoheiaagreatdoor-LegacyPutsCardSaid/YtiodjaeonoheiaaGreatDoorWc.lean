/- Contracts: bye, let, grant, marksOf, codes, items of package legacy's note writer. Conditions: those of each theorem's head. -/
import Derived.Test.YtiodjaeonoheiaaGreatDoorWb
import Derived.Test.YtiodjaeonoheiaaGreatDoorVx
set_option maxRecDepth 100000
set_option maxHeartbeats 4000000
namespace Go.Proofs.YtiodjaeonoheiaaGreatDoor.T
open Go.RowKit Go.Lib
def nR (k : Int) (a x d : ByteArray) (c s e t : Int) (o : Bool) (vi vz : Value) : List Value := [.int .i64 k, .string a, .string x, .string d, .int .i64 c, .int .i64 s, .int .i64 e, .int .i64 t, .bool o, vi, vz]
theorem nW_ne : 81 ≠ 5 := by decide
theorem w_ne : 79 ≠ 5 := by decide
theorem note_ne : 25 ≠ 5 := by decide
theorem item_ne : 45 ≠ 5 := by decide
section
variable {N P : Nat} {w w' : World} {l : List UInt8} {k c s e t : Int} {a x d : ByteArray} {o : Bool} {vi vz : Value}
theorem Wr.cells (h : Wr N P 81 (nR k a x d c s e t o vi vz) w l) :
    w.cell? ⟨P, 1, none⟩ = some (.int .i64 k) ∧ w.cell? ⟨P, 2, none⟩ = some (.string a) ∧ w.cell? ⟨P, 3, none⟩ = some (.string x) ∧ w.cell? ⟨P, 4, none⟩ = some (.string d) ∧ w.cell? ⟨P, 5, none⟩ = some (.int .i64 c) ∧ w.cell? ⟨P, 6, none⟩ = some (.int .i64 s) ∧ w.cell? ⟨P, 7, none⟩ = some (.int .i64 e) ∧ w.cell? ⟨P, 8, none⟩ = some (.int .i64 t) ∧ w.cell? ⟨P, 9, none⟩ = some (.bool o) ∧ w.cell? ⟨P, 10, none⟩ = some vi ∧ w.cell? ⟨P, 11, none⟩ = some vz := by
  obtain ⟨v, h1, _⟩ := h.own
  refine ⟨?_, ?_, ?_, ?_, ?_, ?_, ?_, ?_, ?_, ?_, ?_⟩ <;> (rw [Lib.cell_of_heap h1]; rfl)
theorem ln_num (l : List UInt8) (n m : Int) : (l ++ numL' n m).length ≤ l.length + 4 := by
  have := intS_len n m
  rw [List.length_append, numL', By.len_size]
  omega
theorem ln_txt (l : List UInt8) (s : ByteArray) (m : Int) : (l ++ txtL s m).length ≤ l.length + s.size + 4 := by
  have := textS_len s m
  rw [List.length_append, txtL, By.len_size]
  omega
theorem ln_val (l : List UInt8) (k : Int) (s : ByteArray) : (l ++ valL k s).length ≤ l.length + s.size + 4 := by
  have := putS_len ⟨k, s⟩
  rw [List.length_append, valL, By.len_size]
  simp only at this
  omega
theorem ln_vnum (l : List UInt8) (k n m : Int) : (l ++ valL k (intS n m)).length ≤ l.length + 8 := by
  have := ln_val l k (intS n m)
  have := intS_len n m
  omega
theorem ln_put (l : List UInt8) (s : ByteArray) : (l ++ s.data.toList).length ≤ l.length + s.size := by
  rw [List.length_append, By.len_size]
  omega
theorem Wr.room {T : TypeId} {r : List Value} (h : Wr N P T r w l) : N ≤ w.heap.size := Nat.le_of_lt (Nat.lt_of_le_of_lt h.le h.lt)
def byeB (c : Int) : List UInt8 := if c = 0 then [] else valL 9 (intS c 2)
def letB2 (a d : ByteArray) (c : Int) : List UInt8 := valL 1 a ++ (if d.size = 0 then valL 8 (intS c 2) else valL 6 d)
def hlo : List UInt8 := [0, 0, 0, 1]
theorem ln_hlo (l : List UInt8) : (l ++ hlo).length ≤ l.length + 4 := by rw [List.length_append]; exact Nat.le_refl _
theorem whello_any {T : TypeId} {r : List Value} (h : Wr N P T r w l) (hT : T ≠ 5) (hs : l.length ≤ 140737488000000) (hN : N ≤ w.heap.size) : Calls Tryz.prog 72 #[.pointer (some ⟨P, 0, none⟩), .string ⟨#[0, 0, 0, 1]⟩] w (WrP N P T r w (l ++ hlo)) :=
  wput_any h hT ⟨#[0, 0, 0, 1]⟩ (by have : (⟨#[0, 0, 0, 1]⟩ : ByteArray).size = 4 := rfl; omega) hN
theorem bye_any (h : Wr N P 81 (nR k a x d c s e t o vi vz) w l) (hl : l.length ≤ 1000000000) :
    Calls Tryz.prog 74 #[.pointer (some ⟨P, 0, none⟩)] w (WrP N P 81 (nR k a x d c s e t o vi vz) w (l ++ byeB c)) := by
  have H := Lib.hid h
  have HL := Lib.hid hl
  have HC := Lib.hid (Ch.refl N P w)
  clear h hl
  unfold byeB
  by_cases h0 : c = 0
  · rw [if_pos h0, List.append_nil]
    subst h0
    obtain ⟨-, -, -, -, c5, -⟩ := H.out.cells
    go_enter Tryz.func74, Tryz.ntmps74
    go_wp2_with fail
    exact bodyPost_end (results_none rfl _ _ _) rfl ⟨rfl, HC.out, H.out⟩
  · rw [if_neg h0]
    obtain ⟨-, -, -, -, c5, -⟩ := H.out.cells
    go_enter Tryz.func74, Tryz.ntmps74
    go_wp2_with fail
    have x_c5 : ∀ y : Ext w, y.to.cell? ⟨P, 5, none⟩ = some (.int .i64 c) := fun y => ext_cell y c5
    have hsome := extSome w
    clear c5
    refine ext_tail 8 (by kernel_rfl) (by kernel_rfl) ?_
    simp only [List.take_succ_cons, List.take_zero, List.drop_succ_cons, List.drop_zero]
    repeat (go_big_quiet_step (fail))
    refine wpQuiet_nil ?_
    rintro _ ⟨y, hy⟩
    subst hy
    clear hsome x_c5
    have HY := Lib.hid y.below
    obtain ⟨w1, hwk⟩ : ∃ z, z = y.to := ⟨_, rfl⟩
    rw [← hwk] at HY ⊢
    clear hwk
    clear y
    have H' := Lib.hid (H.out.below HY.out)
    have HC' := Lib.hid (HC.out.below HY.out)
    clear H HC
    have H := H'
    have HC := HC'
    clear H' HC'
    clear HY
    go_wp2_with fail
    refine (wnumV_any H.out nW_ne 9 c 2 (by have := HL.out; omega) H.out.room).mono ?_
    rintro e w2 ⟨rfl, hc, hw⟩
    have HL' : Hid ((l ++ valL 9 (intS c 2)).length ≤ 1000000008) := by have := ln_vnum (l) 9 c 2; have := HL.out; show _ ≤ _; omega
    clear HL
    have HL := HL'
    clear HL'
    have HC' := Lib.hid (HC.out.trans hc)
    have H' := Lib.hid hw
    clear hc hw H HC
    have H := H'
    have HC := HC'
    clear H' HC'
    go_wp2_with fail
    exact bodyPost_end (results_none rfl _ _ _) rfl ⟨rfl, HC.out, H.out⟩
theorem let_any (h : Wr N P 81 (nR k a x d c s e t o vi vz) w l) (hl : l.length ≤ 1000000000) (ha : a.size ≤ 1000000) (hd : d.size ≤ 1000000) :
    Calls Tryz.prog 76 #[.pointer (some ⟨P, 0, none⟩)] w (WrP N P 81 (nR k a x d c s e t o vi vz) w (l ++ letB2 a d c)) := by
  have H := Lib.hid h
  have HL := Lib.hid hl
  have HC := Lib.hid (Ch.refl N P w)
  clear h hl
  have HA := Lib.hid ha
  have HD := Lib.hid hd
  clear ha hd
  unfold letB2
  by_cases h0 : d.size = 0
  · rw [if_pos h0]
    obtain rfl := By.empty_of h0
    rw [← List.append_assoc]
    clear h0
    obtain ⟨-, c2, -⟩ := H.out.cells
    go_enter Tryz.func76, Tryz.ntmps76
    go_wp2_with fail
    have x_c2 : ∀ y : Ext w, y.to.cell? ⟨P, 2, none⟩ = some (.string a) := fun y => ext_cell y c2
    have hsome := extSome w
    clear c2
    refine ext_tail 8 (by kernel_rfl) (by kernel_rfl) ?_
    simp only [List.take_succ_cons, List.take_zero, List.drop_succ_cons, List.drop_zero]
    repeat (go_big_quiet_step (fail))
    refine wpQuiet_nil ?_
    rintro _ ⟨y, hy⟩
    subst hy
    clear hsome x_c2
    have HY := Lib.hid y.below
    obtain ⟨w1, hwk⟩ : ∃ z, z = y.to := ⟨_, rfl⟩
    rw [← hwk] at HY ⊢
    clear hwk
    clear y
    have H' := Lib.hid (H.out.below HY.out)
    have HC' := Lib.hid (HC.out.below HY.out)
    clear H HC
    have H := H'
    have HC := HC'
    clear H' HC'
    clear HY
    go_wp2_with fail
    refine (wvalue_any H.out nW_ne 1 a (by have := HL.out; have := HA.out; omega) H.out.room).mono ?_
    rintro e w2 ⟨rfl, hc, hw⟩
    have HL' : Hid ((l ++ valL 1 a).length ≤ 1001000004) := by have := ln_val (l) 1 a; have := HL.out; have := HA.out; show _ ≤ _; omega
    clear HL
    have HL := HL'
    clear HL'
    have HC' := Lib.hid (HC.out.trans hc)
    have H' := Lib.hid hw
    clear hc hw H HC
    have H := H'
    have HC := HC'
    clear H' HC'
    obtain ⟨-, -, -, c4, c5, -⟩ := H.out.cells
    go_wp2_with fail
    clear c4
    have x_c5 : ∀ y : Ext w2, y.to.cell? ⟨P, 5, none⟩ = some (.int .i64 c) := fun y => ext_cell y c5
    have hsome := extSome w2
    clear c5
    refine ext_tail 8 (by kernel_rfl) (by kernel_rfl) ?_
    simp only [List.take_succ_cons, List.take_zero, List.drop_succ_cons, List.drop_zero]
    repeat (go_big_quiet_step (fail))
    refine wpQuiet_nil ?_
    rintro _ ⟨y, hy⟩
    subst hy
    clear hsome x_c5
    have HY := Lib.hid y.below
    obtain ⟨w3, hwk⟩ : ∃ z, z = y.to := ⟨_, rfl⟩
    rw [← hwk] at HY ⊢
    clear hwk
    clear y
    have H' := Lib.hid (H.out.below HY.out)
    have HC' := Lib.hid (HC.out.below HY.out)
    clear H HC
    have H := H'
    have HC := HC'
    clear H' HC'
    clear HY
    go_wp2_with fail
    refine (wnumV_any H.out nW_ne 8 c 2 (by have := HL.out; omega) H.out.room).mono ?_
    rintro e w4 ⟨rfl, hc, hw⟩
    have HL' : Hid ((l ++ valL 1 a ++ valL 8 (intS c 2)).length ≤ 1001000012) := by have := ln_vnum (l ++ valL 1 a) 8 c 2; have := HL.out; show _ ≤ _; omega
    clear HL
    have HL := HL'
    clear HL'
    have HC' := Lib.hid (HC.out.trans hc)
    have H' := Lib.hid hw
    clear hc hw H HC
    have H := H'
    have HC := HC'
    clear H' HC'
    go_wp2_with fail
    exact bodyPost_end (results_none rfl _ _ _) rfl ⟨rfl, HC.out, H.out⟩
  · rw [if_neg h0]
    have hne := By.nonempty h0
    rw [← List.append_assoc]
    clear h0
    obtain ⟨-, c2, -⟩ := H.out.cells
    go_enter Tryz.func76, Tryz.ntmps76
    go_wp2_with fail
    have x_c2 : ∀ y : Ext w, y.to.cell? ⟨P, 2, none⟩ = some (.string a) := fun y => ext_cell y c2
    have hsome := extSome w
    clear c2
    refine ext_tail 8 (by kernel_rfl) (by kernel_rfl) ?_
    simp only [List.take_succ_cons, List.take_zero, List.drop_succ_cons, List.drop_zero]
    repeat (go_big_quiet_step (fail))
    refine wpQuiet_nil ?_
    rintro _ ⟨y, hy⟩
    subst hy
    clear hsome x_c2
    have HY := Lib.hid y.below
    obtain ⟨w1, hwk⟩ : ∃ z, z = y.to := ⟨_, rfl⟩
    rw [← hwk] at HY ⊢
    clear hwk
    clear y
    have H' := Lib.hid (H.out.below HY.out)
    have HC' := Lib.hid (HC.out.below HY.out)
    clear H HC
    have H := H'
    have HC := HC'
    clear H' HC'
    clear HY
    go_wp2_with fail
    refine (wvalue_any H.out nW_ne 1 a (by have := HL.out; have := HA.out; omega) H.out.room).mono ?_
    rintro e w2 ⟨rfl, hc, hw⟩
    have HL' : Hid ((l ++ valL 1 a).length ≤ 1001000004) := by have := ln_val (l) 1 a; have := HL.out; have := HA.out; show _ ≤ _; omega
    clear HL
    have HL := HL'
    clear HL'
    have HC' := Lib.hid (HC.out.trans hc)
    have H' := Lib.hid hw
    clear hc hw H HC
    have H := H'
    have HC := HC'
    clear H' HC'
    obtain ⟨-, -, -, c4, -⟩ := H.out.cells
    go_wp2_with fail
    have x_c4 : ∀ y : Ext w2, y.to.cell? ⟨P, 4, none⟩ = some (.string d) := fun y => ext_cell y c4
    have hsome := extSome w2
    clear c4
    refine ext_tail 8 (by kernel_rfl) (by kernel_rfl) ?_
    simp only [List.take_succ_cons, List.take_zero, List.drop_succ_cons, List.drop_zero]
    repeat (go_big_quiet_step (fail))
    refine wpQuiet_nil ?_
    rintro _ ⟨y, hy⟩
    subst hy
    clear hsome x_c4
    have HY := Lib.hid y.below
    obtain ⟨w3, hwk⟩ : ∃ z, z = y.to := ⟨_, rfl⟩
    rw [← hwk] at HY ⊢
    clear hwk
    clear y
    have H' := Lib.hid (H.out.below HY.out)
    have HC' := Lib.hid (HC.out.below HY.out)
    clear H HC
    have H := H'
    have HC := HC'
    clear H' HC'
    clear HY
    go_wp2_with fail
    refine (wvalue_any H.out nW_ne 6 d (by have := HL.out; have := HD.out; omega) H.out.room).mono ?_
    rintro e w4 ⟨rfl, hc, hw⟩
    have HL' : Hid ((l ++ valL 1 a ++ valL 6 d).length ≤ 1002000008) := by have := ln_val (l ++ valL 1 a) 6 d; have := HL.out; have := HD.out; show _ ≤ _; omega
    clear HL
    have HL := HL'
    clear HL'
    have HC' := Lib.hid (HC.out.trans hc)
    have H' := Lib.hid hw
    clear hc hw H HC
    have H := H'
    have HC := HC'
    clear H' HC'
    go_wp2_with fail
    exact bodyPost_end (results_none rfl _ _ _) rfl ⟨rfl, HC.out, H.out⟩
theorem grant_true (h : Wr N P 81 (nR k a x d c s e t true vi vz) w l) (hl : l.length ≤ 1000000000) (ha : a.size ≤ 1000000) (hx : x.size ≤ 1000000) :
    Calls Tryz.prog 81 #[.pointer (some ⟨P, 0, none⟩)] w (WrP N P 81 (nR k a x d c s e t true vi vz) w (l ++ txtL a 1 ++ numL' 1 1 ++ txtL x 2)) := by
  have H := Lib.hid h
  have HL := Lib.hid hl
  have HC := Lib.hid (Ch.refl N P w)
  clear h hl
  have HA := Lib.hid ha
  have HX := Lib.hid hx
  clear ha hx
  obtain ⟨-, c2, -⟩ := H.out.cells
  go_enter Tryz.func81, Tryz.ntmps81
  go_wp2_with fail
  have x_c2 : ∀ y : Ext w, y.to.cell? ⟨P, 2, none⟩ = some (.string a) := fun y => ext_cell y c2
  have hsome := extSome w
  clear c2
  refine ext_tail 8 (by kernel_rfl) (by kernel_rfl) ?_
  simp only [List.take_succ_cons, List.take_zero, List.drop_succ_cons, List.drop_zero]
  repeat (go_big_quiet_step (fail))
  refine wpQuiet_nil ?_
  rintro _ ⟨y, hy⟩
  subst hy
  clear hsome x_c2
  have HY := Lib.hid y.below
  obtain ⟨w1, hwk⟩ : ∃ z, z = y.to := ⟨_, rfl⟩
  rw [← hwk] at HY ⊢
  clear hwk
  clear y
  have H' := Lib.hid (H.out.below HY.out)
  have HC' := Lib.hid (HC.out.below HY.out)
  clear H HC
  have H := H'
  have HC := HC'
  clear H' HC'
  clear HY
  go_wp2_with fail
  refine (wtext_any H.out nW_ne a 1 (by have := HL.out; have := HA.out; omega) H.out.room).mono ?_
  rintro e w2 ⟨rfl, hc, hw⟩
  have HL' : Hid ((l ++ txtL a 1).length ≤ 1001000004) := by have := ln_txt (l) a 1; have := HL.out; have := HA.out; show _ ≤ _; omega
  clear HL
  have HL := HL'
  clear HL'
  have HC' := Lib.hid (HC.out.trans hc)
  have H' := Lib.hid hw
  clear hc hw H HC
  have H := H'
  have HC := HC'
  clear H' HC'
  obtain ⟨-, -, -, -, -, -, -, -, c9, -⟩ := H.out.cells
  go_wp2_with fail
  refine (wnumber_any H.out nW_ne 1 1 (by have := HL.out; omega) H.out.room).mono ?_
  rintro e w3 ⟨rfl, hc, hw⟩
  have HL' : Hid ((l ++ txtL a 1 ++ numL' 1 1).length ≤ 1001000008) := by have := ln_num (l ++ txtL a 1) 1 1; have := HL.out; show _ ≤ _; omega
  clear HL
  have HL := HL'
  clear HL'
  have HC' := Lib.hid (HC.out.trans hc)
  have H' := Lib.hid hw
  clear hc hw H HC
  have H := H'
  have HC := HC'
  clear H' HC'
  obtain ⟨-, -, c3, -⟩ := H.out.cells
  go_wp2_with fail
  have x_c3 : ∀ y : Ext w3, y.to.cell? ⟨P, 3, none⟩ = some (.string x) := fun y => ext_cell y c3
  have hsome := extSome w3
  clear c3
  refine ext_tail 8 (by kernel_rfl) (by kernel_rfl) ?_
  simp only [List.take_succ_cons, List.take_zero, List.drop_succ_cons, List.drop_zero]
  repeat (go_big_quiet_step (fail))
  refine wpQuiet_nil ?_
  rintro _ ⟨y, hy⟩
  subst hy
  clear hsome x_c3
  have HY := Lib.hid y.below
  obtain ⟨w4, hwk⟩ : ∃ z, z = y.to := ⟨_, rfl⟩
  rw [← hwk] at HY ⊢
  clear hwk
  clear y
  have H' := Lib.hid (H.out.below HY.out)
  have HC' := Lib.hid (HC.out.below HY.out)
  clear H HC
  have H := H'
  have HC := HC'
  clear H' HC'
  clear HY
  go_wp2_with fail
  refine (wtext_any H.out nW_ne x 2 (by have := HL.out; have := HX.out; omega) H.out.room).mono ?_
  rintro e w5 ⟨rfl, hc, hw⟩
  have HL' : Hid ((l ++ txtL a 1 ++ numL' 1 1 ++ txtL x 2).length ≤ 1002000012) := by have := ln_txt (l ++ txtL a 1 ++ numL' 1 1) x 2; have := HL.out; have := HX.out; show _ ≤ _; omega
  clear HL
  have HL := HL'
  clear HL'
  have HC' := Lib.hid (HC.out.trans hc)
  have H' := Lib.hid hw
  clear hc hw H HC
  have H := H'
  have HC := HC'
  clear H' HC'
  go_wp2_with fail
  exact bodyPost_end (results_none rfl _ _ _) rfl ⟨rfl, HC.out, H.out⟩
theorem grant_false (h : Wr N P 81 (nR k a x d c s e t false vi vz) w l) (hl : l.length ≤ 1000000000) (ha : a.size ≤ 1000000) (hx : x.size ≤ 1000000) :
    Calls Tryz.prog 81 #[.pointer (some ⟨P, 0, none⟩)] w (WrP N P 81 (nR k a x d c s e t false vi vz) w (l ++ txtL a 1 ++ numL' 0 1 ++ txtL x 2)) := by
  have H := Lib.hid h
  have HL := Lib.hid hl
  have HC := Lib.hid (Ch.refl N P w)
  clear h hl
  have HA := Lib.hid ha
  have HX := Lib.hid hx
  clear ha hx
  obtain ⟨-, c2, -⟩ := H.out.cells
  go_enter Tryz.func81, Tryz.ntmps81
  go_wp2_with fail
  have x_c2 : ∀ y : Ext w, y.to.cell? ⟨P, 2, none⟩ = some (.string a) := fun y => ext_cell y c2
  have hsome := extSome w
  clear c2
  refine ext_tail 8 (by kernel_rfl) (by kernel_rfl) ?_
  simp only [List.take_succ_cons, List.take_zero, List.drop_succ_cons, List.drop_zero]
  repeat (go_big_quiet_step (fail))
  refine wpQuiet_nil ?_
  rintro _ ⟨y, hy⟩
  subst hy
  clear hsome x_c2
  have HY := Lib.hid y.below
  obtain ⟨w1, hwk⟩ : ∃ z, z = y.to := ⟨_, rfl⟩
  rw [← hwk] at HY ⊢
  clear hwk
  clear y
  have H' := Lib.hid (H.out.below HY.out)
  have HC' := Lib.hid (HC.out.below HY.out)
  clear H HC
  have H := H'
  have HC := HC'
  clear H' HC'
  clear HY
  go_wp2_with fail
  refine (wtext_any H.out nW_ne a 1 (by have := HL.out; have := HA.out; omega) H.out.room).mono ?_
  rintro e w2 ⟨rfl, hc, hw⟩
  have HL' : Hid ((l ++ txtL a 1).length ≤ 1001000004) := by have := ln_txt (l) a 1; have := HL.out; have := HA.out; show _ ≤ _; omega
  clear HL
  have HL := HL'
  clear HL'
  have HC' := Lib.hid (HC.out.trans hc)
  have H' := Lib.hid hw
  clear hc hw H HC
  have H := H'
  have HC := HC'
  clear H' HC'
  obtain ⟨-, -, -, -, -, -, -, -, c9, -⟩ := H.out.cells
  go_wp2_with fail
  refine (wnumber_any H.out nW_ne 0 1 (by have := HL.out; omega) H.out.room).mono ?_
  rintro e w3 ⟨rfl, hc, hw⟩
  have HL' : Hid ((l ++ txtL a 1 ++ numL' 0 1).length ≤ 1001000008) := by have := ln_num (l ++ txtL a 1) 0 1; have := HL.out; show _ ≤ _; omega
  clear HL
  have HL := HL'
  clear HL'
  have HC' := Lib.hid (HC.out.trans hc)
  have H' := Lib.hid hw
  clear hc hw H HC
  have H := H'
  have HC := HC'
  clear H' HC'
  obtain ⟨-, -, c3, -⟩ := H.out.cells
  go_wp2_with fail
  have x_c3 : ∀ y : Ext w3, y.to.cell? ⟨P, 3, none⟩ = some (.string x) := fun y => ext_cell y c3
  have hsome := extSome w3
  clear c3
  refine ext_tail 8 (by kernel_rfl) (by kernel_rfl) ?_
  simp only [List.take_succ_cons, List.take_zero, List.drop_succ_cons, List.drop_zero]
  repeat (go_big_quiet_step (fail))
  refine wpQuiet_nil ?_
  rintro _ ⟨y, hy⟩
  subst hy
  clear hsome x_c3
  have HY := Lib.hid y.below
  obtain ⟨w4, hwk⟩ : ∃ z, z = y.to := ⟨_, rfl⟩
  rw [← hwk] at HY ⊢
  clear hwk
  clear y
  have H' := Lib.hid (H.out.below HY.out)
  have HC' := Lib.hid (HC.out.below HY.out)
  clear H HC
  have H := H'
  have HC := HC'
  clear H' HC'
  clear HY
  go_wp2_with fail
  refine (wtext_any H.out nW_ne x 2 (by have := HL.out; have := HX.out; omega) H.out.room).mono ?_
  rintro e w5 ⟨rfl, hc, hw⟩
  have HL' : Hid ((l ++ txtL a 1 ++ numL' 0 1 ++ txtL x 2).length ≤ 1002000012) := by have := ln_txt (l ++ txtL a 1 ++ numL' 0 1) x 2; have := HL.out; have := HX.out; show _ ≤ _; omega
  clear HL
  have HL := HL'
  clear HL'
  have HC' := Lib.hid (HC.out.trans hc)
  have H' := Lib.hid hw
  clear hc hw H HC
  have H := H'
  have HC := HC'
  clear H' HC'
  go_wp2_with fail
  exact bodyPost_end (results_none rfl _ _ _) rfl ⟨rfl, HC.out, H.out⟩
def ItS (w : World) (a : Option Addr) (l : List It) : Prop :=
  ∀ i (h : i < l.length), ∃ b o, a = some ⟨b, o, none⟩ ∧ w.cell? ⟨b, o + i * 6, none⟩ = some (.string l[i].n) ∧ w.cell? ⟨b, o + i * 6 + 1, none⟩ = some (.int .i64 l[i].g) ∧ w.cell? ⟨b, o + i * 6 + 2, none⟩ = some (.int .i64 l[i].i) ∧ w.cell? ⟨b, o + i * 6 + 3, none⟩ = some (.int .i64 l[i].t) ∧ w.cell? ⟨b, o + i * 6 + 4, none⟩ = some (.string l[i].a) ∧ w.cell? ⟨b, o + i * 6 + 5, none⟩ = some (.bool l[i].w)
def CdS (w : World) (a : Option Addr) (l : List Int) : Prop := ∀ i (h : i < l.length), ∃ b o, a = some ⟨b, o, none⟩ ∧ w.cell? ⟨b, o + i, none⟩ = some (.int .i64 l[i])
theorem keep_cell {N : Nat} {w w' : World} (hb : Below N w w') {b o : Nat} {v : Value} (h : w.cell? ⟨b, o, none⟩ = some v) (hN : b < N) : w'.cell? ⟨b, o, none⟩ = some v := (hb.cell (p := ⟨b, o, none⟩) hN).trans h
theorem ItS.below {w w' : World} {a : Option Addr} {l : List It} (h : ItS w a l) (hb : Below w.heap.size w w') : ItS w' a l := fun i hi => by
  obtain ⟨b, o, e, c0, c1, c2, c3, c4, c5⟩ := h i hi
  have hlt := World.block_lt_of_cell? _ _ c0
  exact ⟨b, o, e, keep_cell hb c0 hlt, keep_cell hb c1 hlt, keep_cell hb c2 hlt, keep_cell hb c3 hlt, keep_cell hb c4 hlt, keep_cell hb c5 hlt⟩
theorem CdS.below {w w' : World} {a : Option Addr} {l : List Int} (h : CdS w a l) (hb : Below w.heap.size w w') : CdS w' a l := fun i hi => by
  obtain ⟨b, o, e, c0⟩ := h i hi
  exact ⟨b, o, e, keep_cell hb c0 (World.block_lt_of_cell? _ _ c0)⟩
theorem bx6 {w : World} {b : Nat} {v0 v1 v2 v3 v4 v5 : Value} {t : TypeId} (h : w.heap[b]? = some (.cells #[v0, v1, v2, v3, v4, v5] t (0, 0))) :
    w.cell? ⟨b, 0, none⟩ = some v0 ∧ w.cell? ⟨b, 1, none⟩ = some v1 ∧ w.cell? ⟨b, 2, none⟩ = some v2 ∧ w.cell? ⟨b, 3, none⟩ = some v3 ∧ w.cell? ⟨b, 4, none⟩ = some v4 ∧ w.cell? ⟨b, 5, none⟩ = some v5 := by
  refine ⟨?_, ?_, ?_, ?_, ?_, ?_⟩ <;> (rw [Lib.cell_of_heap h]; rfl)
theorem bx11 {w : World} {b : Nat} {v0 v1 v2 v3 v4 v5 v6 v7 v8 v9 v10 : Value} {t : TypeId} (h : w.heap[b]? = some (.cells #[v0, v1, v2, v3, v4, v5, v6, v7, v8, v9, v10] t (0, 0))) :
    w.cell? ⟨b, 0, none⟩ = some v0 ∧ w.cell? ⟨b, 1, none⟩ = some v1 ∧ w.cell? ⟨b, 2, none⟩ = some v2 ∧ w.cell? ⟨b, 3, none⟩ = some v3 ∧ w.cell? ⟨b, 4, none⟩ = some v4 ∧ w.cell? ⟨b, 5, none⟩ = some v5 ∧ w.cell? ⟨b, 6, none⟩ = some v6 ∧ w.cell? ⟨b, 7, none⟩ = some v7 ∧ w.cell? ⟨b, 8, none⟩ = some v8 ∧ w.cell? ⟨b, 9, none⟩ = some v9 ∧ w.cell? ⟨b, 10, none⟩ = some v10 := by
  refine ⟨?_, ?_, ?_, ?_, ?_, ?_, ?_, ?_, ?_, ?_, ?_⟩ <;> (rw [Lib.cell_of_heap h]; rfl)
theorem bx11x {w : World} {b : Nat} {v0 v1 v2 v3 v4 v5 v6 v7 v8 v9 v10 : Value} {t : TypeId} (h : Hid (w.heap[b]? = some (.cells #[v0, v1, v2, v3, v4, v5, v6, v7, v8, v9, v10] t (0, 0)))) : (∀ y : Ext w, y.to.cell? ⟨b, 0, none⟩ = some v0) ∧ (∀ y : Ext w, y.to.cell? ⟨b, 1, none⟩ = some v1) ∧ (∀ y : Ext w, y.to.cell? ⟨b, 2, none⟩ = some v2) ∧ (∀ y : Ext w, y.to.cell? ⟨b, 3, none⟩ = some v3) ∧ (∀ y : Ext w, y.to.cell? ⟨b, 4, none⟩ = some v4) ∧ (∀ y : Ext w, y.to.cell? ⟨b, 5, none⟩ = some v5) ∧ (∀ y : Ext w, y.to.cell? ⟨b, 6, none⟩ = some v6) ∧ (∀ y : Ext w, y.to.cell? ⟨b, 7, none⟩ = some v7) ∧ (∀ y : Ext w, y.to.cell? ⟨b, 8, none⟩ = some v8) ∧ (∀ y : Ext w, y.to.cell? ⟨b, 9, none⟩ = some v9) ∧ (∀ y : Ext w, y.to.cell? ⟨b, 10, none⟩ = some v10) := by
  obtain ⟨m0, m1, m2, m3, m4, m5, m6, m7, m8, m9, m10⟩ := bx11 h.out
  exact ⟨fun y => ext_cell y m0, fun y => ext_cell y m1, fun y => ext_cell y m2, fun y => ext_cell y m3, fun y => ext_cell y m4, fun y => ext_cell y m5, fun y => ext_cell y m6, fun y => ext_cell y m7, fun y => ext_cell y m8, fun y => ext_cell y m9, fun y => ext_cell y m10⟩
theorem cds_next {l : List Int} {j : Nat} (h : j < l.length) : cdsL (l.take (j + 1)) = cdsL (l.take j) ++ numL' l[j] 2 := by
  unfold cdsL
  rw [List.take_succ_eq_append_getElem h, List.flatMap_append, List.flatMap_cons, List.flatMap_nil, List.append_nil]
theorem its_next {l : List It} {j : Nat} (h : j < l.length) : itsL (l.take (j + 1)) = itsL (l.take j) ++ itL l[j] := by
  unfold itsL
  rw [List.take_succ_eq_append_getElem h, List.flatMap_append, List.flatMap_cons, List.flatMap_nil, List.append_nil]
theorem mrk_len (x : It) : (mrkL x).length ≤ x.a.size + 8 := by
  have h1 := ln_val [] 305 x.a
  have h2 := ln_val [] 102 ⟨#[]⟩
  rw [List.nil_append, List.length_nil] at h1 h2
  have h3 : (⟨#[]⟩ : ByteArray).size = 0 := rfl
  unfold mrkL
  rw [List.length_append]
  split <;> split <;> first | (simp only [List.length_nil]; omega) | omega
theorem mrk_00 (n : ByteArray) (g i t : Int) (w : World) : Calls Tryz.prog 106 #[.agg #[.string n, .int .i64 g, .int .i64 i, .int .i64 t, .string ⟨#[]⟩, .bool false]] w (Gives (.string (mk ([]))) w) := by
  have HM : Hid (((w.alloc (.cells #[.string n, .int .i64 g, .int .i64 i, .int .i64 t, .string ⟨#[]⟩, .bool false] 45)).alloc (.cells #[.slice none 0 0] 79)).heap[w.heap.size]? = some (.cells #[.string n, .int .i64 g, .int .i64 i, .int .i64 t, .string ⟨#[]⟩, .bool false] 45 (0, 0))) := (Below.heap_alloc (w.alloc (.cells #[.string n, .int .i64 g, .int .i64 i, .int .i64 t, .string ⟨#[]⟩, .bool false] 45)) _ _ (by simp)).trans (box_new w _ _)
  have H : Hid (Wr w.heap.size (w.heap.size + 1) 79 [] ((w.alloc (.cells #[.string n, .int .i64 g, .int .i64 i, .int .i64 t, .string ⟨#[]⟩, .bool false] 45)).alloc (.cells #[.slice none 0 0] 79)) []) := ⟨by omega, .slice none 0 0, by have := box_new (w.alloc (.cells #[.string n, .int .i64 g, .int .i64 i, .int .i64 t, .string ⟨#[]⟩, .bool false] 45)) #[.slice none 0 0] 79; simpa using this, World.ownsRow_nil _ _ _ _⟩
  have HC := Lib.hid (Ch.refl w.heap.size (w.heap.size + 1) ((w.alloc (.cells #[.string n, .int .i64 g, .int .i64 i, .int .i64 t, .string ⟨#[]⟩, .bool false] 45)).alloc (.cells #[.slice none 0 0] 79)))
  have HL : Hid (([] : List UInt8).length ≤ 0) := Nat.le_refl _
  have HB2 : Hid (Below w.heap.size w ((w.alloc (.cells #[.string n, .int .i64 g, .int .i64 i, .int .i64 t, .string ⟨#[]⟩, .bool false] 45)).alloc (.cells #[.slice none 0 0] 79))) := ((Below.refl _ w).alloc (Nat.le_refl _) _).alloc (by simp) _
  have HS : Hid (w.heap.size ≤ ((w.alloc (.cells #[.string n, .int .i64 g, .int .i64 i, .int .i64 t, .string ⟨#[]⟩, .bool false] 45)).alloc (.cells #[.slice none 0 0] 79)).heap.size) := HB2.out.size
  obtain ⟨-, -, -, -, m4, m5⟩ := bx6 HM.out
  have hcv : (convert 77 9 (.slice none 0 0)).run Tryz.prog ((w.alloc (.cells #[.string n, .int .i64 g, .int .i64 i, .int .i64 t, .string ⟨#[]⟩, .bool false] 45)).alloc (.cells #[.slice none 0 0] 79)) = .ok (.string (mk [])) ((w.alloc (.cells #[.string n, .int .i64 g, .int .i64 i, .int .i64 t, .string ⟨#[]⟩, .bool false] 45)).alloc (.cells #[.slice none 0 0] 79)) := tok_conv (N := 0) (World.ownsRow_nil _ _ _ _)
  have d0 : ((w.alloc (.cells #[.string n, .int .i64 g, .int .i64 i, .int .i64 t, .string ⟨#[]⟩, .bool false] 45)).alloc (.cells #[.slice none 0 0] 79)).cell? ⟨w.heap.size + 1, 0, none⟩ = some (.slice none 0 0) := by have := box_new (w.alloc (.cells #[.string n, .int .i64 g, .int .i64 i, .int .i64 t, .string ⟨#[]⟩, .bool false] 45)) #[.slice none 0 0] 79; rw [Lib.cell_of_heap (b := w.heap.size + 1) (by simpa using this)]; rfl
  go_enter Tryz.func106, Tryz.ntmps106
  go_wp2_with fail
  go_ret
  exact ⟨by first | rfl | (rw [List.nil_append]; rfl), HB2.out⟩
theorem mrk_01 (n : ByteArray) (g i t : Int) (w : World) : Calls Tryz.prog 106 #[.agg #[.string n, .int .i64 g, .int .i64 i, .int .i64 t, .string ⟨#[]⟩, .bool true]] w (Gives (.string (mk (valL 102 ⟨#[]⟩))) w) := by
  have HM : Hid (((w.alloc (.cells #[.string n, .int .i64 g, .int .i64 i, .int .i64 t, .string ⟨#[]⟩, .bool true] 45)).alloc (.cells #[.slice none 0 0] 79)).heap[w.heap.size]? = some (.cells #[.string n, .int .i64 g, .int .i64 i, .int .i64 t, .string ⟨#[]⟩, .bool true] 45 (0, 0))) := (Below.heap_alloc (w.alloc (.cells #[.string n, .int .i64 g, .int .i64 i, .int .i64 t, .string ⟨#[]⟩, .bool true] 45)) _ _ (by simp)).trans (box_new w _ _)
  have H : Hid (Wr w.heap.size (w.heap.size + 1) 79 [] ((w.alloc (.cells #[.string n, .int .i64 g, .int .i64 i, .int .i64 t, .string ⟨#[]⟩, .bool true] 45)).alloc (.cells #[.slice none 0 0] 79)) []) := ⟨by omega, .slice none 0 0, by have := box_new (w.alloc (.cells #[.string n, .int .i64 g, .int .i64 i, .int .i64 t, .string ⟨#[]⟩, .bool true] 45)) #[.slice none 0 0] 79; simpa using this, World.ownsRow_nil _ _ _ _⟩
  have HC := Lib.hid (Ch.refl w.heap.size (w.heap.size + 1) ((w.alloc (.cells #[.string n, .int .i64 g, .int .i64 i, .int .i64 t, .string ⟨#[]⟩, .bool true] 45)).alloc (.cells #[.slice none 0 0] 79)))
  have HL : Hid (([] : List UInt8).length ≤ 0) := Nat.le_refl _
  have HB2 : Hid (Below w.heap.size w ((w.alloc (.cells #[.string n, .int .i64 g, .int .i64 i, .int .i64 t, .string ⟨#[]⟩, .bool true] 45)).alloc (.cells #[.slice none 0 0] 79))) := ((Below.refl _ w).alloc (Nat.le_refl _) _).alloc (by simp) _
  have HS : Hid (w.heap.size ≤ ((w.alloc (.cells #[.string n, .int .i64 g, .int .i64 i, .int .i64 t, .string ⟨#[]⟩, .bool true] 45)).alloc (.cells #[.slice none 0 0] 79)).heap.size) := HB2.out.size
  obtain ⟨-, -, -, -, m4, m5⟩ := bx6 HM.out
  go_enter Tryz.func106, Tryz.ntmps106
  go_wp2_with fail
  clear m4 m5
  refine (wvalue_any H.out w_ne 102 ⟨#[]⟩ (by have := HL.out; have hz0 : (⟨#[]⟩ : ByteArray).size = 0 := rfl; omega) H.out.room).mono ?_
  rintro e w1 ⟨rfl, hc, hw⟩
  replace HM := Lib.hid (hc.keep HM.out item_ne (by omega))
  have HL' : Hid (([] ++ valL 102 ⟨#[]⟩).length ≤ 4) := by have := ln_val ([]) 102 ⟨#[]⟩; have := HL.out; have hz0 : (⟨#[]⟩ : ByteArray).size = 0 := rfl; show _ ≤ _; omega
  clear HL
  have HL := HL'
  clear HL'
  have HC' := Lib.hid (HC.out.trans hc)
  have H' := Lib.hid hw
  clear hc hw H HC
  have H := H'
  have HC := HC'
  clear H' HC'
  obtain ⟨v, q1, q2⟩ := H.out.own
  obtain ⟨a9, k9, c9, rfl⟩ : ∃ a9 k9 c9, v = .slice a9 k9 c9 := by rcases q2.2 with ⟨e, _⟩ | ⟨g, cap, cur, e, _⟩ <;> exact ⟨_, _, _, e⟩
  have d0 : w1.cell? ⟨w.heap.size + 1, 0, none⟩ = some (.slice a9 k9 c9) := (Lib.cell_of_heap q1 0).trans (by simp)
  have hcv := tok_conv q2
  clear q1 q2
  go_wp2_with fail
  go_ret
  exact ⟨by first | rfl | (rw [List.nil_append]; rfl), HB2.out.trans (HC.out.toBelow HS.out)⟩
theorem mrk_10 (n a : ByteArray) (g i t : Int) (ha : a.size ≤ 1000000) (h0 : ¬ a.size = 0) (w : World) : Calls Tryz.prog 106 #[.agg #[.string n, .int .i64 g, .int .i64 i, .int .i64 t, .string a, .bool false]] w (Gives (.string (mk (valL 305 a))) w) := by
  have HM : Hid (((w.alloc (.cells #[.string n, .int .i64 g, .int .i64 i, .int .i64 t, .string a, .bool false] 45)).alloc (.cells #[.slice none 0 0] 79)).heap[w.heap.size]? = some (.cells #[.string n, .int .i64 g, .int .i64 i, .int .i64 t, .string a, .bool false] 45 (0, 0))) := (Below.heap_alloc (w.alloc (.cells #[.string n, .int .i64 g, .int .i64 i, .int .i64 t, .string a, .bool false] 45)) _ _ (by simp)).trans (box_new w _ _)
  have H : Hid (Wr w.heap.size (w.heap.size + 1) 79 [] ((w.alloc (.cells #[.string n, .int .i64 g, .int .i64 i, .int .i64 t, .string a, .bool false] 45)).alloc (.cells #[.slice none 0 0] 79)) []) := ⟨by omega, .slice none 0 0, by have := box_new (w.alloc (.cells #[.string n, .int .i64 g, .int .i64 i, .int .i64 t, .string a, .bool false] 45)) #[.slice none 0 0] 79; simpa using this, World.ownsRow_nil _ _ _ _⟩
  have HC := Lib.hid (Ch.refl w.heap.size (w.heap.size + 1) ((w.alloc (.cells #[.string n, .int .i64 g, .int .i64 i, .int .i64 t, .string a, .bool false] 45)).alloc (.cells #[.slice none 0 0] 79)))
  have HL : Hid (([] : List UInt8).length ≤ 0) := Nat.le_refl _
  have HB2 : Hid (Below w.heap.size w ((w.alloc (.cells #[.string n, .int .i64 g, .int .i64 i, .int .i64 t, .string a, .bool false] 45)).alloc (.cells #[.slice none 0 0] 79))) := ((Below.refl _ w).alloc (Nat.le_refl _) _).alloc (by simp) _
  have HS : Hid (w.heap.size ≤ ((w.alloc (.cells #[.string n, .int .i64 g, .int .i64 i, .int .i64 t, .string a, .bool false] 45)).alloc (.cells #[.slice none 0 0] 79)).heap.size) := HB2.out.size
  have hne := By.nonempty h0
  clear h0
  have HA := Lib.hid ha
  clear ha
  obtain ⟨-, -, -, -, m4, m5⟩ := bx6 HM.out
  go_enter Tryz.func106, Tryz.ntmps106
  go_wp2_with fail
  clear m4 m5
  refine (wvalue_any H.out w_ne 305 a (by have := HL.out; have := HA.out; omega) H.out.room).mono ?_
  rintro e w1 ⟨rfl, hc, hw⟩
  replace HM := Lib.hid (hc.keep HM.out item_ne (by omega))
  have HL' : Hid (([] ++ valL 305 a).length ≤ 1000004) := by have := ln_val ([]) 305 a; have := HL.out; have := HA.out; show _ ≤ _; omega
  clear HL
  have HL := HL'
  clear HL'
  have HC' := Lib.hid (HC.out.trans hc)
  have H' := Lib.hid hw
  clear hc hw H HC
  have H := H'
  have HC := HC'
  clear H' HC'
  obtain ⟨-, -, -, -, m4, m5⟩ := bx6 HM.out
  obtain ⟨v, q1, q2⟩ := H.out.own
  obtain ⟨a9, k9, c9, rfl⟩ : ∃ a9 k9 c9, v = .slice a9 k9 c9 := by rcases q2.2 with ⟨e, _⟩ | ⟨g, cap, cur, e, _⟩ <;> exact ⟨_, _, _, e⟩
  have d0 : w1.cell? ⟨w.heap.size + 1, 0, none⟩ = some (.slice a9 k9 c9) := (Lib.cell_of_heap q1 0).trans (by simp)
  have hcv := tok_conv q2
  clear q1 q2
  go_wp2_with fail
  go_ret
  exact ⟨by first | rfl | (rw [List.nil_append]; rfl), HB2.out.trans (HC.out.toBelow HS.out)⟩
theorem mrk_11 (n a : ByteArray) (g i t : Int) (ha : a.size ≤ 1000000) (h0 : ¬ a.size = 0) (w : World) : Calls Tryz.prog 106 #[.agg #[.string n, .int .i64 g, .int .i64 i, .int .i64 t, .string a, .bool true]] w (Gives (.string (mk (valL 305 a ++ valL 102 ⟨#[]⟩))) w) := by
  have HM : Hid (((w.alloc (.cells #[.string n, .int .i64 g, .int .i64 i, .int .i64 t, .string a, .bool true] 45)).alloc (.cells #[.slice none 0 0] 79)).heap[w.heap.size]? = some (.cells #[.string n, .int .i64 g, .int .i64 i, .int .i64 t, .string a, .bool true] 45 (0, 0))) := (Below.heap_alloc (w.alloc (.cells #[.string n, .int .i64 g, .int .i64 i, .int .i64 t, .string a, .bool true] 45)) _ _ (by simp)).trans (box_new w _ _)
  have H : Hid (Wr w.heap.size (w.heap.size + 1) 79 [] ((w.alloc (.cells #[.string n, .int .i64 g, .int .i64 i, .int .i64 t, .string a, .bool true] 45)).alloc (.cells #[.slice none 0 0] 79)) []) := ⟨by omega, .slice none 0 0, by have := box_new (w.alloc (.cells #[.string n, .int .i64 g, .int .i64 i, .int .i64 t, .string a, .bool true] 45)) #[.slice none 0 0] 79; simpa using this, World.ownsRow_nil _ _ _ _⟩
  have HC := Lib.hid (Ch.refl w.heap.size (w.heap.size + 1) ((w.alloc (.cells #[.string n, .int .i64 g, .int .i64 i, .int .i64 t, .string a, .bool true] 45)).alloc (.cells #[.slice none 0 0] 79)))
  have HL : Hid (([] : List UInt8).length ≤ 0) := Nat.le_refl _
  have HB2 : Hid (Below w.heap.size w ((w.alloc (.cells #[.string n, .int .i64 g, .int .i64 i, .int .i64 t, .string a, .bool true] 45)).alloc (.cells #[.slice none 0 0] 79))) := ((Below.refl _ w).alloc (Nat.le_refl _) _).alloc (by simp) _
  have HS : Hid (w.heap.size ≤ ((w.alloc (.cells #[.string n, .int .i64 g, .int .i64 i, .int .i64 t, .string a, .bool true] 45)).alloc (.cells #[.slice none 0 0] 79)).heap.size) := HB2.out.size
  have hne := By.nonempty h0
  clear h0
  have HA := Lib.hid ha
  clear ha
  obtain ⟨-, -, -, -, m4, m5⟩ := bx6 HM.out
  go_enter Tryz.func106, Tryz.ntmps106
  go_wp2_with fail
  clear m4 m5
  refine (wvalue_any H.out w_ne 305 a (by have := HL.out; have := HA.out; omega) H.out.room).mono ?_
  rintro e w1 ⟨rfl, hc, hw⟩
  replace HM := Lib.hid (hc.keep HM.out item_ne (by omega))
  have HL' : Hid (([] ++ valL 305 a).length ≤ 1000004) := by have := ln_val ([]) 305 a; have := HL.out; have := HA.out; show _ ≤ _; omega
  clear HL
  have HL := HL'
  clear HL'
  have HC' := Lib.hid (HC.out.trans hc)
  have H' := Lib.hid hw
  clear hc hw H HC
  have H := H'
  have HC := HC'
  clear H' HC'
  obtain ⟨-, -, -, -, m4, m5⟩ := bx6 HM.out
  go_wp2_with fail
  clear m4 m5
  refine (wvalue_any H.out w_ne 102 ⟨#[]⟩ (by have := HL.out; have hz0 : (⟨#[]⟩ : ByteArray).size = 0 := rfl; omega) H.out.room).mono ?_
  rintro e w2 ⟨rfl, hc, hw⟩
  replace HM := Lib.hid (hc.keep HM.out item_ne (by omega))
  have HL' : Hid (([] ++ valL 305 a ++ valL 102 ⟨#[]⟩).length ≤ 1000008) := by have := ln_val ([] ++ valL 305 a) 102 ⟨#[]⟩; have := HL.out; have hz0 : (⟨#[]⟩ : ByteArray).size = 0 := rfl; show _ ≤ _; omega
  clear HL
  have HL := HL'
  clear HL'
  have HC' := Lib.hid (HC.out.trans hc)
  have H' := Lib.hid hw
  clear hc hw H HC
  have H := H'
  have HC := HC'
  clear H' HC'
  obtain ⟨v, q1, q2⟩ := H.out.own
  obtain ⟨a9, k9, c9, rfl⟩ : ∃ a9 k9 c9, v = .slice a9 k9 c9 := by rcases q2.2 with ⟨e, _⟩ | ⟨g, cap, cur, e, _⟩ <;> exact ⟨_, _, _, e⟩
  have d0 : w2.cell? ⟨w.heap.size + 1, 0, none⟩ = some (.slice a9 k9 c9) := (Lib.cell_of_heap q1 0).trans (by simp)
  have hcv := tok_conv q2
  clear q1 q2
  go_wp2_with fail
  go_ret
  exact ⟨by first | rfl | (rw [List.nil_append]; rfl), HB2.out.trans (HC.out.toBelow HS.out)⟩
theorem marksOf_any (x : It) (hs : x.a.size ≤ 1000000) (w : World) : Calls Tryz.prog 106 #[.agg #[.string x.n, .int .i64 x.g, .int .i64 x.i, .int .i64 x.t, .string x.a, .bool x.w]] w (Gives (.string (mk (mrkL x))) w) := by
  unfold mrkL
  cases x with | mk n g i t a v =>
  simp only at hs ⊢
  by_cases h0 : a.size = 0
  · rw [if_pos h0]
    obtain rfl := By.empty_of h0
    cases v
    · rw [if_neg (by decide)]
      exact mrk_00 n g i t w
    · rw [if_pos rfl]
      exact mrk_01 n g i t w
  · rw [if_neg h0]
    cases v
    · rw [if_neg (by decide), List.append_nil]
      exact mrk_10 n a g i t hs h0 w
    · rw [if_pos rfl]
      exact mrk_11 n a g i t hs h0 w
theorem codes_any {az : Option Addr} {lz : List Int} {cz : Nat} (h : Wr N P 81 (nR k a x d c s e t o vi (.slice az lz.length cz)) w l) (hl : l.length ≤ 1000000000) (he : ∀ W, Ch N P w W → CdS W az lz) (hn : lz.length ≤ 1000) :
    Calls Tryz.prog 80 #[.pointer (some ⟨P, 0, none⟩)] w (WrP N P 81 (nR k a x d c s e t o vi (.slice az lz.length cz)) w (l ++ cdsL lz)) := by
  have H := Lib.hid h
  have HL := Lib.hid hl
  have HC := Lib.hid (Ch.refl N P w)
  clear h hl
  have HE := Lib.hid he
  clear he
  have hzn := hn
  clear hn
  obtain ⟨-, -, -, -, -, -, -, -, -, -, c11⟩ := H.out.cells
  go_enter Tryz.func80, Tryz.ntmps80
  go_wp2_with fail
  clear c11
  go_loopw [10] (fun i wr => ∃ j : Nat, i = .int .i64 j ∧ j ≤ lz.length ∧ Hid (Wr N P 81 (nR k a x d c s e t o vi (.slice az lz.length cz)) wr (l ++ cdsL (lz.take j))) ∧ Hid (Ch N P w wr) ∧ Hid ((l ++ cdsL (lz.take j)).length ≤ 1000000000 + 4 * j)) (fun i _ => lz.length - (RowKit.intOf i).toNat)
  case atStart => exact ⟨0, rfl, Nat.zero_le _, by rw [List.take_zero, show cdsL [] = [] from rfl, List.append_nil]; exact H.out, HC.out, by rw [List.take_zero, show cdsL [] = [] from rfl, List.append_nil]; exact HL.out⟩
  case round =>
    clear H HC HL
    obtain ⟨j, rfl, hj, H, HC, HL⟩ := hrel
    by_cases hlt : j < lz.length
    · obtain ⟨b, p, rfl, c0⟩ := HE.out _ HC.out j hlt
      have HN := Lib.hid (cds_next hlt)
      generalize lz[j] = q at c0 HN
      have HL0 := HL
      go_wp2_with fail
      refine (wnumber_any H.out nW_ne q 2 (by have := HL.out; omega) H.out.room).mono ?_
      rintro e w1 ⟨rfl, hc, hw⟩
      have HC1 := Lib.hid (HC.out.trans hc)
      have H1 : Hid (Wr N P 81 (nR k a x d c s e t o vi (.slice (some ⟨b, p, none⟩) lz.length cz)) w1 (l ++ cdsL (lz.take (j + 1)))) := by show Wr _ _ _ _ _ _; rw [HN.out, ← List.append_assoc]; exact hw
      have HL1 : Hid ((l ++ cdsL (lz.take (j + 1))).length ≤ 1000000000 + 4 * (j + 1)) := by show _ ≤ _; rw [HN.out, ← List.append_assoc]; have := ln_num (l ++ cdsL (lz.take j)) q 2; have := HL.out; omega
      clear hc hw H HC HL HL0 HN
      go_wp2_with fail
      exact ⟨⟨j + 1, by go_num, by omega, H1.out, HC1.out, HL1.out⟩, by simp [RowKit.intOf]; omega⟩
    · obtain rfl : j = lz.length := by omega
      have HF : Hid (Wr N P 81 (nR k a x d c s e t o vi (.slice az lz.length cz)) wr (l ++ cdsL lz)) := by have := H.out; rw [List.take_of_length_le (Nat.le_refl _)] at this; exact this
      clear H
      go_wp2_with fail
      exact bodyPost_end (results_none rfl _ _ _) rfl ⟨rfl, HC.out, HF.out⟩
theorem it_len (x : It) : (itL x).length ≤ x.n.size + x.a.size + 40 := by
  have h1 := ln_txt [] x.n 2
  have h2 := ln_num [] x.g 2
  have h3 := ln_num [] x.i 2
  have h4 := ln_num [] x.t 2
  have h5 := ln_txt [] (mk (mrkL x)) 2
  have h6 := mrk_len x
  rw [mk_size] at h5
  simp only [List.nil_append, List.length_nil] at h1 h2 h3 h4 h5
  unfold itL
  simp only [List.length_append]
  omega
theorem items_any {ai : Option Addr} {li : List It} {ci : Nat} (h : Wr N P 81 (nR k a x d c s e t o (.slice ai li.length ci) vz) w l) (hl : l.length ≤ 1000000000) (he : ∀ W, Ch N P w W → ItS W ai li) (hn : li.length ≤ 1000) (hz : ∀ x ∈ li, x.n.size ≤ 1000000 ∧ x.a.size ≤ 1000000) :
    Calls Tryz.prog 79 #[.pointer (some ⟨P, 0, none⟩)] w (WrP N P 81 (nR k a x d c s e t o (.slice ai li.length ci) vz) w (l ++ itsL li)) := by
  have H := Lib.hid h
  have HL := Lib.hid hl
  have HC := Lib.hid (Ch.refl N P w)
  clear h hl
  have HE := Lib.hid he
  clear he
  have hzn := hn
  clear hn
  have HZ := Lib.hid hz
  clear hz
  obtain ⟨-, -, -, -, -, -, -, -, -, c10, -⟩ := H.out.cells
  go_enter Tryz.func79, Tryz.ntmps79
  go_wp2_with fail
  clear c10
  go_loopw [10] (fun i wr => ∃ j : Nat, i = .int .i64 j ∧ j ≤ li.length ∧ Hid (Wr N P 81 (nR k a x d c s e t o (.slice ai li.length ci) vz) wr (l ++ itsL (li.take j))) ∧ Hid (Ch N P w wr) ∧ Hid ((l ++ itsL (li.take j)).length ≤ 1000000000 + 3000100 * j)) (fun i _ => li.length - (RowKit.intOf i).toNat)
  case atStart => exact ⟨0, rfl, Nat.zero_le _, by rw [List.take_zero, show itsL [] = [] from rfl, List.append_nil]; exact H.out, HC.out, by rw [List.take_zero, show itsL [] = [] from rfl, List.append_nil]; exact HL.out⟩
  case round =>
    clear H HC HL
    obtain ⟨j, rfl, hj, H, HC, HL⟩ := hrel
    by_cases hlt : j < li.length
    · obtain ⟨b, p, rfl, e0, e1, e2, e3, e4, e5⟩ := HE.out _ HC.out j hlt
      have HN := Lib.hid (its_next hlt)
      have hzz := HZ.out _ (List.getElem_mem hlt)
      have HQ := Lib.hid hzz
      clear hzz
      generalize li[j] = q at e0 e1 e2 e3 e4 e5 HN HQ
      have HM := Lib.hid (box_new wr #[.string q.n, .int .i64 q.g, .int .i64 q.i, .int .i64 q.t, .string q.a, .bool q.w] 45)
      have HMP : Hid (wr.heap.size ≠ P) := Nat.ne_of_gt H.out.lt
      have hbw : Below wr.heap.size wr (wr.alloc (.cells #[.string q.n, .int .i64 q.g, .int .i64 q.i, .int .i64 q.t, .string q.a, .bool q.w] 45)) := (Below.refl _ wr).alloc (Nat.le_refl _) _
      have HBW := Lib.hid hbw
      clear hbw
      obtain ⟨m0, m1, m2, m3, m4, m5⟩ := bx6 HM.out
      have CM := Lib.hid (fun W => marksOf_any q HQ.out.2 W)
      have HMZ : Hid ((mk (mrkL q)).size ≤ 1000008) := by have := mrk_len q; have := HQ.out.2; show _ ≤ _; rw [mk_size]; omega
      go_wp2_with fail
      obtain ⟨wa, hwa⟩ : ∃ z, z = (wr.alloc (.cells #[.string q.n, .int .i64 q.g, .int .i64 q.i, .int .i64 q.t, .string q.a, .bool q.w] 45)) := ⟨_, rfl⟩
      rw [← hwa] at HM HBW m0 m1 m2 m3 m4 m5 ⊢
      clear hwa
      have H' := Lib.hid (H.out.below HBW.out)
      have HC' := Lib.hid (HC.out.below HBW.out)
      clear H HC HBW e0 e1 e2 e3 e4 e5
      have H := H'
      have HC := HC'
      clear H' HC'
      generalize wr.heap.size = M at HM HMP m0 m1 m2 m3 m4 m5 ⊢
      have HL' : Hid ((l ++ itsL (li.take j)).length ≤ 4100000000) := by have := HL.out; show _ ≤ _; omega
      have HLJ := HL
      clear HL
      have HL := HL'
      clear HL'
      clear m1 m2 m3 m4 m5
      have x_m0 : ∀ y : Ext wa, y.to.cell? ⟨M, 0, none⟩ = some (.string q.n) := fun y => ext_cell y m0
      have hsome := extSome wa
      clear m0
      refine ext_tail 5 (by kernel_rfl) (by kernel_rfl) ?_
      simp only [List.take_succ_cons, List.take_zero, List.drop_succ_cons, List.drop_zero]
      repeat (go_big_quiet_step (fail))
      refine wpQuiet_nil ?_
      rintro _ ⟨y, hy⟩
      subst hy
      clear hsome x_m0
      have HY := Lib.hid y.below
      obtain ⟨w1, hwk⟩ : ∃ z, z = y.to := ⟨_, rfl⟩
      rw [← hwk] at HY ⊢
      clear hwk
      clear y
      have H' := Lib.hid (H.out.below HY.out)
      have HC' := Lib.hid (HC.out.below HY.out)
      clear H HC
      have H := H'
      have HC := HC'
      clear H' HC'
      replace HM := Lib.hid ((HY.out.block _ (heap_lt HM.out)).trans HM.out)
      clear HY
      go_wp2_with fail
      refine (wtext_any H.out nW_ne q.n 2 (by have := HL.out; have := HQ.out.1; omega) H.out.room).mono ?_
      rintro e w2 ⟨rfl, hc, hw⟩
      replace HM := Lib.hid (hc.keep HM.out item_ne HMP.out)
      have HL' : Hid (((l ++ itsL (li.take j)) ++ txtL q.n 2).length ≤ 4101000004) := by have := ln_txt ((l ++ itsL (li.take j))) q.n 2; have := HL.out; have := HQ.out.1; show _ ≤ _; omega
      clear HL
      have HL := HL'
      clear HL'
      have HC' := Lib.hid (HC.out.trans hc)
      have H' := Lib.hid hw
      clear hc hw H HC
      have H := H'
      have HC := HC'
      clear H' HC'
      obtain ⟨m0, m1, m2, m3, m4, m5⟩ := bx6 HM.out
      go_wp2_with fail
      clear m0 m2 m3 m4 m5
      have x_m1 : ∀ y : Ext w2, y.to.cell? ⟨M, 1, none⟩ = some (.int .i64 q.g) := fun y => ext_cell y m1
      have hsome := extSome w2
      clear m1
      refine ext_tail 5 (by kernel_rfl) (by kernel_rfl) ?_
      simp only [List.take_succ_cons, List.take_zero, List.drop_succ_cons, List.drop_zero]
      repeat (go_big_quiet_step (fail))
      refine wpQuiet_nil ?_
      rintro _ ⟨y, hy⟩
      subst hy
      clear hsome x_m1
      have HY := Lib.hid y.below
      obtain ⟨w3, hwk⟩ : ∃ z, z = y.to := ⟨_, rfl⟩
      rw [← hwk] at HY ⊢
      clear hwk
      clear y
      have H' := Lib.hid (H.out.below HY.out)
      have HC' := Lib.hid (HC.out.below HY.out)
      clear H HC
      have H := H'
      have HC := HC'
      clear H' HC'
      replace HM := Lib.hid ((HY.out.block _ (heap_lt HM.out)).trans HM.out)
      clear HY
      go_wp2_with fail
      refine (wnumber_any H.out nW_ne q.g 2 (by have := HL.out; omega) H.out.room).mono ?_
      rintro e w4 ⟨rfl, hc, hw⟩
      replace HM := Lib.hid (hc.keep HM.out item_ne HMP.out)
      have HL' : Hid (((l ++ itsL (li.take j)) ++ txtL q.n 2 ++ numL' q.g 2).length ≤ 4101000008) := by have := ln_num ((l ++ itsL (li.take j)) ++ txtL q.n 2) q.g 2; have := HL.out; show _ ≤ _; omega
      clear HL
      have HL := HL'
      clear HL'
      have HC' := Lib.hid (HC.out.trans hc)
      have H' := Lib.hid hw
      clear hc hw H HC
      have H := H'
      have HC := HC'
      clear H' HC'
      obtain ⟨m0, m1, m2, m3, m4, m5⟩ := bx6 HM.out
      go_wp2_with fail
      clear m0 m1 m3 m4 m5
      have x_m2 : ∀ y : Ext w4, y.to.cell? ⟨M, 2, none⟩ = some (.int .i64 q.i) := fun y => ext_cell y m2
      have hsome := extSome w4
      clear m2
      refine ext_tail 5 (by kernel_rfl) (by kernel_rfl) ?_
      simp only [List.take_succ_cons, List.take_zero, List.drop_succ_cons, List.drop_zero]
      repeat (go_big_quiet_step (fail))
      refine wpQuiet_nil ?_
      rintro _ ⟨y, hy⟩
      subst hy
      clear hsome x_m2
      have HY := Lib.hid y.below
      obtain ⟨w5, hwk⟩ : ∃ z, z = y.to := ⟨_, rfl⟩
      rw [← hwk] at HY ⊢
      clear hwk
      clear y
      have H' := Lib.hid (H.out.below HY.out)
      have HC' := Lib.hid (HC.out.below HY.out)
      clear H HC
      have H := H'
      have HC := HC'
      clear H' HC'
      replace HM := Lib.hid ((HY.out.block _ (heap_lt HM.out)).trans HM.out)
      clear HY
      go_wp2_with fail
      refine (wnumber_any H.out nW_ne q.i 2 (by have := HL.out; omega) H.out.room).mono ?_
      rintro e w6 ⟨rfl, hc, hw⟩
      replace HM := Lib.hid (hc.keep HM.out item_ne HMP.out)
      have HL' : Hid (((l ++ itsL (li.take j)) ++ txtL q.n 2 ++ numL' q.g 2 ++ numL' q.i 2).length ≤ 4101000012) := by have := ln_num ((l ++ itsL (li.take j)) ++ txtL q.n 2 ++ numL' q.g 2) q.i 2; have := HL.out; show _ ≤ _; omega
      clear HL
      have HL := HL'
      clear HL'
      have HC' := Lib.hid (HC.out.trans hc)
      have H' := Lib.hid hw
      clear hc hw H HC
      have H := H'
      have HC := HC'
      clear H' HC'
      obtain ⟨m0, m1, m2, m3, m4, m5⟩ := bx6 HM.out
      go_wp2_with fail
      clear m0 m1 m2 m4 m5
      have x_m3 : ∀ y : Ext w6, y.to.cell? ⟨M, 3, none⟩ = some (.int .i64 q.t) := fun y => ext_cell y m3
      have hsome := extSome w6
      clear m3
      refine ext_tail 5 (by kernel_rfl) (by kernel_rfl) ?_
      simp only [List.take_succ_cons, List.take_zero, List.drop_succ_cons, List.drop_zero]
      repeat (go_big_quiet_step (fail))
      refine wpQuiet_nil ?_
      rintro _ ⟨y, hy⟩
      subst hy
      clear hsome x_m3
      have HY := Lib.hid y.below
      obtain ⟨w7, hwk⟩ : ∃ z, z = y.to := ⟨_, rfl⟩
      rw [← hwk] at HY ⊢
      clear hwk
      clear y
      have H' := Lib.hid (H.out.below HY.out)
      have HC' := Lib.hid (HC.out.below HY.out)
      clear H HC
      have H := H'
      have HC := HC'
      clear H' HC'
      replace HM := Lib.hid ((HY.out.block _ (heap_lt HM.out)).trans HM.out)
      clear HY
      go_wp2_with fail
      refine (wnumber_any H.out nW_ne q.t 2 (by have := HL.out; omega) H.out.room).mono ?_
      rintro e w8 ⟨rfl, hc, hw⟩
      replace HM := Lib.hid (hc.keep HM.out item_ne HMP.out)
      have HL' : Hid (((l ++ itsL (li.take j)) ++ txtL q.n 2 ++ numL' q.g 2 ++ numL' q.i 2 ++ numL' q.t 2).length ≤ 4101000016) := by have := ln_num ((l ++ itsL (li.take j)) ++ txtL q.n 2 ++ numL' q.g 2 ++ numL' q.i 2) q.t 2; have := HL.out; show _ ≤ _; omega
      clear HL
      have HL := HL'
      clear HL'
      have HC' := Lib.hid (HC.out.trans hc)
      have H' := Lib.hid hw
      clear hc hw H HC
      have H := H'
      have HC := HC'
      clear H' HC'
      obtain ⟨m0, m1, m2, m3, m4, m5⟩ := bx6 HM.out
      go_wp2_with fail
      have XM : Hid (∀ y : Ext w8, Calls Tryz.prog 106 #[.agg #[.string q.n, .int .i64 q.g, .int .i64 q.i, .int .i64 q.t, .string q.a, .bool q.w]] y.to fun e w' => e = .returned (.string (mk (mrkL q))) ∧ Below y.to.heap.size y.to w') := fun y => CM.out y.to
      have x_m0 : ∀ y : Ext w8, y.to.cell? ⟨M, 0, none⟩ = some (.string q.n) := fun y => ext_cell y m0
      have x_m1 : ∀ y : Ext w8, y.to.cell? ⟨M, 1, none⟩ = some (.int .i64 q.g) := fun y => ext_cell y m1
      have x_m2 : ∀ y : Ext w8, y.to.cell? ⟨M, 2, none⟩ = some (.int .i64 q.i) := fun y => ext_cell y m2
      have x_m3 : ∀ y : Ext w8, y.to.cell? ⟨M, 3, none⟩ = some (.int .i64 q.t) := fun y => ext_cell y m3
      have x_m4 : ∀ y : Ext w8, y.to.cell? ⟨M, 4, none⟩ = some (.string q.a) := fun y => ext_cell y m4
      have x_m5 : ∀ y : Ext w8, y.to.cell? ⟨M, 5, none⟩ = some (.bool q.w) := fun y => ext_cell y m5
      have hsome := extSome w8
      clear m0 m1 m2 m3 m4 m5
      refine ext_tail 5 (by kernel_rfl) (by kernel_rfl) ?_
      simp only [List.take_succ_cons, List.take_zero, List.drop_succ_cons, List.drop_zero]
      repeat (go_big_quiet_step ((first | (go_at_call 106; with_reducible exact ext_call _ (XM.out _)))))
      refine wpQuiet_nil ?_
      rintro _ ⟨y, hy⟩
      subst hy
      clear hsome x_m0 x_m1 x_m2 x_m3 x_m4 x_m5
      have HY := Lib.hid y.below
      obtain ⟨w9, hwk⟩ : ∃ z, z = y.to := ⟨_, rfl⟩
      rw [← hwk] at HY ⊢
      clear hwk
      clear y
      have H' := Lib.hid (H.out.below HY.out)
      have HC' := Lib.hid (HC.out.below HY.out)
      clear H HC
      have H := H'
      have HC := HC'
      clear H' HC'
      replace HM := Lib.hid ((HY.out.block _ (heap_lt HM.out)).trans HM.out)
      clear HY
      go_wp2_with fail
      refine (wtext_any H.out nW_ne (mk (mrkL q)) 2 (by have := HL.out; have := HMZ.out; omega) H.out.room).mono ?_
      rintro e w10 ⟨rfl, hc, hw⟩
      replace HM := Lib.hid (hc.keep HM.out item_ne HMP.out)
      have HL' : Hid (((l ++ itsL (li.take j)) ++ txtL q.n 2 ++ numL' q.g 2 ++ numL' q.i 2 ++ numL' q.t 2 ++ txtL (mk (mrkL q)) 2).length ≤ 4102000028) := by have := ln_txt ((l ++ itsL (li.take j)) ++ txtL q.n 2 ++ numL' q.g 2 ++ numL' q.i 2 ++ numL' q.t 2) (mk (mrkL q)) 2; have := HL.out; have := HMZ.out; show _ ≤ _; omega
      clear HL
      have HL := HL'
      clear HL'
      have HC' := Lib.hid (HC.out.trans hc)
      have H' := Lib.hid hw
      clear hc hw H HC
      have H := H'
      have HC := HC'
      clear H' HC'
      have HF : Hid (Wr N P 81 (nR k a x d c s e t o (.slice (some ⟨b, p, none⟩) li.length ci) vz) w10 (l ++ itsL (li.take (j + 1)))) := by show Wr _ _ _ _ _ _; rw [HN.out]; have := H.out; simpa [itL, List.append_assoc] using this
      have HLF : Hid ((l ++ itsL (li.take (j + 1))).length ≤ 1000000000 + 3000100 * (j + 1)) := by show _ ≤ _; rw [HN.out, ← List.append_assoc, List.length_append]; have := it_len q; have := HQ.out.1; have := HQ.out.2; have := HLJ.out; omega
      clear H HL HLJ HN HM
      go_wp2_with fail
      exact ⟨⟨j + 1, by go_num, by omega, HF.out, HC.out, HLF.out⟩, by simp [RowKit.intOf]; omega⟩
    · obtain rfl : j = li.length := by omega
      have HF : Hid (Wr N P 81 (nR k a x d c s e t o (.slice ai li.length ci) vz) wr (l ++ itsL li)) := by have := H.out; rw [List.take_of_length_le (Nat.le_refl _)] at this; exact this
      clear H
      go_wp2_with fail
      exact bodyPost_end (results_none rfl _ _ _) rfl ⟨rfl, HC.out, HF.out⟩
end
end Go.Proofs.YtiodjaeonoheiaaGreatDoor.T
