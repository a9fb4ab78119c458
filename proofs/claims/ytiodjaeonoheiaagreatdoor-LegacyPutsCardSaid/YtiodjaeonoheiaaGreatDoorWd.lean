/- Contracts: fields and write of package legacy's note writer, whatever the note. Conditions: those of each theorem's head. -/
import Derived.Test.YtiodjaeonoheiaaGreatDoorWc
set_option maxRecDepth 100000
set_option maxHeartbeats 4000000
namespace Go.Proofs.YtiodjaeonoheiaaGreatDoor.T
open Go.RowKit Go.Lib
section
variable {N P : Nat} {w w' : World} {l : List UInt8} {k c s e t : Int} {a x d : ByteArray} {o : Bool} {ai az : Option Addr} {ci cz : Nat} {li : List It} {lz : List Int}
structure FdH (N P : Nat) (w : World) (ai az : Option Addr) (li : List It) (lz : List Int) (a x d : ByteArray) : Prop where
  ha : a.size ≤ 1000000
  hx : x.size ≤ 1000000
  hd : d.size ≤ 1000000
  hI : ∀ W, Ch N P w W → ItS W ai li
  hin : li.length ≤ 1000
  hiz : ∀ y ∈ li, y.n.size ≤ 1000000 ∧ y.a.size ≤ 1000000
  hZ : ∀ W, Ch N P w W → CdS W az lz
  hzn : lz.length ≤ 1000
theorem its_len : ∀ {l : List It}, (∀ y ∈ l, y.n.size ≤ 1000000 ∧ y.a.size ≤ 1000000) → (itsL l).length ≤ l.length * 2000040
  | [], _ => Nat.zero_le _
  | y :: l, h => by
    have h1 := it_len y
    have h2 := h y List.mem_cons_self
    have h3 := its_len (l := l) fun z hz => h z (List.mem_cons_of_mem _ hz)
    have e : itsL (y :: l) = itL y ++ itsL l := rfl
    rw [e, List.length_append, List.length_cons]
    omega
theorem fld_1 (h : Wr N P 81 (nR 1 a x d c s e t o (.slice ai li.length ci) (.slice az lz.length cz)) w l) (hl : l.length ≤ 1000) (f : FdH N P w ai az li lz a x d) :
    Calls Tryz.prog 42 #[.pointer (some ⟨P, 0, none⟩)] w (WrP N P 81 (nR 1 a x d c s e t o (.slice ai li.length ci) (.slice az lz.length cz)) w (l ++ hlo)) := by
  have H := Lib.hid h
  have F := Lib.hid f
  have HL := Lib.hid hl
  have HC := Lib.hid (Ch.refl N P w)
  clear h f hl
  have HM := Lib.hid (box_new w #[.int .i64 1, .string a, .string x, .string d, .int .i64 c, .int .i64 s, .int .i64 e, .int .i64 t, .bool o, .slice ai li.length ci, .slice az lz.length cz] 25)
  have HMP : Hid (w.heap.size ≠ P) := Nat.ne_of_gt H.out.lt
  have HBW : Hid (Below w.heap.size w (w.alloc (.cells #[.int .i64 1, .string a, .string x, .string d, .int .i64 c, .int .i64 s, .int .i64 e, .int .i64 t, .bool o, .slice ai li.length ci, .slice az lz.length cz] 25))) := (Below.refl _ w).alloc (Nat.le_refl _) _
  obtain ⟨c1, c2, c3, c4, c5, c6, c7, c8, c9, c10, c11⟩ := H.out.cells
  have mX := bx11 HM.out
  go_enter Tryz.func42, Tryz.ntmps42
  go_wp2_with fail
  obtain ⟨wa, hwa⟩ : ∃ z, z = (w.alloc (.cells #[.int .i64 1, .string a, .string x, .string d, .int .i64 c, .int .i64 s, .int .i64 e, .int .i64 t, .bool o, .slice ai li.length ci, .slice az lz.length cz] 25)) := ⟨_, rfl⟩
  rw [← hwa] at HM HBW mX ⊢
  clear hwa c1 c2 c3 c4 c5 c6 c7 c8 c9 c10 c11
  have H' := Lib.hid (H.out.below HBW.out)
  have HC' := Lib.hid (HC.out.below HBW.out)
  clear H HC HBW
  have H := H'
  have HC := HC'
  clear H' HC'
  generalize w.heap.size = M at HM HMP mX ⊢
  clear mX
  refine (whello_any H.out nW_ne  (by have := HL.out; omega) H.out.room).mono ?_
  rintro e w1 ⟨rfl, hc, hw⟩
  replace HM := Lib.hid (hc.keep HM.out note_ne HMP.out)
  have HL' : Hid ((l ++ hlo).length ≤ 1004) := by have := ln_hlo (l); have := HL.out; show _ ≤ _; omega
  clear HL
  have HL := HL'
  clear HL'
  have HC' := Lib.hid (HC.out.trans hc)
  have H' := Lib.hid hw
  clear hc hw H HC
  have H := H'
  have HC := HC'
  clear H' HC'
  go_wp2_with fail
  exact bodyPost_end (results_none rfl _ _ _) rfl ⟨rfl, HC.out, H.out⟩
theorem fld_2 (h : Wr N P 81 (nR 2 a x d c s e t o (.slice ai li.length ci) (.slice az lz.length cz)) w l) (hl : l.length ≤ 1000) (f : FdH N P w ai az li lz a x d) :
    Calls Tryz.prog 42 #[.pointer (some ⟨P, 0, none⟩)] w (WrP N P 81 (nR 2 a x d c s e t o (.slice ai li.length ci) (.slice az lz.length cz)) w (l ++ hlo ++ valL 6 d)) := by
  have H := Lib.hid h
  have F := Lib.hid f
  have HL := Lib.hid hl
  have HC := Lib.hid (Ch.refl N P w)
  clear h f hl
  have HM := Lib.hid (box_new w #[.int .i64 2, .string a, .string x, .string d, .int .i64 c, .int .i64 s, .int .i64 e, .int .i64 t, .bool o, .slice ai li.length ci, .slice az lz.length cz] 25)
  have HMP : Hid (w.heap.size ≠ P) := Nat.ne_of_gt H.out.lt
  have HBW : Hid (Below w.heap.size w (w.alloc (.cells #[.int .i64 2, .string a, .string x, .string d, .int .i64 c, .int .i64 s, .int .i64 e, .int .i64 t, .bool o, .slice ai li.length ci, .slice az lz.length cz] 25))) := (Below.refl _ w).alloc (Nat.le_refl _) _
  obtain ⟨c1, c2, c3, c4, c5, c6, c7, c8, c9, c10, c11⟩ := H.out.cells
  obtain ⟨m0, m1, m2, m3, m4, m5, m6, m7, m8, m9, m10⟩ := bx11 HM.out
  go_enter Tryz.func42, Tryz.ntmps42
  go_wp2_with fail
  obtain ⟨wa, hwa⟩ : ∃ z, z = (w.alloc (.cells #[.int .i64 2, .string a, .string x, .string d, .int .i64 c, .int .i64 s, .int .i64 e, .int .i64 t, .bool o, .slice ai li.length ci, .slice az lz.length cz] 25)) := ⟨_, rfl⟩
  rw [← hwa] at HM HBW m0 m1 m2 m3 m4 m5 m6 m7 m8 m9 m10 ⊢
  clear hwa c1 c2 c3 c4 c5 c6 c7 c8 c9 c10 c11
  have H' := Lib.hid (H.out.below HBW.out)
  have HC' := Lib.hid (HC.out.below HBW.out)
  clear H HC HBW
  have H := H'
  have HC := HC'
  clear H' HC'
  generalize w.heap.size = M at HM HMP m0 m1 m2 m3 m4 m5 m6 m7 m8 m9 m10 ⊢
  clear m0 m1 m2 m3 m4 m5 m6 m7 m8 m9 m10
  refine (whello_any H.out nW_ne  (by have := HL.out; omega) H.out.room).mono ?_
  rintro e w1 ⟨rfl, hc, hw⟩
  replace HM := Lib.hid (hc.keep HM.out note_ne HMP.out)
  have HL' : Hid ((l ++ hlo).length ≤ 1004) := by have := ln_hlo (l); have := HL.out; show _ ≤ _; omega
  clear HL
  have HL := HL'
  clear HL'
  have HC' := Lib.hid (HC.out.trans hc)
  have H' := Lib.hid hw
  clear hc hw H HC
  have H := H'
  have HC := HC'
  clear H' HC'
  obtain ⟨m0, m1, m2, m3, m4, m5, m6, m7, m8, m9, m10⟩ := bx11 HM.out
  go_wp2_with fail
  clear m0 m1 m2 m4 m5 m6 m7 m8 m9 m10
  have x_m3 : ∀ y : Ext w1, y.to.cell? ⟨M, 3, none⟩ = some (.string d) := fun y => ext_cell y m3
  have hsome := extSome w1
  clear m3
  refine ext_tail 5 (by kernel_rfl) (by kernel_rfl) ?_
  simp only [List.take_succ_cons, List.take_zero, List.drop_succ_cons, List.drop_zero]
  repeat (go_big_quiet_step (fail))
  refine wpQuiet_nil ?_
  rintro _ ⟨y, hy⟩
  subst hy
  clear hsome x_m3
  have HY := Lib.hid y.below
  obtain ⟨w2, hwk⟩ : ∃ z, z = y.to := ⟨_, rfl⟩
  rw [← hwk] at HY ⊢
  clear hwk
  clear y
  have H' := Lib.hid (H.out.below HY.out)
  have HC' := Lib.hid (HC.out.below HY.out)
  clear H HC
  have H := H'
  have HC := HC'
  clear H' HC'
  replace HM := Lib.hid ((HY.out.block _ (heap_lt HM.out)).trans HM.out)
  clear HY
  go_wp2_with fail
  refine (wvalue_any H.out nW_ne 6 d (by have := HL.out; have := F.out.hd; omega) H.out.room).mono ?_
  rintro e w3 ⟨rfl, hc, hw⟩
  replace HM := Lib.hid (hc.keep HM.out note_ne HMP.out)
  have HL' : Hid ((l ++ hlo ++ valL 6 d).length ≤ 1001008) := by have := ln_val (l ++ hlo) 6 d; have := HL.out; have := F.out.hd; show _ ≤ _; omega
  clear HL
  have HL := HL'
  clear HL'
  have HC' := Lib.hid (HC.out.trans hc)
  have H' := Lib.hid hw
  clear hc hw H HC
  have H := H'
  have HC := HC'
  clear H' HC'
  go_wp2_with fail
  exact bodyPost_end (results_none rfl _ _ _) rfl ⟨rfl, HC.out, H.out⟩
theorem fld_3 (h : Wr N P 81 (nR 3 a x d c s e t o (.slice ai li.length ci) (.slice az lz.length cz)) w l) (hl : l.length ≤ 1000) (f : FdH N P w ai az li lz a x d) :
    Calls Tryz.prog 42 #[.pointer (some ⟨P, 0, none⟩)] w (WrP N P 81 (nR 3 a x d c s e t o (.slice ai li.length ci) (.slice az lz.length cz)) w (l ++ byeB c)) := by
  have H := Lib.hid h
  have F := Lib.hid f
  have HL := Lib.hid hl
  have HC := Lib.hid (Ch.refl N P w)
  clear h f hl
  have HM := Lib.hid (box_new w #[.int .i64 3, .string a, .string x, .string d, .int .i64 c, .int .i64 s, .int .i64 e, .int .i64 t, .bool o, .slice ai li.length ci, .slice az lz.length cz] 25)
  have HMP : Hid (w.heap.size ≠ P) := Nat.ne_of_gt H.out.lt
  have HBW : Hid (Below w.heap.size w (w.alloc (.cells #[.int .i64 3, .string a, .string x, .string d, .int .i64 c, .int .i64 s, .int .i64 e, .int .i64 t, .bool o, .slice ai li.length ci, .slice az lz.length cz] 25))) := (Below.refl _ w).alloc (Nat.le_refl _) _
  obtain ⟨c1, c2, c3, c4, c5, c6, c7, c8, c9, c10, c11⟩ := H.out.cells
  have mX := bx11 HM.out
  go_enter Tryz.func42, Tryz.ntmps42
  go_wp2_with fail
  obtain ⟨wa, hwa⟩ : ∃ z, z = (w.alloc (.cells #[.int .i64 3, .string a, .string x, .string d, .int .i64 c, .int .i64 s, .int .i64 e, .int .i64 t, .bool o, .slice ai li.length ci, .slice az lz.length cz] 25)) := ⟨_, rfl⟩
  rw [← hwa] at HM HBW mX ⊢
  clear hwa c1 c2 c3 c4 c5 c6 c7 c8 c9 c10 c11
  have H' := Lib.hid (H.out.below HBW.out)
  have HC' := Lib.hid (HC.out.below HBW.out)
  clear H HC HBW
  have H := H'
  have HC := HC'
  clear H' HC'
  generalize w.heap.size = M at HM HMP mX ⊢
  clear mX
  refine (bye_any H.out (by have := HL.out; omega)).mono ?_
  rintro e w1 ⟨rfl, hc, hw⟩
  replace HM := Lib.hid (hc.keep HM.out note_ne HMP.out)
  clear HL
  have HC' := Lib.hid (HC.out.trans hc)
  have H' := Lib.hid hw
  clear hc hw H HC
  have H := H'
  have HC := HC'
  clear H' HC'
  go_wp2_with fail
  exact bodyPost_end (results_none rfl _ _ _) rfl ⟨rfl, HC.out, H.out⟩
theorem fld_5 (h : Wr N P 81 (nR 5 a x d c s e t o (.slice ai li.length ci) (.slice az lz.length cz)) w l) (hl : l.length ≤ 1000) (f : FdH N P w ai az li lz a x d) :
    Calls Tryz.prog 42 #[.pointer (some ⟨P, 0, none⟩)] w (WrP N P 81 (nR 5 a x d c s e t o (.slice ai li.length ci) (.slice az lz.length cz)) w (l ++ valL 1 a)) := by
  have H := Lib.hid h
  have F := Lib.hid f
  have HL := Lib.hid hl
  have HC := Lib.hid (Ch.refl N P w)
  clear h f hl
  have HM := Lib.hid (box_new w #[.int .i64 5, .string a, .string x, .string d, .int .i64 c, .int .i64 s, .int .i64 e, .int .i64 t, .bool o, .slice ai li.length ci, .slice az lz.length cz] 25)
  have HMP : Hid (w.heap.size ≠ P) := Nat.ne_of_gt H.out.lt
  have HBW : Hid (Below w.heap.size w (w.alloc (.cells #[.int .i64 5, .string a, .string x, .string d, .int .i64 c, .int .i64 s, .int .i64 e, .int .i64 t, .bool o, .slice ai li.length ci, .slice az lz.length cz] 25))) := (Below.refl _ w).alloc (Nat.le_refl _) _
  obtain ⟨c1, c2, c3, c4, c5, c6, c7, c8, c9, c10, c11⟩ := H.out.cells
  obtain ⟨m0, m1, m2, m3, m4, m5, m6, m7, m8, m9, m10⟩ := bx11 HM.out
  go_enter Tryz.func42, Tryz.ntmps42
  go_wp2_with fail
  obtain ⟨wa, hwa⟩ : ∃ z, z = (w.alloc (.cells #[.int .i64 5, .string a, .string x, .string d, .int .i64 c, .int .i64 s, .int .i64 e, .int .i64 t, .bool o, .slice ai li.length ci, .slice az lz.length cz] 25)) := ⟨_, rfl⟩
  rw [← hwa] at HM HBW m0 m1 m2 m3 m4 m5 m6 m7 m8 m9 m10 ⊢
  clear hwa c1 c2 c3 c4 c5 c6 c7 c8 c9 c10 c11
  have H' := Lib.hid (H.out.below HBW.out)
  have HC' := Lib.hid (HC.out.below HBW.out)
  clear H HC HBW
  have H := H'
  have HC := HC'
  clear H' HC'
  generalize w.heap.size = M at HM HMP m0 m1 m2 m3 m4 m5 m6 m7 m8 m9 m10 ⊢
  clear m0 m2 m3 m4 m5 m6 m7 m8 m9 m10
  have x_m1 : ∀ y : Ext wa, y.to.cell? ⟨M, 1, none⟩ = some (.string a) := fun y => ext_cell y m1
  have hsome := extSome wa
  clear m1
  refine ext_tail 5 (by kernel_rfl) (by kernel_rfl) ?_
  simp only [List.take_succ_cons, List.take_zero, List.drop_succ_cons, List.drop_zero]
  repeat (go_big_quiet_step (fail))
  refine wpQuiet_nil ?_
  rintro _ ⟨y, hy⟩
  subst hy
  clear hsome x_m1
  have HY := Lib.hid y.below
  obtain ⟨w1, hwk⟩ : ∃ z, z = y.to := ⟨_, rfl⟩
  rw [← hwk] at HY ⊢
  clear hwk
  clear y
  have H' := Lib.hid (H.out.below HY.out)
  have HC' := Lib.hid (HC.out.below HY.out)
  clear H HC
  have H := H'
  have HC := HC'
  clear H' HC'
  replace HM := Lib.hid ((HY.out.block _ (heap_lt HM.out)).trans HM.out)
  clear HY
  go_wp2_with fail
  refine (wvalue_any H.out nW_ne 1 a (by have := HL.out; have := F.out.ha; omega) H.out.room).mono ?_
  rintro e w2 ⟨rfl, hc, hw⟩
  replace HM := Lib.hid (hc.keep HM.out note_ne HMP.out)
  have HL' : Hid ((l ++ valL 1 a).length ≤ 1001004) := by have := ln_val (l) 1 a; have := HL.out; have := F.out.ha; show _ ≤ _; omega
  clear HL
  have HL := HL'
  clear HL'
  have HC' := Lib.hid (HC.out.trans hc)
  have H' := Lib.hid hw
  clear hc hw H HC
  have H := H'
  have HC := HC'
  clear H' HC'
  go_wp2_with fail
  exact bodyPost_end (results_none rfl _ _ _) rfl ⟨rfl, HC.out, H.out⟩
theorem fld_6 (h : Wr N P 81 (nR 6 a x d c s e t o (.slice ai li.length ci) (.slice az lz.length cz)) w l) (hl : l.length ≤ 1000) (f : FdH N P w ai az li lz a x d) :
    Calls Tryz.prog 42 #[.pointer (some ⟨P, 0, none⟩)] w (WrP N P 81 (nR 6 a x d c s e t o (.slice ai li.length ci) (.slice az lz.length cz)) w (l ++ txtL d 2)) := by
  have H := Lib.hid h
  have F := Lib.hid f
  have HL := Lib.hid hl
  have HC := Lib.hid (Ch.refl N P w)
  clear h f hl
  have HM := Lib.hid (box_new w #[.int .i64 6, .string a, .string x, .string d, .int .i64 c, .int .i64 s, .int .i64 e, .int .i64 t, .bool o, .slice ai li.length ci, .slice az lz.length cz] 25)
  have HMP : Hid (w.heap.size ≠ P) := Nat.ne_of_gt H.out.lt
  have HBW : Hid (Below w.heap.size w (w.alloc (.cells #[.int .i64 6, .string a, .string x, .string d, .int .i64 c, .int .i64 s, .int .i64 e, .int .i64 t, .bool o, .slice ai li.length ci, .slice az lz.length cz] 25))) := (Below.refl _ w).alloc (Nat.le_refl _) _
  obtain ⟨c1, c2, c3, c4, c5, c6, c7, c8, c9, c10, c11⟩ := H.out.cells
  obtain ⟨m0, m1, m2, m3, m4, m5, m6, m7, m8, m9, m10⟩ := bx11 HM.out
  go_enter Tryz.func42, Tryz.ntmps42
  go_wp2_with fail
  obtain ⟨wa, hwa⟩ : ∃ z, z = (w.alloc (.cells #[.int .i64 6, .string a, .string x, .string d, .int .i64 c, .int .i64 s, .int .i64 e, .int .i64 t, .bool o, .slice ai li.length ci, .slice az lz.length cz] 25)) := ⟨_, rfl⟩
  rw [← hwa] at HM HBW m0 m1 m2 m3 m4 m5 m6 m7 m8 m9 m10 ⊢
  clear hwa c1 c2 c3 c4 c5 c6 c7 c8 c9 c10 c11
  have H' := Lib.hid (H.out.below HBW.out)
  have HC' := Lib.hid (HC.out.below HBW.out)
  clear H HC HBW
  have H := H'
  have HC := HC'
  clear H' HC'
  generalize w.heap.size = M at HM HMP m0 m1 m2 m3 m4 m5 m6 m7 m8 m9 m10 ⊢
  clear m0 m1 m2 m4 m5 m6 m7 m8 m9 m10
  have x_m3 : ∀ y : Ext wa, y.to.cell? ⟨M, 3, none⟩ = some (.string d) := fun y => ext_cell y m3
  have hsome := extSome wa
  clear m3
  refine ext_tail 5 (by kernel_rfl) (by kernel_rfl) ?_
  simp only [List.take_succ_cons, List.take_zero, List.drop_succ_cons, List.drop_zero]
  repeat (go_big_quiet_step (fail))
  refine wpQuiet_nil ?_
  rintro _ ⟨y, hy⟩
  subst hy
  clear hsome x_m3
  have HY := Lib.hid y.below
  obtain ⟨w1, hwk⟩ : ∃ z, z = y.to := ⟨_, rfl⟩
  rw [← hwk] at HY ⊢
  clear hwk
  clear y
  have H' := Lib.hid (H.out.below HY.out)
  have HC' := Lib.hid (HC.out.below HY.out)
  clear H HC
  have H := H'
  have HC := HC'
  clear H' HC'
  replace HM := Lib.hid ((HY.out.block _ (heap_lt HM.out)).trans HM.out)
  clear HY
  go_wp2_with fail
  refine (wtext_any H.out nW_ne d 2 (by have := HL.out; have := F.out.hd; omega) H.out.room).mono ?_
  rintro e w2 ⟨rfl, hc, hw⟩
  replace HM := Lib.hid (hc.keep HM.out note_ne HMP.out)
  have HL' : Hid ((l ++ txtL d 2).length ≤ 1001004) := by have := ln_txt (l) d 2; have := HL.out; have := F.out.hd; show _ ≤ _; omega
  clear HL
  have HL := HL'
  clear HL'
  have HC' := Lib.hid (HC.out.trans hc)
  have H' := Lib.hid hw
  clear hc hw H HC
  have H := H'
  have HC := HC'
  clear H' HC'
  go_wp2_with fail
  exact bodyPost_end (results_none rfl _ _ _) rfl ⟨rfl, HC.out, H.out⟩
theorem fld_7 (h : Wr N P 81 (nR 7 a x d c s e t o (.slice ai li.length ci) (.slice az lz.length cz)) w l) (hl : l.length ≤ 1000) (f : FdH N P w ai az li lz a x d) :
    Calls Tryz.prog 42 #[.pointer (some ⟨P, 0, none⟩)] w (WrP N P 81 (nR 7 a x d c s e t o (.slice ai li.length ci) (.slice az lz.length cz)) w (l ++ valL 1 a ++ valL 37 d)) := by
  have H := Lib.hid h
  have F := Lib.hid f
  have HL := Lib.hid hl
  have HC := Lib.hid (Ch.refl N P w)
  clear h f hl
  have HM := Lib.hid (box_new w #[.int .i64 7, .string a, .string x, .string d, .int .i64 c, .int .i64 s, .int .i64 e, .int .i64 t, .bool o, .slice ai li.length ci, .slice az lz.length cz] 25)
  have HMP : Hid (w.heap.size ≠ P) := Nat.ne_of_gt H.out.lt
  have HBW : Hid (Below w.heap.size w (w.alloc (.cells #[.int .i64 7, .string a, .string x, .string d, .int .i64 c, .int .i64 s, .int .i64 e, .int .i64 t, .bool o, .slice ai li.length ci, .slice az lz.length cz] 25))) := (Below.refl _ w).alloc (Nat.le_refl _) _
  obtain ⟨c1, c2, c3, c4, c5, c6, c7, c8, c9, c10, c11⟩ := H.out.cells
  obtain ⟨m0, m1, m2, m3, m4, m5, m6, m7, m8, m9, m10⟩ := bx11 HM.out
  go_enter Tryz.func42, Tryz.ntmps42
  go_wp2_with fail
  obtain ⟨wa, hwa⟩ : ∃ z, z = (w.alloc (.cells #[.int .i64 7, .string a, .string x, .string d, .int .i64 c, .int .i64 s, .int .i64 e, .int .i64 t, .bool o, .slice ai li.length ci, .slice az lz.length cz] 25)) := ⟨_, rfl⟩
  rw [← hwa] at HM HBW m0 m1 m2 m3 m4 m5 m6 m7 m8 m9 m10 ⊢
  clear hwa c1 c2 c3 c4 c5 c6 c7 c8 c9 c10 c11
  have H' := Lib.hid (H.out.below HBW.out)
  have HC' := Lib.hid (HC.out.below HBW.out)
  clear H HC HBW
  have H := H'
  have HC := HC'
  clear H' HC'
  generalize w.heap.size = M at HM HMP m0 m1 m2 m3 m4 m5 m6 m7 m8 m9 m10 ⊢
  clear m0 m2 m3 m4 m5 m6 m7 m8 m9 m10
  have x_m1 : ∀ y : Ext wa, y.to.cell? ⟨M, 1, none⟩ = some (.string a) := fun y => ext_cell y m1
  have hsome := extSome wa
  clear m1
  refine ext_tail 5 (by kernel_rfl) (by kernel_rfl) ?_
  simp only [List.take_succ_cons, List.take_zero, List.drop_succ_cons, List.drop_zero]
  repeat (go_big_quiet_step (fail))
  refine wpQuiet_nil ?_
  rintro _ ⟨y, hy⟩
  subst hy
  clear hsome x_m1
  have HY := Lib.hid y.below
  obtain ⟨w1, hwk⟩ : ∃ z, z = y.to := ⟨_, rfl⟩
  rw [← hwk] at HY ⊢
  clear hwk
  clear y
  have H' := Lib.hid (H.out.below HY.out)
  have HC' := Lib.hid (HC.out.below HY.out)
  clear H HC
  have H := H'
  have HC := HC'
  clear H' HC'
  replace HM := Lib.hid ((HY.out.block _ (heap_lt HM.out)).trans HM.out)
  clear HY
  go_wp2_with fail
  refine (wvalue_any H.out nW_ne 1 a (by have := HL.out; have := F.out.ha; omega) H.out.room).mono ?_
  rintro e w2 ⟨rfl, hc, hw⟩
  replace HM := Lib.hid (hc.keep HM.out note_ne HMP.out)
  have HL' : Hid ((l ++ valL 1 a).length ≤ 1001004) := by have := ln_val (l) 1 a; have := HL.out; have := F.out.ha; show _ ≤ _; omega
  clear HL
  have HL := HL'
  clear HL'
  have HC' := Lib.hid (HC.out.trans hc)
  have H' := Lib.hid hw
  clear hc hw H HC
  have H := H'
  have HC := HC'
  clear H' HC'
  obtain ⟨m0, m1, m2, m3, m4, m5, m6, m7, m8, m9, m10⟩ := bx11 HM.out
  go_wp2_with fail
  clear m0 m1 m2 m4 m5 m6 m7 m8 m9 m10
  have x_m3 : ∀ y : Ext w2, y.to.cell? ⟨M, 3, none⟩ = some (.string d) := fun y => ext_cell y m3
  have hsome := extSome w2
  clear m3
  refine ext_tail 5 (by kernel_rfl) (by kernel_rfl) ?_
  simp only [List.take_succ_cons, List.take_zero, List.drop_succ_cons, List.drop_zero]
  repeat (go_big_quiet_step (fail))
  refine wpQuiet_nil ?_
  rintro _ ⟨y, hy⟩
  subst hy
  clear hsome x_m3
  have HY := Lib.hid y.below
  obtain ⟨w3, hwk⟩ : ∃ z, z = y.to := ⟨_, rfl⟩
  rw [← hwk] at HY ⊢
  clear hwk
  clear y
  have H' := Lib.hid (H.out.below HY.out)
  have HC' := Lib.hid (HC.out.below HY.out)
  clear H HC
  have H := H'
  have HC := HC'
  clear H' HC'
  replace HM := Lib.hid ((HY.out.block _ (heap_lt HM.out)).trans HM.out)
  clear HY
  go_wp2_with fail
  refine (wvalue_any H.out nW_ne 37 d (by have := HL.out; have := F.out.hd; omega) H.out.room).mono ?_
  rintro e w4 ⟨rfl, hc, hw⟩
  replace HM := Lib.hid (hc.keep HM.out note_ne HMP.out)
  have HL' : Hid ((l ++ valL 1 a ++ valL 37 d).length ≤ 2001008) := by have := ln_val (l ++ valL 1 a) 37 d; have := HL.out; have := F.out.hd; show _ ≤ _; omega
  clear HL
  have HL := HL'
  clear HL'
  have HC' := Lib.hid (HC.out.trans hc)
  have H' := Lib.hid hw
  clear hc hw H HC
  have H := H'
  have HC := HC'
  clear H' HC'
  go_wp2_with fail
  exact bodyPost_end (results_none rfl _ _ _) rfl ⟨rfl, HC.out, H.out⟩
theorem fld_8 (h : Wr N P 81 (nR 8 a x d c s e t o (.slice ai li.length ci) (.slice az lz.length cz)) w l) (hl : l.length ≤ 1000) (f : FdH N P w ai az li lz a x d) :
    Calls Tryz.prog 42 #[.pointer (some ⟨P, 0, none⟩)] w (WrP N P 81 (nR 8 a x d c s e t o (.slice ai li.length ci) (.slice az lz.length cz)) w (l ++ letB2 a d c)) := by
  have H := Lib.hid h
  have F := Lib.hid f
  have HL := Lib.hid hl
  have HC := Lib.hid (Ch.refl N P w)
  clear h f hl
  have HM := Lib.hid (box_new w #[.int .i64 8, .string a, .string x, .string d, .int .i64 c, .int .i64 s, .int .i64 e, .int .i64 t, .bool o, .slice ai li.length ci, .slice az lz.length cz] 25)
  have HMP : Hid (w.heap.size ≠ P) := Nat.ne_of_gt H.out.lt
  have HBW : Hid (Below w.heap.size w (w.alloc (.cells #[.int .i64 8, .string a, .string x, .string d, .int .i64 c, .int .i64 s, .int .i64 e, .int .i64 t, .bool o, .slice ai li.length ci, .slice az lz.length cz] 25))) := (Below.refl _ w).alloc (Nat.le_refl _) _
  obtain ⟨c1, c2, c3, c4, c5, c6, c7, c8, c9, c10, c11⟩ := H.out.cells
  have mX := bx11 HM.out
  go_enter Tryz.func42, Tryz.ntmps42
  go_wp2_with fail
  obtain ⟨wa, hwa⟩ : ∃ z, z = (w.alloc (.cells #[.int .i64 8, .string a, .string x, .string d, .int .i64 c, .int .i64 s, .int .i64 e, .int .i64 t, .bool o, .slice ai li.length ci, .slice az lz.length cz] 25)) := ⟨_, rfl⟩
  rw [← hwa] at HM HBW mX ⊢
  clear hwa c1 c2 c3 c4 c5 c6 c7 c8 c9 c10 c11
  have H' := Lib.hid (H.out.below HBW.out)
  have HC' := Lib.hid (HC.out.below HBW.out)
  clear H HC HBW
  have H := H'
  have HC := HC'
  clear H' HC'
  generalize w.heap.size = M at HM HMP mX ⊢
  clear mX
  refine (let_any H.out (by have := HL.out; omega) F.out.ha F.out.hd).mono ?_
  rintro e w1 ⟨rfl, hc, hw⟩
  replace HM := Lib.hid (hc.keep HM.out note_ne HMP.out)
  clear HL
  have HC' := Lib.hid (HC.out.trans hc)
  have H' := Lib.hid hw
  clear hc hw H HC
  have H := H'
  have HC := HC'
  clear H' HC'
  go_wp2_with fail
  exact bodyPost_end (results_none rfl _ _ _) rfl ⟨rfl, HC.out, H.out⟩
theorem fld_11 (h : Wr N P 81 (nR 11 a x d c s e t o (.slice ai li.length ci) (.slice az lz.length cz)) w l) (hl : l.length ≤ 1000) (f : FdH N P w ai az li lz a x d) :
    Calls Tryz.prog 42 #[.pointer (some ⟨P, 0, none⟩)] w (WrP N P 81 (nR 11 a x d c s e t o (.slice ai li.length ci) (.slice az lz.length cz)) w (l ++ valL 6 (intS s 4))) := by
  have H := Lib.hid h
  have F := Lib.hid f
  have HL := Lib.hid hl
  have HC := Lib.hid (Ch.refl N P w)
  clear h f hl
  have HM := Lib.hid (box_new w #[.int .i64 11, .string a, .string x, .string d, .int .i64 c, .int .i64 s, .int .i64 e, .int .i64 t, .bool o, .slice ai li.length ci, .slice az lz.length cz] 25)
  have HMP : Hid (w.heap.size ≠ P) := Nat.ne_of_gt H.out.lt
  have HBW : Hid (Below w.heap.size w (w.alloc (.cells #[.int .i64 11, .string a, .string x, .string d, .int .i64 c, .int .i64 s, .int .i64 e, .int .i64 t, .bool o, .slice ai li.length ci, .slice az lz.length cz] 25))) := (Below.refl _ w).alloc (Nat.le_refl _) _
  obtain ⟨c1, c2, c3, c4, c5, c6, c7, c8, c9, c10, c11⟩ := H.out.cells
  obtain ⟨m0, m1, m2, m3, m4, m5, m6, m7, m8, m9, m10⟩ := bx11 HM.out
  go_enter Tryz.func42, Tryz.ntmps42
  go_wp2_with fail
  obtain ⟨wa, hwa⟩ : ∃ z, z = (w.alloc (.cells #[.int .i64 11, .string a, .string x, .string d, .int .i64 c, .int .i64 s, .int .i64 e, .int .i64 t, .bool o, .slice ai li.length ci, .slice az lz.length cz] 25)) := ⟨_, rfl⟩
  rw [← hwa] at HM HBW m0 m1 m2 m3 m4 m5 m6 m7 m8 m9 m10 ⊢
  clear hwa c1 c2 c3 c4 c5 c6 c7 c8 c9 c10 c11
  have H' := Lib.hid (H.out.below HBW.out)
  have HC' := Lib.hid (HC.out.below HBW.out)
  clear H HC HBW
  have H := H'
  have HC := HC'
  clear H' HC'
  generalize w.heap.size = M at HM HMP m0 m1 m2 m3 m4 m5 m6 m7 m8 m9 m10 ⊢
  clear m0 m1 m2 m3 m4 m6 m7 m8 m9 m10
  have x_m5 : ∀ y : Ext wa, y.to.cell? ⟨M, 5, none⟩ = some (.int .i64 s) := fun y => ext_cell y m5
  have hsome := extSome wa
  clear m5
  refine ext_tail 5 (by kernel_rfl) (by kernel_rfl) ?_
  simp only [List.take_succ_cons, List.take_zero, List.drop_succ_cons, List.drop_zero]
  repeat (go_big_quiet_step (fail))
  refine wpQuiet_nil ?_
  rintro _ ⟨y, hy⟩
  subst hy
  clear hsome x_m5
  have HY := Lib.hid y.below
  obtain ⟨w1, hwk⟩ : ∃ z, z = y.to := ⟨_, rfl⟩
  rw [← hwk] at HY ⊢
  clear hwk
  clear y
  have H' := Lib.hid (H.out.below HY.out)
  have HC' := Lib.hid (HC.out.below HY.out)
  clear H HC
  have H := H'
  have HC := HC'
  clear H' HC'
  replace HM := Lib.hid ((HY.out.block _ (heap_lt HM.out)).trans HM.out)
  clear HY
  go_wp2_with fail
  refine (wnumV_any H.out nW_ne 6 s 4 (by have := HL.out; omega) H.out.room).mono ?_
  rintro e w2 ⟨rfl, hc, hw⟩
  replace HM := Lib.hid (hc.keep HM.out note_ne HMP.out)
  have HL' : Hid ((l ++ valL 6 (intS s 4)).length ≤ 1008) := by have := ln_vnum (l) 6 s 4; have := HL.out; show _ ≤ _; omega
  clear HL
  have HL := HL'
  clear HL'
  have HC' := Lib.hid (HC.out.trans hc)
  have H' := Lib.hid hw
  clear hc hw H HC
  have H := H'
  have HC := HC'
  clear H' HC'
  go_wp2_with fail
  exact bodyPost_end (results_none rfl _ _ _) rfl ⟨rfl, HC.out, H.out⟩
theorem fld_12 (h : Wr N P 81 (nR 12 a x d c s e t o (.slice ai li.length ci) (.slice az lz.length cz)) w l) (hl : l.length ≤ 1000) (f : FdH N P w ai az li lz a x d) :
    Calls Tryz.prog 42 #[.pointer (some ⟨P, 0, none⟩)] w (WrP N P 81 (nR 12 a x d c s e t o (.slice ai li.length ci) (.slice az lz.length cz)) w (l ++ numL' e 4)) := by
  have H := Lib.hid h
  have F := Lib.hid f
  have HL := Lib.hid hl
  have HC := Lib.hid (Ch.refl N P w)
  clear h f hl
  have HM := Lib.hid (box_new w #[.int .i64 12, .string a, .string x, .string d, .int .i64 c, .int .i64 s, .int .i64 e, .int .i64 t, .bool o, .slice ai li.length ci, .slice az lz.length cz] 25)
  have HMP : Hid (w.heap.size ≠ P) := Nat.ne_of_gt H.out.lt
  have HBW : Hid (Below w.heap.size w (w.alloc (.cells #[.int .i64 12, .string a, .string x, .string d, .int .i64 c, .int .i64 s, .int .i64 e, .int .i64 t, .bool o, .slice ai li.length ci, .slice az lz.length cz] 25))) := (Below.refl _ w).alloc (Nat.le_refl _) _
  obtain ⟨c1, c2, c3, c4, c5, c6, c7, c8, c9, c10, c11⟩ := H.out.cells
  obtain ⟨m0, m1, m2, m3, m4, m5, m6, m7, m8, m9, m10⟩ := bx11 HM.out
  go_enter Tryz.func42, Tryz.ntmps42
  go_wp2_with fail
  obtain ⟨wa, hwa⟩ : ∃ z, z = (w.alloc (.cells #[.int .i64 12, .string a, .string x, .string d, .int .i64 c, .int .i64 s, .int .i64 e, .int .i64 t, .bool o, .slice ai li.length ci, .slice az lz.length cz] 25)) := ⟨_, rfl⟩
  rw [← hwa] at HM HBW m0 m1 m2 m3 m4 m5 m6 m7 m8 m9 m10 ⊢
  clear hwa c1 c2 c3 c4 c5 c6 c7 c8 c9 c10 c11
  have H' := Lib.hid (H.out.below HBW.out)
  have HC' := Lib.hid (HC.out.below HBW.out)
  clear H HC HBW
  have H := H'
  have HC := HC'
  clear H' HC'
  generalize w.heap.size = M at HM HMP m0 m1 m2 m3 m4 m5 m6 m7 m8 m9 m10 ⊢
  clear m0 m1 m2 m3 m4 m5 m7 m8 m9 m10
  have x_m6 : ∀ y : Ext wa, y.to.cell? ⟨M, 6, none⟩ = some (.int .i64 e) := fun y => ext_cell y m6
  have hsome := extSome wa
  clear m6
  refine ext_tail 5 (by kernel_rfl) (by kernel_rfl) ?_
  simp only [List.take_succ_cons, List.take_zero, List.drop_succ_cons, List.drop_zero]
  repeat (go_big_quiet_step (fail))
  refine wpQuiet_nil ?_
  rintro _ ⟨y, hy⟩
  subst hy
  clear hsome x_m6
  have HY := Lib.hid y.below
  obtain ⟨w1, hwk⟩ : ∃ z, z = y.to := ⟨_, rfl⟩
  rw [← hwk] at HY ⊢
  clear hwk
  clear y
  have H' := Lib.hid (H.out.below HY.out)
  have HC' := Lib.hid (HC.out.below HY.out)
  clear H HC
  have H := H'
  have HC := HC'
  clear H' HC'
  replace HM := Lib.hid ((HY.out.block _ (heap_lt HM.out)).trans HM.out)
  clear HY
  go_wp2_with fail
  refine (wnumber_any H.out nW_ne e 4 (by have := HL.out; omega) H.out.room).mono ?_
  rintro e w2 ⟨rfl, hc, hw⟩
  replace HM := Lib.hid (hc.keep HM.out note_ne HMP.out)
  have HL' : Hid ((l ++ numL' e 4).length ≤ 1004) := by have := ln_num (l) e 4; have := HL.out; show _ ≤ _; omega
  clear HL
  have HL := HL'
  clear HL'
  have HC' := Lib.hid (HC.out.trans hc)
  have H' := Lib.hid hw
  clear hc hw H HC
  have H := H'
  have HC := HC'
  clear H' HC'
  go_wp2_with fail
  exact bodyPost_end (results_none rfl _ _ _) rfl ⟨rfl, HC.out, H.out⟩
theorem fld_13 (h : Wr N P 81 (nR 13 a x d c s e t o (.slice ai li.length ci) (.slice az lz.length cz)) w l) (hl : l.length ≤ 1000) (f : FdH N P w ai az li lz a x d) :
    Calls Tryz.prog 42 #[.pointer (some ⟨P, 0, none⟩)] w (WrP N P 81 (nR 13 a x d c s e t o (.slice ai li.length ci) (.slice az lz.length cz)) w (l ++ txtL a 1 ++ valL 6 (intS s 4) ++ valL 4 (intS e 2))) := by
  have H := Lib.hid h
  have F := Lib.hid f
  have HL := Lib.hid hl
  have HC := Lib.hid (Ch.refl N P w)
  clear h f hl
  have HM := Lib.hid (box_new w #[.int .i64 13, .string a, .string x, .string d, .int .i64 c, .int .i64 s, .int .i64 e, .int .i64 t, .bool o, .slice ai li.length ci, .slice az lz.length cz] 25)
  have HMP : Hid (w.heap.size ≠ P) := Nat.ne_of_gt H.out.lt
  have HBW : Hid (Below w.heap.size w (w.alloc (.cells #[.int .i64 13, .string a, .string x, .string d, .int .i64 c, .int .i64 s, .int .i64 e, .int .i64 t, .bool o, .slice ai li.length ci, .slice az lz.length cz] 25))) := (Below.refl _ w).alloc (Nat.le_refl _) _
  obtain ⟨c1, c2, c3, c4, c5, c6, c7, c8, c9, c10, c11⟩ := H.out.cells
  obtain ⟨m0, m1, m2, m3, m4, m5, m6, m7, m8, m9, m10⟩ := bx11 HM.out
  go_enter Tryz.func42, Tryz.ntmps42
  go_wp2_with fail
  obtain ⟨wa, hwa⟩ : ∃ z, z = (w.alloc (.cells #[.int .i64 13, .string a, .string x, .string d, .int .i64 c, .int .i64 s, .int .i64 e, .int .i64 t, .bool o, .slice ai li.length ci, .slice az lz.length cz] 25)) := ⟨_, rfl⟩
  rw [← hwa] at HM HBW m0 m1 m2 m3 m4 m5 m6 m7 m8 m9 m10 ⊢
  clear hwa c1 c2 c3 c4 c5 c6 c7 c8 c9 c10 c11
  have H' := Lib.hid (H.out.below HBW.out)
  have HC' := Lib.hid (HC.out.below HBW.out)
  clear H HC HBW
  have H := H'
  have HC := HC'
  clear H' HC'
  generalize w.heap.size = M at HM HMP m0 m1 m2 m3 m4 m5 m6 m7 m8 m9 m10 ⊢
  clear m0 m2 m3 m4 m5 m6 m7 m8 m9 m10
  have x_m1 : ∀ y : Ext wa, y.to.cell? ⟨M, 1, none⟩ = some (.string a) := fun y => ext_cell y m1
  have hsome := extSome wa
  clear m1
  refine ext_tail 5 (by kernel_rfl) (by kernel_rfl) ?_
  simp only [List.take_succ_cons, List.take_zero, List.drop_succ_cons, List.drop_zero]
  repeat (go_big_quiet_step (fail))
  refine wpQuiet_nil ?_
  rintro _ ⟨y, hy⟩
  subst hy
  clear hsome x_m1
  have HY := Lib.hid y.below
  obtain ⟨w1, hwk⟩ : ∃ z, z = y.to := ⟨_, rfl⟩
  rw [← hwk] at HY ⊢
  clear hwk
  clear y
  have H' := Lib.hid (H.out.below HY.out)
  have HC' := Lib.hid (HC.out.below HY.out)
  clear H HC
  have H := H'
  have HC := HC'
  clear H' HC'
  replace HM := Lib.hid ((HY.out.block _ (heap_lt HM.out)).trans HM.out)
  clear HY
  go_wp2_with fail
  refine (wtext_any H.out nW_ne a 1 (by have := HL.out; have := F.out.ha; omega) H.out.room).mono ?_
  rintro e w2 ⟨rfl, hc, hw⟩
  replace HM := Lib.hid (hc.keep HM.out note_ne HMP.out)
  have HL' : Hid ((l ++ txtL a 1).length ≤ 1001004) := by have := ln_txt (l) a 1; have := HL.out; have := F.out.ha; show _ ≤ _; omega
  clear HL
  have HL := HL'
  clear HL'
  have HC' := Lib.hid (HC.out.trans hc)
  have H' := Lib.hid hw
  clear hc hw H HC
  have H := H'
  have HC := HC'
  clear H' HC'
  obtain ⟨m0, m1, m2, m3, m4, m5, m6, m7, m8, m9, m10⟩ := bx11 HM.out
  go_wp2_with fail
  clear m0 m1 m2 m3 m4 m6 m7 m8 m9 m10
  have x_m5 : ∀ y : Ext w2, y.to.cell? ⟨M, 5, none⟩ = some (.int .i64 s) := fun y => ext_cell y m5
  have hsome := extSome w2
  clear m5
  refine ext_tail 5 (by kernel_rfl) (by kernel_rfl) ?_
  simp only [List.take_succ_cons, List.take_zero, List.drop_succ_cons, List.drop_zero]
  repeat (go_big_quiet_step (fail))
  refine wpQuiet_nil ?_
  rintro _ ⟨y, hy⟩
  subst hy
  clear hsome x_m5
  have HY := Lib.hid y.below
  obtain ⟨w3, hwk⟩ : ∃ z, z = y.to := ⟨_, rfl⟩
  rw [← hwk] at HY ⊢
  clear hwk
  clear y
  have H' := Lib.hid (H.out.below HY.out)
  have HC' := Lib.hid (HC.out.below HY.out)
  clear H HC
  have H := H'
  have HC := HC'
  clear H' HC'
  replace HM := Lib.hid ((HY.out.block _ (heap_lt HM.out)).trans HM.out)
  clear HY
  go_wp2_with fail
  refine (wnumV_any H.out nW_ne 6 s 4 (by have := HL.out; omega) H.out.room).mono ?_
  rintro e w4 ⟨rfl, hc, hw⟩
  replace HM := Lib.hid (hc.keep HM.out note_ne HMP.out)
  have HL' : Hid ((l ++ txtL a 1 ++ valL 6 (intS s 4)).length ≤ 1001012) := by have := ln_vnum (l ++ txtL a 1) 6 s 4; have := HL.out; show _ ≤ _; omega
  clear HL
  have HL := HL'
  clear HL'
  have HC' := Lib.hid (HC.out.trans hc)
  have H' := Lib.hid hw
  clear hc hw H HC
  have H := H'
  have HC := HC'
  clear H' HC'
  obtain ⟨m0, m1, m2, m3, m4, m5, m6, m7, m8, m9, m10⟩ := bx11 HM.out
  go_wp2_with fail
  clear m0 m1 m2 m3 m4 m5 m7 m8 m9 m10
  have x_m6 : ∀ y : Ext w4, y.to.cell? ⟨M, 6, none⟩ = some (.int .i64 e) := fun y => ext_cell y m6
  have hsome := extSome w4
  clear m6
  refine ext_tail 5 (by kernel_rfl) (by kernel_rfl) ?_
  simp only [List.take_succ_cons, List.take_zero, List.drop_succ_cons, List.drop_zero]
  repeat (go_big_quiet_step (fail))
  refine wpQuiet_nil ?_
  rintro _ ⟨y, hy⟩
  subst hy
  clear hsome x_m6
  have HY := Lib.hid y.below
  obtain ⟨w5, hwk⟩ : ∃ z, z = y.to := ⟨_, rfl⟩
  rw [← hwk] at HY ⊢
  clear hwk
  clear y
  have H' := Lib.hid (H.out.below HY.out)
  have HC' := Lib.hid (HC.out.below HY.out)
  clear H HC
  have H := H'
  have HC := HC'
  clear H' HC'
  replace HM := Lib.hid ((HY.out.block _ (heap_lt HM.out)).trans HM.out)
  clear HY
  go_wp2_with fail
  refine (wnumV_any H.out nW_ne 4 e 2 (by have := HL.out; omega) H.out.room).mono ?_
  rintro e w6 ⟨rfl, hc, hw⟩
  replace HM := Lib.hid (hc.keep HM.out note_ne HMP.out)
  have HL' : Hid ((l ++ txtL a 1 ++ valL 6 (intS s 4) ++ valL 4 (intS e 2)).length ≤ 1001020) := by have := ln_vnum (l ++ txtL a 1 ++ valL 6 (intS s 4)) 4 e 2; have := HL.out; show _ ≤ _; omega
  clear HL
  have HL := HL'
  clear HL'
  have HC' := Lib.hid (HC.out.trans hc)
  have H' := Lib.hid hw
  clear hc hw H HC
  have H := H'
  have HC := HC'
  clear H' HC'
  go_wp2_with fail
  exact bodyPost_end (results_none rfl _ _ _) rfl ⟨rfl, HC.out, H.out⟩
theorem fld_14 (h : Wr N P 81 (nR 14 a x d c s e t o (.slice ai li.length ci) (.slice az lz.length cz)) w l) (hl : l.length ≤ 1000) (f : FdH N P w ai az li lz a x d) :
    Calls Tryz.prog 42 #[.pointer (some ⟨P, 0, none⟩)] w (WrP N P 81 (nR 14 a x d c s e t o (.slice ai li.length ci) (.slice az lz.length cz)) w (l ++ txtL a 1)) := by
  have H := Lib.hid h
  have F := Lib.hid f
  have HL := Lib.hid hl
  have HC := Lib.hid (Ch.refl N P w)
  clear h f hl
  have HM := Lib.hid (box_new w #[.int .i64 14, .string a, .string x, .string d, .int .i64 c, .int .i64 s, .int .i64 e, .int .i64 t, .bool o, .slice ai li.length ci, .slice az lz.length cz] 25)
  have HMP : Hid (w.heap.size ≠ P) := Nat.ne_of_gt H.out.lt
  have HBW : Hid (Below w.heap.size w (w.alloc (.cells #[.int .i64 14, .string a, .string x, .string d, .int .i64 c, .int .i64 s, .int .i64 e, .int .i64 t, .bool o, .slice ai li.length ci, .slice az lz.length cz] 25))) := (Below.refl _ w).alloc (Nat.le_refl _) _
  obtain ⟨c1, c2, c3, c4, c5, c6, c7, c8, c9, c10, c11⟩ := H.out.cells
  obtain ⟨m0, m1, m2, m3, m4, m5, m6, m7, m8, m9, m10⟩ := bx11 HM.out
  go_enter Tryz.func42, Tryz.ntmps42
  go_wp2_with fail
  obtain ⟨wa, hwa⟩ : ∃ z, z = (w.alloc (.cells #[.int .i64 14, .string a, .string x, .string d, .int .i64 c, .int .i64 s, .int .i64 e, .int .i64 t, .bool o, .slice ai li.length ci, .slice az lz.length cz] 25)) := ⟨_, rfl⟩
  rw [← hwa] at HM HBW m0 m1 m2 m3 m4 m5 m6 m7 m8 m9 m10 ⊢
  clear hwa c1 c2 c3 c4 c5 c6 c7 c8 c9 c10 c11
  have H' := Lib.hid (H.out.below HBW.out)
  have HC' := Lib.hid (HC.out.below HBW.out)
  clear H HC HBW
  have H := H'
  have HC := HC'
  clear H' HC'
  generalize w.heap.size = M at HM HMP m0 m1 m2 m3 m4 m5 m6 m7 m8 m9 m10 ⊢
  clear m0 m2 m3 m4 m5 m6 m7 m8 m9 m10
  have x_m1 : ∀ y : Ext wa, y.to.cell? ⟨M, 1, none⟩ = some (.string a) := fun y => ext_cell y m1
  have hsome := extSome wa
  clear m1
  refine ext_tail 5 (by kernel_rfl) (by kernel_rfl) ?_
  simp only [List.take_succ_cons, List.take_zero, List.drop_succ_cons, List.drop_zero]
  repeat (go_big_quiet_step (fail))
  refine wpQuiet_nil ?_
  rintro _ ⟨y, hy⟩
  subst hy
  clear hsome x_m1
  have HY := Lib.hid y.below
  obtain ⟨w1, hwk⟩ : ∃ z, z = y.to := ⟨_, rfl⟩
  rw [← hwk] at HY ⊢
  clear hwk
  clear y
  have H' := Lib.hid (H.out.below HY.out)
  have HC' := Lib.hid (HC.out.below HY.out)
  clear H HC
  have H := H'
  have HC := HC'
  clear H' HC'
  replace HM := Lib.hid ((HY.out.block _ (heap_lt HM.out)).trans HM.out)
  clear HY
  go_wp2_with fail
  refine (wtext_any H.out nW_ne a 1 (by have := HL.out; have := F.out.ha; omega) H.out.room).mono ?_
  rintro e w2 ⟨rfl, hc, hw⟩
  replace HM := Lib.hid (hc.keep HM.out note_ne HMP.out)
  have HL' : Hid ((l ++ txtL a 1).length ≤ 1001004) := by have := ln_txt (l) a 1; have := HL.out; have := F.out.ha; show _ ≤ _; omega
  clear HL
  have HL := HL'
  clear HL'
  have HC' := Lib.hid (HC.out.trans hc)
  have H' := Lib.hid hw
  clear hc hw H HC
  have H := H'
  have HC := HC'
  clear H' HC'
  go_wp2_with fail
  exact bodyPost_end (results_none rfl _ _ _) rfl ⟨rfl, HC.out, H.out⟩
theorem fld_15 (h : Wr N P 81 (nR 15 a x d c s e t o (.slice ai li.length ci) (.slice az lz.length cz)) w l) (hl : l.length ≤ 1000) (f : FdH N P w ai az li lz a x d) :
    Calls Tryz.prog 42 #[.pointer (some ⟨P, 0, none⟩)] w (WrP N P 81 (nR 15 a x d c s e t o (.slice ai li.length ci) (.slice az lz.length cz)) w (l ++ d.data.toList ++ txtL a 1 ++ valL 2 x)) := by
  have H := Lib.hid h
  have F := Lib.hid f
  have HL := Lib.hid hl
  have HC := Lib.hid (Ch.refl N P w)
  clear h f hl
  have HM := Lib.hid (box_new w #[.int .i64 15, .string a, .string x, .string d, .int .i64 c, .int .i64 s, .int .i64 e, .int .i64 t, .bool o, .slice ai li.length ci, .slice az lz.length cz] 25)
  have HMP : Hid (w.heap.size ≠ P) := Nat.ne_of_gt H.out.lt
  have HBW : Hid (Below w.heap.size w (w.alloc (.cells #[.int .i64 15, .string a, .string x, .string d, .int .i64 c, .int .i64 s, .int .i64 e, .int .i64 t, .bool o, .slice ai li.length ci, .slice az lz.length cz] 25))) := (Below.refl _ w).alloc (Nat.le_refl _) _
  obtain ⟨c1, c2, c3, c4, c5, c6, c7, c8, c9, c10, c11⟩ := H.out.cells
  obtain ⟨m0, m1, m2, m3, m4, m5, m6, m7, m8, m9, m10⟩ := bx11 HM.out
  go_enter Tryz.func42, Tryz.ntmps42
  go_wp2_with fail
  obtain ⟨wa, hwa⟩ : ∃ z, z = (w.alloc (.cells #[.int .i64 15, .string a, .string x, .string d, .int .i64 c, .int .i64 s, .int .i64 e, .int .i64 t, .bool o, .slice ai li.length ci, .slice az lz.length cz] 25)) := ⟨_, rfl⟩
  rw [← hwa] at HM HBW m0 m1 m2 m3 m4 m5 m6 m7 m8 m9 m10 ⊢
  clear hwa c1 c2 c3 c4 c5 c6 c7 c8 c9 c10 c11
  have H' := Lib.hid (H.out.below HBW.out)
  have HC' := Lib.hid (HC.out.below HBW.out)
  clear H HC HBW
  have H := H'
  have HC := HC'
  clear H' HC'
  generalize w.heap.size = M at HM HMP m0 m1 m2 m3 m4 m5 m6 m7 m8 m9 m10 ⊢
  clear m0 m1 m2 m4 m5 m6 m7 m8 m9 m10
  have x_m3 : ∀ y : Ext wa, y.to.cell? ⟨M, 3, none⟩ = some (.string d) := fun y => ext_cell y m3
  have hsome := extSome wa
  clear m3
  refine ext_tail 5 (by kernel_rfl) (by kernel_rfl) ?_
  simp only [List.take_succ_cons, List.take_zero, List.drop_succ_cons, List.drop_zero]
  repeat (go_big_quiet_step (fail))
  refine wpQuiet_nil ?_
  rintro _ ⟨y, hy⟩
  subst hy
  clear hsome x_m3
  have HY := Lib.hid y.below
  obtain ⟨w1, hwk⟩ : ∃ z, z = y.to := ⟨_, rfl⟩
  rw [← hwk] at HY ⊢
  clear hwk
  clear y
  have H' := Lib.hid (H.out.below HY.out)
  have HC' := Lib.hid (HC.out.below HY.out)
  clear H HC
  have H := H'
  have HC := HC'
  clear H' HC'
  replace HM := Lib.hid ((HY.out.block _ (heap_lt HM.out)).trans HM.out)
  clear HY
  go_wp2_with fail
  refine (wput_any H.out nW_ne d (by have := HL.out; have := F.out.hd; omega) H.out.room).mono ?_
  rintro e w2 ⟨rfl, hc, hw⟩
  replace HM := Lib.hid (hc.keep HM.out note_ne HMP.out)
  have HL' : Hid ((l ++ d.data.toList).length ≤ 1001000) := by have := ln_put (l) d; have := HL.out; have := F.out.hd; show _ ≤ _; omega
  clear HL
  have HL := HL'
  clear HL'
  have HC' := Lib.hid (HC.out.trans hc)
  have H' := Lib.hid hw
  clear hc hw H HC
  have H := H'
  have HC := HC'
  clear H' HC'
  obtain ⟨m0, m1, m2, m3, m4, m5, m6, m7, m8, m9, m10⟩ := bx11 HM.out
  go_wp2_with fail
  clear m0 m2 m3 m4 m5 m6 m7 m8 m9 m10
  have x_m1 : ∀ y : Ext w2, y.to.cell? ⟨M, 1, none⟩ = some (.string a) := fun y => ext_cell y m1
  have hsome := extSome w2
  clear m1
  refine ext_tail 5 (by kernel_rfl) (by kernel_rfl) ?_
  simp only [List.take_succ_cons, List.take_zero, List.drop_succ_cons, List.drop_zero]
  repeat (go_big_quiet_step (fail))
  refine wpQuiet_nil ?_
  rintro _ ⟨y, hy⟩
  subst hy
  clear hsome x_m1
  have HY := Lib.hid y.below
  obtain ⟨w3, hwk⟩ : ∃ z, z = y.to := ⟨_, rfl⟩
  rw [← hwk] at HY ⊢
  clear hwk
  clear y
  have H' := Lib.hid (H.out.below HY.out)
  have HC' := Lib.hid (HC.out.below HY.out)
  clear H HC
  have H := H'
  have HC := HC'
  clear H' HC'
  replace HM := Lib.hid ((HY.out.block _ (heap_lt HM.out)).trans HM.out)
  clear HY
  go_wp2_with fail
  refine (wtext_any H.out nW_ne a 1 (by have := HL.out; have := F.out.ha; omega) H.out.room).mono ?_
  rintro e w4 ⟨rfl, hc, hw⟩
  replace HM := Lib.hid (hc.keep HM.out note_ne HMP.out)
  have HL' : Hid ((l ++ d.data.toList ++ txtL a 1).length ≤ 2001004) := by have := ln_txt (l ++ d.data.toList) a 1; have := HL.out; have := F.out.ha; show _ ≤ _; omega
  clear HL
  have HL := HL'
  clear HL'
  have HC' := Lib.hid (HC.out.trans hc)
  have H' := Lib.hid hw
  clear hc hw H HC
  have H := H'
  have HC := HC'
  clear H' HC'
  obtain ⟨m0, m1, m2, m3, m4, m5, m6, m7, m8, m9, m10⟩ := bx11 HM.out
  go_wp2_with fail
  clear m0 m1 m3 m4 m5 m6 m7 m8 m9 m10
  have x_m2 : ∀ y : Ext w4, y.to.cell? ⟨M, 2, none⟩ = some (.string x) := fun y => ext_cell y m2
  have hsome := extSome w4
  clear m2
  refine ext_tail 5 (by kernel_rfl) (by kernel_rfl) ?_
  simp only [List.take_succ_cons, List.take_zero, List.drop_succ_cons, List.drop_zero]
  repeat (go_big_quiet_step (fail))
  refine wpQuiet_nil ?_
  rintro _ ⟨y, hy⟩
  subst hy
  clear hsome x_m2
  have HY := Lib.hid y.below
  obtain ⟨w5, hwk⟩ : ∃ z, z = y.to := ⟨_, rfl⟩
  rw [← hwk] at HY ⊢
  clear hwk
  clear y
  have H' := Lib.hid (H.out.below HY.out)
  have HC' := Lib.hid (HC.out.below HY.out)
  clear H HC
  have H := H'
  have HC := HC'
  clear H' HC'
  replace HM := Lib.hid ((HY.out.block _ (heap_lt HM.out)).trans HM.out)
  clear HY
  go_wp2_with fail
  refine (wvalue_any H.out nW_ne 2 x (by have := HL.out; have := F.out.hx; omega) H.out.room).mono ?_
  rintro e w6 ⟨rfl, hc, hw⟩
  replace HM := Lib.hid (hc.keep HM.out note_ne HMP.out)
  have HL' : Hid ((l ++ d.data.toList ++ txtL a 1 ++ valL 2 x).length ≤ 3001008) := by have := ln_val (l ++ d.data.toList ++ txtL a 1) 2 x; have := HL.out; have := F.out.hx; show _ ≤ _; omega
  clear HL
  have HL := HL'
  clear HL'
  have HC' := Lib.hid (HC.out.trans hc)
  have H' := Lib.hid hw
  clear hc hw H HC
  have H := H'
  have HC := HC'
  clear H' HC'
  go_wp2_with fail
  exact bodyPost_end (results_none rfl _ _ _) rfl ⟨rfl, HC.out, H.out⟩
theorem fld_16 (h : Wr N P 81 (nR 16 a x d c s e t o (.slice ai li.length ci) (.slice az lz.length cz)) w l) (hl : l.length ≤ 1000) (f : FdH N P w ai az li lz a x d) :
    Calls Tryz.prog 42 #[.pointer (some ⟨P, 0, none⟩)] w (WrP N P 81 (nR 16 a x d c s e t o (.slice ai li.length ci) (.slice az lz.length cz)) w (l ++ d.data.toList ++ txtL a 1 ++ valL 2 x)) := by
  have H := Lib.hid h
  have F := Lib.hid f
  have HL := Lib.hid hl
  have HC := Lib.hid (Ch.refl N P w)
  clear h f hl
  have HM := Lib.hid (box_new w #[.int .i64 16, .string a, .string x, .string d, .int .i64 c, .int .i64 s, .int .i64 e, .int .i64 t, .bool o, .slice ai li.length ci, .slice az lz.length cz] 25)
  have HMP : Hid (w.heap.size ≠ P) := Nat.ne_of_gt H.out.lt
  have HBW : Hid (Below w.heap.size w (w.alloc (.cells #[.int .i64 16, .string a, .string x, .string d, .int .i64 c, .int .i64 s, .int .i64 e, .int .i64 t, .bool o, .slice ai li.length ci, .slice az lz.length cz] 25))) := (Below.refl _ w).alloc (Nat.le_refl _) _
  obtain ⟨c1, c2, c3, c4, c5, c6, c7, c8, c9, c10, c11⟩ := H.out.cells
  obtain ⟨m0, m1, m2, m3, m4, m5, m6, m7, m8, m9, m10⟩ := bx11 HM.out
  go_enter Tryz.func42, Tryz.ntmps42
  go_wp2_with fail
  obtain ⟨wa, hwa⟩ : ∃ z, z = (w.alloc (.cells #[.int .i64 16, .string a, .string x, .string d, .int .i64 c, .int .i64 s, .int .i64 e, .int .i64 t, .bool o, .slice ai li.length ci, .slice az lz.length cz] 25)) := ⟨_, rfl⟩
  rw [← hwa] at HM HBW m0 m1 m2 m3 m4 m5 m6 m7 m8 m9 m10 ⊢
  clear hwa c1 c2 c3 c4 c5 c6 c7 c8 c9 c10 c11
  have H' := Lib.hid (H.out.below HBW.out)
  have HC' := Lib.hid (HC.out.below HBW.out)
  clear H HC HBW
  have H := H'
  have HC := HC'
  clear H' HC'
  generalize w.heap.size = M at HM HMP m0 m1 m2 m3 m4 m5 m6 m7 m8 m9 m10 ⊢
  clear m0 m1 m2 m4 m5 m6 m7 m8 m9 m10
  have x_m3 : ∀ y : Ext wa, y.to.cell? ⟨M, 3, none⟩ = some (.string d) := fun y => ext_cell y m3
  have hsome := extSome wa
  clear m3
  refine ext_tail 5 (by kernel_rfl) (by kernel_rfl) ?_
  simp only [List.take_succ_cons, List.take_zero, List.drop_succ_cons, List.drop_zero]
  repeat (go_big_quiet_step (fail))
  refine wpQuiet_nil ?_
  rintro _ ⟨y, hy⟩
  subst hy
  clear hsome x_m3
  have HY := Lib.hid y.below
  obtain ⟨w1, hwk⟩ : ∃ z, z = y.to := ⟨_, rfl⟩
  rw [← hwk] at HY ⊢
  clear hwk
  clear y
  have H' := Lib.hid (H.out.below HY.out)
  have HC' := Lib.hid (HC.out.below HY.out)
  clear H HC
  have H := H'
  have HC := HC'
  clear H' HC'
  replace HM := Lib.hid ((HY.out.block _ (heap_lt HM.out)).trans HM.out)
  clear HY
  go_wp2_with fail
  refine (wput_any H.out nW_ne d (by have := HL.out; have := F.out.hd; omega) H.out.room).mono ?_
  rintro e w2 ⟨rfl, hc, hw⟩
  replace HM := Lib.hid (hc.keep HM.out note_ne HMP.out)
  have HL' : Hid ((l ++ d.data.toList).length ≤ 1001000) := by have := ln_put (l) d; have := HL.out; have := F.out.hd; show _ ≤ _; omega
  clear HL
  have HL := HL'
  clear HL'
  have HC' := Lib.hid (HC.out.trans hc)
  have H' := Lib.hid hw
  clear hc hw H HC
  have H := H'
  have HC := HC'
  clear H' HC'
  obtain ⟨m0, m1, m2, m3, m4, m5, m6, m7, m8, m9, m10⟩ := bx11 HM.out
  go_wp2_with fail
  clear m0 m2 m3 m4 m5 m6 m7 m8 m9 m10
  have x_m1 : ∀ y : Ext w2, y.to.cell? ⟨M, 1, none⟩ = some (.string a) := fun y => ext_cell y m1
  have hsome := extSome w2
  clear m1
  refine ext_tail 5 (by kernel_rfl) (by kernel_rfl) ?_
  simp only [List.take_succ_cons, List.take_zero, List.drop_succ_cons, List.drop_zero]
  repeat (go_big_quiet_step (fail))
  refine wpQuiet_nil ?_
  rintro _ ⟨y, hy⟩
  subst hy
  clear hsome x_m1
  have HY := Lib.hid y.below
  obtain ⟨w3, hwk⟩ : ∃ z, z = y.to := ⟨_, rfl⟩
  rw [← hwk] at HY ⊢
  clear hwk
  clear y
  have H' := Lib.hid (H.out.below HY.out)
  have HC' := Lib.hid (HC.out.below HY.out)
  clear H HC
  have H := H'
  have HC := HC'
  clear H' HC'
  replace HM := Lib.hid ((HY.out.block _ (heap_lt HM.out)).trans HM.out)
  clear HY
  go_wp2_with fail
  refine (wtext_any H.out nW_ne a 1 (by have := HL.out; have := F.out.ha; omega) H.out.room).mono ?_
  rintro e w4 ⟨rfl, hc, hw⟩
  replace HM := Lib.hid (hc.keep HM.out note_ne HMP.out)
  have HL' : Hid ((l ++ d.data.toList ++ txtL a 1).length ≤ 2001004) := by have := ln_txt (l ++ d.data.toList) a 1; have := HL.out; have := F.out.ha; show _ ≤ _; omega
  clear HL
  have HL := HL'
  clear HL'
  have HC' := Lib.hid (HC.out.trans hc)
  have H' := Lib.hid hw
  clear hc hw H HC
  have H := H'
  have HC := HC'
  clear H' HC'
  obtain ⟨m0, m1, m2, m3, m4, m5, m6, m7, m8, m9, m10⟩ := bx11 HM.out
  go_wp2_with fail
  clear m0 m1 m3 m4 m5 m6 m7 m8 m9 m10
  have x_m2 : ∀ y : Ext w4, y.to.cell? ⟨M, 2, none⟩ = some (.string x) := fun y => ext_cell y m2
  have hsome := extSome w4
  clear m2
  refine ext_tail 5 (by kernel_rfl) (by kernel_rfl) ?_
  simp only [List.take_succ_cons, List.take_zero, List.drop_succ_cons, List.drop_zero]
  repeat (go_big_quiet_step (fail))
  refine wpQuiet_nil ?_
  rintro _ ⟨y, hy⟩
  subst hy
  clear hsome x_m2
  have HY := Lib.hid y.below
  obtain ⟨w5, hwk⟩ : ∃ z, z = y.to := ⟨_, rfl⟩
  rw [← hwk] at HY ⊢
  clear hwk
  clear y
  have H' := Lib.hid (H.out.below HY.out)
  have HC' := Lib.hid (HC.out.below HY.out)
  clear H HC
  have H := H'
  have HC := HC'
  clear H' HC'
  replace HM := Lib.hid ((HY.out.block _ (heap_lt HM.out)).trans HM.out)
  clear HY
  go_wp2_with fail
  refine (wvalue_any H.out nW_ne 2 x (by have := HL.out; have := F.out.hx; omega) H.out.room).mono ?_
  rintro e w6 ⟨rfl, hc, hw⟩
  replace HM := Lib.hid (hc.keep HM.out note_ne HMP.out)
  have HL' : Hid ((l ++ d.data.toList ++ txtL a 1 ++ valL 2 x).length ≤ 3001008) := by have := ln_val (l ++ d.data.toList ++ txtL a 1) 2 x; have := HL.out; have := F.out.hx; show _ ≤ _; omega
  clear HL
  have HL := HL'
  clear HL'
  have HC' := Lib.hid (HC.out.trans hc)
  have H' := Lib.hid hw
  clear hc hw H HC
  have H := H'
  have HC := HC'
  clear H' HC'
  go_wp2_with fail
  exact bodyPost_end (results_none rfl _ _ _) rfl ⟨rfl, HC.out, H.out⟩
theorem fld_17 (h : Wr N P 81 (nR 17 a x d c s e t o (.slice ai li.length ci) (.slice az lz.length cz)) w l) (hl : l.length ≤ 1000) (f : FdH N P w ai az li lz a x d) :
    Calls Tryz.prog 42 #[.pointer (some ⟨P, 0, none⟩)] w (WrP N P 81 (nR 17 a x d c s e t o (.slice ai li.length ci) (.slice az lz.length cz)) w (l ++ numL' t 4 ++ numL' c 2)) := by
  have H := Lib.hid h
  have F := Lib.hid f
  have HL := Lib.hid hl
  have HC := Lib.hid (Ch.refl N P w)
  clear h f hl
  have HM := Lib.hid (box_new w #[.int .i64 17, .string a, .string x, .string d, .int .i64 c, .int .i64 s, .int .i64 e, .int .i64 t, .bool o, .slice ai li.length ci, .slice az lz.length cz] 25)
  have HMP : Hid (w.heap.size ≠ P) := Nat.ne_of_gt H.out.lt
  have HBW : Hid (Below w.heap.size w (w.alloc (.cells #[.int .i64 17, .string a, .string x, .string d, .int .i64 c, .int .i64 s, .int .i64 e, .int .i64 t, .bool o, .slice ai li.length ci, .slice az lz.length cz] 25))) := (Below.refl _ w).alloc (Nat.le_refl _) _
  obtain ⟨c1, c2, c3, c4, c5, c6, c7, c8, c9, c10, c11⟩ := H.out.cells
  obtain ⟨m0, m1, m2, m3, m4, m5, m6, m7, m8, m9, m10⟩ := bx11 HM.out
  go_enter Tryz.func42, Tryz.ntmps42
  go_wp2_with fail
  obtain ⟨wa, hwa⟩ : ∃ z, z = (w.alloc (.cells #[.int .i64 17, .string a, .string x, .string d, .int .i64 c, .int .i64 s, .int .i64 e, .int .i64 t, .bool o, .slice ai li.length ci, .slice az lz.length cz] 25)) := ⟨_, rfl⟩
  rw [← hwa] at HM HBW m0 m1 m2 m3 m4 m5 m6 m7 m8 m9 m10 ⊢
  clear hwa c1 c2 c3 c4 c5 c6 c7 c8 c9 c10 c11
  have H' := Lib.hid (H.out.below HBW.out)
  have HC' := Lib.hid (HC.out.below HBW.out)
  clear H HC HBW
  have H := H'
  have HC := HC'
  clear H' HC'
  generalize w.heap.size = M at HM HMP m0 m1 m2 m3 m4 m5 m6 m7 m8 m9 m10 ⊢
  clear m0 m1 m2 m3 m4 m5 m6 m8 m9 m10
  have x_m7 : ∀ y : Ext wa, y.to.cell? ⟨M, 7, none⟩ = some (.int .i64 t) := fun y => ext_cell y m7
  have hsome := extSome wa
  clear m7
  refine ext_tail 5 (by kernel_rfl) (by kernel_rfl) ?_
  simp only [List.take_succ_cons, List.take_zero, List.drop_succ_cons, List.drop_zero]
  repeat (go_big_quiet_step (fail))
  refine wpQuiet_nil ?_
  rintro _ ⟨y, hy⟩
  subst hy
  clear hsome x_m7
  have HY := Lib.hid y.below
  obtain ⟨w1, hwk⟩ : ∃ z, z = y.to := ⟨_, rfl⟩
  rw [← hwk] at HY ⊢
  clear hwk
  clear y
  have H' := Lib.hid (H.out.below HY.out)
  have HC' := Lib.hid (HC.out.below HY.out)
  clear H HC
  have H := H'
  have HC := HC'
  clear H' HC'
  replace HM := Lib.hid ((HY.out.block _ (heap_lt HM.out)).trans HM.out)
  clear HY
  go_wp2_with fail
  refine (wnumber_any H.out nW_ne t 4 (by have := HL.out; omega) H.out.room).mono ?_
  rintro e w2 ⟨rfl, hc, hw⟩
  replace HM := Lib.hid (hc.keep HM.out note_ne HMP.out)
  have HL' : Hid ((l ++ numL' t 4).length ≤ 1004) := by have := ln_num (l) t 4; have := HL.out; show _ ≤ _; omega
  clear HL
  have HL := HL'
  clear HL'
  have HC' := Lib.hid (HC.out.trans hc)
  have H' := Lib.hid hw
  clear hc hw H HC
  have H := H'
  have HC := HC'
  clear H' HC'
  obtain ⟨m0, m1, m2, m3, m4, m5, m6, m7, m8, m9, m10⟩ := bx11 HM.out
  go_wp2_with fail
  clear m0 m1 m2 m3 m5 m6 m7 m8 m9 m10
  have x_m4 : ∀ y : Ext w2, y.to.cell? ⟨M, 4, none⟩ = some (.int .i64 c) := fun y => ext_cell y m4
  have hsome := extSome w2
  clear m4
  refine ext_tail 5 (by kernel_rfl) (by kernel_rfl) ?_
  simp only [List.take_succ_cons, List.take_zero, List.drop_succ_cons, List.drop_zero]
  repeat (go_big_quiet_step (fail))
  refine wpQuiet_nil ?_
  rintro _ ⟨y, hy⟩
  subst hy
  clear hsome x_m4
  have HY := Lib.hid y.below
  obtain ⟨w3, hwk⟩ : ∃ z, z = y.to := ⟨_, rfl⟩
  rw [← hwk] at HY ⊢
  clear hwk
  clear y
  have H' := Lib.hid (H.out.below HY.out)
  have HC' := Lib.hid (HC.out.below HY.out)
  clear H HC
  have H := H'
  have HC := HC'
  clear H' HC'
  replace HM := Lib.hid ((HY.out.block _ (heap_lt HM.out)).trans HM.out)
  clear HY
  go_wp2_with fail
  refine (wnumber_any H.out nW_ne c 2 (by have := HL.out; omega) H.out.room).mono ?_
  rintro e w4 ⟨rfl, hc, hw⟩
  replace HM := Lib.hid (hc.keep HM.out note_ne HMP.out)
  have HL' : Hid ((l ++ numL' t 4 ++ numL' c 2).length ≤ 1008) := by have := ln_num (l ++ numL' t 4) c 2; have := HL.out; show _ ≤ _; omega
  clear HL
  have HL := HL'
  clear HL'
  have HC' := Lib.hid (HC.out.trans hc)
  have H' := Lib.hid hw
  clear hc hw H HC
  have H := H'
  have HC := HC'
  clear H' HC'
  go_wp2_with fail
  exact bodyPost_end (results_none rfl _ _ _) rfl ⟨rfl, HC.out, H.out⟩
theorem fld_18 (h : Wr N P 81 (nR 18 a x d c s e t o (.slice ai li.length ci) (.slice az lz.length cz)) w l) (hl : l.length ≤ 1000) (f : FdH N P w ai az li lz a x d) :
    Calls Tryz.prog 42 #[.pointer (some ⟨P, 0, none⟩)] w (WrP N P 81 (nR 18 a x d c s e t o (.slice ai li.length ci) (.slice az lz.length cz)) w (l ++ numL' li.length 2 ++ itsL li ++ numL' t 4)) := by
  have H := Lib.hid h
  have F := Lib.hid f
  have HL := Lib.hid hl
  have HC := Lib.hid (Ch.refl N P w)
  clear h f hl
  have HM := Lib.hid (box_new w #[.int .i64 18, .string a, .string x, .string d, .int .i64 c, .int .i64 s, .int .i64 e, .int .i64 t, .bool o, .slice ai li.length ci, .slice az lz.length cz] 25)
  have HMP : Hid (w.heap.size ≠ P) := Nat.ne_of_gt H.out.lt
  have HBW : Hid (Below w.heap.size w (w.alloc (.cells #[.int .i64 18, .string a, .string x, .string d, .int .i64 c, .int .i64 s, .int .i64 e, .int .i64 t, .bool o, .slice ai li.length ci, .slice az lz.length cz] 25))) := (Below.refl _ w).alloc (Nat.le_refl _) _
  obtain ⟨c1, c2, c3, c4, c5, c6, c7, c8, c9, c10, c11⟩ := H.out.cells
  obtain ⟨m0, m1, m2, m3, m4, m5, m6, m7, m8, m9, m10⟩ := bx11 HM.out
  go_enter Tryz.func42, Tryz.ntmps42
  go_wp2_with fail
  obtain ⟨wa, hwa⟩ : ∃ z, z = (w.alloc (.cells #[.int .i64 18, .string a, .string x, .string d, .int .i64 c, .int .i64 s, .int .i64 e, .int .i64 t, .bool o, .slice ai li.length ci, .slice az lz.length cz] 25)) := ⟨_, rfl⟩
  rw [← hwa] at HM HBW m0 m1 m2 m3 m4 m5 m6 m7 m8 m9 m10 ⊢
  clear hwa c1 c2 c3 c4 c5 c6 c7 c8 c9 c10 c11
  have H' := Lib.hid (H.out.below HBW.out)
  have HC' := Lib.hid (HC.out.below HBW.out)
  clear H HC HBW
  have H := H'
  have HC := HC'
  clear H' HC'
  generalize w.heap.size = M at HM HMP m0 m1 m2 m3 m4 m5 m6 m7 m8 m9 m10 ⊢
  clear m0 m1 m2 m3 m4 m5 m6 m7 m8 m10
  have x_m9 : ∀ y : Ext wa, y.to.cell? ⟨M, 9, none⟩ = some (.slice ai li.length ci) := fun y => ext_cell y m9
  have hsome := extSome wa
  clear m9
  refine ext_tail 6 (by kernel_rfl) (by kernel_rfl) ?_
  simp only [List.take_succ_cons, List.take_zero, List.drop_succ_cons, List.drop_zero]
  repeat (go_big_quiet_step (fail))
  refine wpQuiet_nil ?_
  rintro _ ⟨y, hy⟩
  subst hy
  clear hsome x_m9
  have HY := Lib.hid y.below
  obtain ⟨w1, hwk⟩ : ∃ z, z = y.to := ⟨_, rfl⟩
  rw [← hwk] at HY ⊢
  clear hwk
  clear y
  have H' := Lib.hid (H.out.below HY.out)
  have HC' := Lib.hid (HC.out.below HY.out)
  clear H HC
  have H := H'
  have HC := HC'
  clear H' HC'
  replace HM := Lib.hid ((HY.out.block _ (heap_lt HM.out)).trans HM.out)
  clear HY
  go_wp2_with fail
  refine (wnumber_any H.out nW_ne li.length 2 (by have := HL.out; omega) H.out.room).mono ?_
  rintro e w2 ⟨rfl, hc, hw⟩
  replace HM := Lib.hid (hc.keep HM.out note_ne HMP.out)
  have HL' : Hid ((l ++ numL' li.length 2).length ≤ 1004) := by have := ln_num (l) li.length 2; have := HL.out; show _ ≤ _; omega
  clear HL
  have HL := HL'
  clear HL'
  have HC' := Lib.hid (HC.out.trans hc)
  have H' := Lib.hid hw
  clear hc hw H HC
  have H := H'
  have HC := HC'
  clear H' HC'
  obtain ⟨m0, m1, m2, m3, m4, m5, m6, m7, m8, m9, m10⟩ := bx11 HM.out
  go_wp2_with fail
  clear m0 m1 m2 m3 m4 m5 m6 m7 m8 m9 m10
  refine (items_any H.out (by have := HL.out; omega) (fun W hW => F.out.hI W (HC.out.trans hW)) F.out.hin F.out.hiz).mono ?_
  rintro e w3 ⟨rfl, hc, hw⟩
  replace HM := Lib.hid (hc.keep HM.out note_ne HMP.out)
  have HL' : Hid ((l ++ numL' li.length 2 ++ itsL li).length ≤ 2001001004) := by have := its_len F.out.hiz; have := F.out.hin; have := HL.out; show _ ≤ _; rw [List.length_append]; omega
  clear HL
  have HL := HL'
  clear HL'
  have HC' := Lib.hid (HC.out.trans hc)
  have H' := Lib.hid hw
  clear hc hw H HC
  have H := H'
  have HC := HC'
  clear H' HC'
  obtain ⟨m0, m1, m2, m3, m4, m5, m6, m7, m8, m9, m10⟩ := bx11 HM.out
  go_wp2_with fail
  clear m0 m1 m2 m3 m4 m5 m6 m8 m9 m10
  have x_m7 : ∀ y : Ext w3, y.to.cell? ⟨M, 7, none⟩ = some (.int .i64 t) := fun y => ext_cell y m7
  have hsome := extSome w3
  clear m7
  refine ext_tail 5 (by kernel_rfl) (by kernel_rfl) ?_
  simp only [List.take_succ_cons, List.take_zero, List.drop_succ_cons, List.drop_zero]
  repeat (go_big_quiet_step (fail))
  refine wpQuiet_nil ?_
  rintro _ ⟨y, hy⟩
  subst hy
  clear hsome x_m7
  have HY := Lib.hid y.below
  obtain ⟨w4, hwk⟩ : ∃ z, z = y.to := ⟨_, rfl⟩
  rw [← hwk] at HY ⊢
  clear hwk
  clear y
  have H' := Lib.hid (H.out.below HY.out)
  have HC' := Lib.hid (HC.out.below HY.out)
  clear H HC
  have H := H'
  have HC := HC'
  clear H' HC'
  replace HM := Lib.hid ((HY.out.block _ (heap_lt HM.out)).trans HM.out)
  clear HY
  go_wp2_with fail
  refine (wnumber_any H.out nW_ne t 4 (by have := HL.out; omega) H.out.room).mono ?_
  rintro e w5 ⟨rfl, hc, hw⟩
  replace HM := Lib.hid (hc.keep HM.out note_ne HMP.out)
  have HL' : Hid ((l ++ numL' li.length 2 ++ itsL li ++ numL' t 4).length ≤ 2001001008) := by have := ln_num (l ++ numL' li.length 2 ++ itsL li) t 4; have := HL.out; show _ ≤ _; omega
  clear HL
  have HL := HL'
  clear HL'
  have HC' := Lib.hid (HC.out.trans hc)
  have H' := Lib.hid hw
  clear hc hw H HC
  have H := H'
  have HC := HC'
  clear H' HC'
  go_wp2_with fail
  exact bodyPost_end (results_none rfl _ _ _) rfl ⟨rfl, HC.out, H.out⟩
theorem fld_19 (h : Wr N P 81 (nR 19 a x d c s e t o (.slice ai li.length ci) (.slice az lz.length cz)) w l) (hl : l.length ≤ 1000) (f : FdH N P w ai az li lz a x d) :
    Calls Tryz.prog 42 #[.pointer (some ⟨P, 0, none⟩)] w (WrP N P 81 (nR 19 a x d c s e t o (.slice ai li.length ci) (.slice az lz.length cz)) w (l ++ numL' t 4 ++ numL' c 2)) := by
  have H := Lib.hid h
  have F := Lib.hid f
  have HL := Lib.hid hl
  have HC := Lib.hid (Ch.refl N P w)
  clear h f hl
  have HM := Lib.hid (box_new w #[.int .i64 19, .string a, .string x, .string d, .int .i64 c, .int .i64 s, .int .i64 e, .int .i64 t, .bool o, .slice ai li.length ci, .slice az lz.length cz] 25)
  have HMP : Hid (w.heap.size ≠ P) := Nat.ne_of_gt H.out.lt
  have HBW : Hid (Below w.heap.size w (w.alloc (.cells #[.int .i64 19, .string a, .string x, .string d, .int .i64 c, .int .i64 s, .int .i64 e, .int .i64 t, .bool o, .slice ai li.length ci, .slice az lz.length cz] 25))) := (Below.refl _ w).alloc (Nat.le_refl _) _
  obtain ⟨c1, c2, c3, c4, c5, c6, c7, c8, c9, c10, c11⟩ := H.out.cells
  obtain ⟨m0, m1, m2, m3, m4, m5, m6, m7, m8, m9, m10⟩ := bx11 HM.out
  go_enter Tryz.func42, Tryz.ntmps42
  go_wp2_with fail
  obtain ⟨wa, hwa⟩ : ∃ z, z = (w.alloc (.cells #[.int .i64 19, .string a, .string x, .string d, .int .i64 c, .int .i64 s, .int .i64 e, .int .i64 t, .bool o, .slice ai li.length ci, .slice az lz.length cz] 25)) := ⟨_, rfl⟩
  rw [← hwa] at HM HBW m0 m1 m2 m3 m4 m5 m6 m7 m8 m9 m10 ⊢
  clear hwa c1 c2 c3 c4 c5 c6 c7 c8 c9 c10 c11
  have H' := Lib.hid (H.out.below HBW.out)
  have HC' := Lib.hid (HC.out.below HBW.out)
  clear H HC HBW
  have H := H'
  have HC := HC'
  clear H' HC'
  generalize w.heap.size = M at HM HMP m0 m1 m2 m3 m4 m5 m6 m7 m8 m9 m10 ⊢
  clear m0 m1 m2 m3 m4 m5 m6 m8 m9 m10
  have x_m7 : ∀ y : Ext wa, y.to.cell? ⟨M, 7, none⟩ = some (.int .i64 t) := fun y => ext_cell y m7
  have hsome := extSome wa
  clear m7
  refine ext_tail 5 (by kernel_rfl) (by kernel_rfl) ?_
  simp only [List.take_succ_cons, List.take_zero, List.drop_succ_cons, List.drop_zero]
  repeat (go_big_quiet_step (fail))
  refine wpQuiet_nil ?_
  rintro _ ⟨y, hy⟩
  subst hy
  clear hsome x_m7
  have HY := Lib.hid y.below
  obtain ⟨w1, hwk⟩ : ∃ z, z = y.to := ⟨_, rfl⟩
  rw [← hwk] at HY ⊢
  clear hwk
  clear y
  have H' := Lib.hid (H.out.below HY.out)
  have HC' := Lib.hid (HC.out.below HY.out)
  clear H HC
  have H := H'
  have HC := HC'
  clear H' HC'
  replace HM := Lib.hid ((HY.out.block _ (heap_lt HM.out)).trans HM.out)
  clear HY
  go_wp2_with fail
  refine (wnumber_any H.out nW_ne t 4 (by have := HL.out; omega) H.out.room).mono ?_
  rintro e w2 ⟨rfl, hc, hw⟩
  replace HM := Lib.hid (hc.keep HM.out note_ne HMP.out)
  have HL' : Hid ((l ++ numL' t 4).length ≤ 1004) := by have := ln_num (l) t 4; have := HL.out; show _ ≤ _; omega
  clear HL
  have HL := HL'
  clear HL'
  have HC' := Lib.hid (HC.out.trans hc)
  have H' := Lib.hid hw
  clear hc hw H HC
  have H := H'
  have HC := HC'
  clear H' HC'
  obtain ⟨m0, m1, m2, m3, m4, m5, m6, m7, m8, m9, m10⟩ := bx11 HM.out
  go_wp2_with fail
  clear m0 m1 m2 m3 m5 m6 m7 m8 m9 m10
  have x_m4 : ∀ y : Ext w2, y.to.cell? ⟨M, 4, none⟩ = some (.int .i64 c) := fun y => ext_cell y m4
  have hsome := extSome w2
  clear m4
  refine ext_tail 5 (by kernel_rfl) (by kernel_rfl) ?_
  simp only [List.take_succ_cons, List.take_zero, List.drop_succ_cons, List.drop_zero]
  repeat (go_big_quiet_step (fail))
  refine wpQuiet_nil ?_
  rintro _ ⟨y, hy⟩
  subst hy
  clear hsome x_m4
  have HY := Lib.hid y.below
  obtain ⟨w3, hwk⟩ : ∃ z, z = y.to := ⟨_, rfl⟩
  rw [← hwk] at HY ⊢
  clear hwk
  clear y
  have H' := Lib.hid (H.out.below HY.out)
  have HC' := Lib.hid (HC.out.below HY.out)
  clear H HC
  have H := H'
  have HC := HC'
  clear H' HC'
  replace HM := Lib.hid ((HY.out.block _ (heap_lt HM.out)).trans HM.out)
  clear HY
  go_wp2_with fail
  refine (wnumber_any H.out nW_ne c 2 (by have := HL.out; omega) H.out.room).mono ?_
  rintro e w4 ⟨rfl, hc, hw⟩
  replace HM := Lib.hid (hc.keep HM.out note_ne HMP.out)
  have HL' : Hid ((l ++ numL' t 4 ++ numL' c 2).length ≤ 1008) := by have := ln_num (l ++ numL' t 4) c 2; have := HL.out; show _ ≤ _; omega
  clear HL
  have HL := HL'
  clear HL'
  have HC' := Lib.hid (HC.out.trans hc)
  have H' := Lib.hid hw
  clear hc hw H HC
  have H := H'
  have HC := HC'
  clear H' HC'
  go_wp2_with fail
  exact bodyPost_end (results_none rfl _ _ _) rfl ⟨rfl, HC.out, H.out⟩
theorem fld_20 (h : Wr N P 81 (nR 20 a x d c s e t o (.slice ai li.length ci) (.slice az lz.length cz)) w l) (hl : l.length ≤ 1000) (f : FdH N P w ai az li lz a x d) :
    Calls Tryz.prog 42 #[.pointer (some ⟨P, 0, none⟩)] w (WrP N P 81 (nR 20 a x d c s e t o (.slice ai li.length ci) (.slice az lz.length cz)) w (l ++ itsL li)) := by
  have H := Lib.hid h
  have F := Lib.hid f
  have HL := Lib.hid hl
  have HC := Lib.hid (Ch.refl N P w)
  clear h f hl
  have HM := Lib.hid (box_new w #[.int .i64 20, .string a, .string x, .string d, .int .i64 c, .int .i64 s, .int .i64 e, .int .i64 t, .bool o, .slice ai li.length ci, .slice az lz.length cz] 25)
  have HMP : Hid (w.heap.size ≠ P) := Nat.ne_of_gt H.out.lt
  have HBW : Hid (Below w.heap.size w (w.alloc (.cells #[.int .i64 20, .string a, .string x, .string d, .int .i64 c, .int .i64 s, .int .i64 e, .int .i64 t, .bool o, .slice ai li.length ci, .slice az lz.length cz] 25))) := (Below.refl _ w).alloc (Nat.le_refl _) _
  obtain ⟨c1, c2, c3, c4, c5, c6, c7, c8, c9, c10, c11⟩ := H.out.cells
  have mX := bx11 HM.out
  go_enter Tryz.func42, Tryz.ntmps42
  go_wp2_with fail
  obtain ⟨wa, hwa⟩ : ∃ z, z = (w.alloc (.cells #[.int .i64 20, .string a, .string x, .string d, .int .i64 c, .int .i64 s, .int .i64 e, .int .i64 t, .bool o, .slice ai li.length ci, .slice az lz.length cz] 25)) := ⟨_, rfl⟩
  rw [← hwa] at HM HBW mX ⊢
  clear hwa c1 c2 c3 c4 c5 c6 c7 c8 c9 c10 c11
  have H' := Lib.hid (H.out.below HBW.out)
  have HC' := Lib.hid (HC.out.below HBW.out)
  clear H HC HBW
  have H := H'
  have HC := HC'
  clear H' HC'
  generalize w.heap.size = M at HM HMP mX ⊢
  clear mX
  refine (items_any H.out (by have := HL.out; omega) (fun W hW => F.out.hI W (HC.out.trans hW)) F.out.hin F.out.hiz).mono ?_
  rintro e w1 ⟨rfl, hc, hw⟩
  replace HM := Lib.hid (hc.keep HM.out note_ne HMP.out)
  clear HL
  have HC' := Lib.hid (HC.out.trans hc)
  have H' := Lib.hid hw
  clear hc hw H HC
  have H := H'
  have HC := HC'
  clear H' HC'
  go_wp2_with fail
  exact bodyPost_end (results_none rfl _ _ _) rfl ⟨rfl, HC.out, H.out⟩
theorem fld_21 (h : Wr N P 81 (nR 21 a x d c s e t o (.slice ai li.length ci) (.slice az lz.length cz)) w l) (hl : l.length ≤ 1000) (f : FdH N P w ai az li lz a x d) :
    Calls Tryz.prog 42 #[.pointer (some ⟨P, 0, none⟩)] w (WrP N P 81 (nR 21 a x d c s e t o (.slice ai li.length ci) (.slice az lz.length cz)) w (l ++ itsL li)) := by
  have H := Lib.hid h
  have F := Lib.hid f
  have HL := Lib.hid hl
  have HC := Lib.hid (Ch.refl N P w)
  clear h f hl
  have HM := Lib.hid (box_new w #[.int .i64 21, .string a, .string x, .string d, .int .i64 c, .int .i64 s, .int .i64 e, .int .i64 t, .bool o, .slice ai li.length ci, .slice az lz.length cz] 25)
  have HMP : Hid (w.heap.size ≠ P) := Nat.ne_of_gt H.out.lt
  have HBW : Hid (Below w.heap.size w (w.alloc (.cells #[.int .i64 21, .string a, .string x, .string d, .int .i64 c, .int .i64 s, .int .i64 e, .int .i64 t, .bool o, .slice ai li.length ci, .slice az lz.length cz] 25))) := (Below.refl _ w).alloc (Nat.le_refl _) _
  obtain ⟨c1, c2, c3, c4, c5, c6, c7, c8, c9, c10, c11⟩ := H.out.cells
  have mX := bx11 HM.out
  go_enter Tryz.func42, Tryz.ntmps42
  go_wp2_with fail
  obtain ⟨wa, hwa⟩ : ∃ z, z = (w.alloc (.cells #[.int .i64 21, .string a, .string x, .string d, .int .i64 c, .int .i64 s, .int .i64 e, .int .i64 t, .bool o, .slice ai li.length ci, .slice az lz.length cz] 25)) := ⟨_, rfl⟩
  rw [← hwa] at HM HBW mX ⊢
  clear hwa c1 c2 c3 c4 c5 c6 c7 c8 c9 c10 c11
  have H' := Lib.hid (H.out.below HBW.out)
  have HC' := Lib.hid (HC.out.below HBW.out)
  clear H HC HBW
  have H := H'
  have HC := HC'
  clear H' HC'
  generalize w.heap.size = M at HM HMP mX ⊢
  clear mX
  refine (items_any H.out (by have := HL.out; omega) (fun W hW => F.out.hI W (HC.out.trans hW)) F.out.hin F.out.hiz).mono ?_
  rintro e w1 ⟨rfl, hc, hw⟩
  replace HM := Lib.hid (hc.keep HM.out note_ne HMP.out)
  clear HL
  have HC' := Lib.hid (HC.out.trans hc)
  have H' := Lib.hid hw
  clear hc hw H HC
  have H := H'
  have HC := HC'
  clear H' HC'
  go_wp2_with fail
  exact bodyPost_end (results_none rfl _ _ _) rfl ⟨rfl, HC.out, H.out⟩
theorem fld_22 (h : Wr N P 81 (nR 22 a x d c s e t o (.slice ai li.length ci) (.slice az lz.length cz)) w l) (hl : l.length ≤ 1000) (f : FdH N P w ai az li lz a x d) :
    Calls Tryz.prog 42 #[.pointer (some ⟨P, 0, none⟩)] w (WrP N P 81 (nR 22 a x d c s e t o (.slice ai li.length ci) (.slice az lz.length cz)) w (l ++ itsL li)) := by
  have H := Lib.hid h
  have F := Lib.hid f
  have HL := Lib.hid hl
  have HC := Lib.hid (Ch.refl N P w)
  clear h f hl
  have HM := Lib.hid (box_new w #[.int .i64 22, .string a, .string x, .string d, .int .i64 c, .int .i64 s, .int .i64 e, .int .i64 t, .bool o, .slice ai li.length ci, .slice az lz.length cz] 25)
  have HMP : Hid (w.heap.size ≠ P) := Nat.ne_of_gt H.out.lt
  have HBW : Hid (Below w.heap.size w (w.alloc (.cells #[.int .i64 22, .string a, .string x, .string d, .int .i64 c, .int .i64 s, .int .i64 e, .int .i64 t, .bool o, .slice ai li.length ci, .slice az lz.length cz] 25))) := (Below.refl _ w).alloc (Nat.le_refl _) _
  obtain ⟨c1, c2, c3, c4, c5, c6, c7, c8, c9, c10, c11⟩ := H.out.cells
  have mX := bx11 HM.out
  go_enter Tryz.func42, Tryz.ntmps42
  go_wp2_with fail
  obtain ⟨wa, hwa⟩ : ∃ z, z = (w.alloc (.cells #[.int .i64 22, .string a, .string x, .string d, .int .i64 c, .int .i64 s, .int .i64 e, .int .i64 t, .bool o, .slice ai li.length ci, .slice az lz.length cz] 25)) := ⟨_, rfl⟩
  rw [← hwa] at HM HBW mX ⊢
  clear hwa c1 c2 c3 c4 c5 c6 c7 c8 c9 c10 c11
  have H' := Lib.hid (H.out.below HBW.out)
  have HC' := Lib.hid (HC.out.below HBW.out)
  clear H HC HBW
  have H := H'
  have HC := HC'
  clear H' HC'
  generalize w.heap.size = M at HM HMP mX ⊢
  clear mX
  refine (items_any H.out (by have := HL.out; omega) (fun W hW => F.out.hI W (HC.out.trans hW)) F.out.hin F.out.hiz).mono ?_
  rintro e w1 ⟨rfl, hc, hw⟩
  replace HM := Lib.hid (hc.keep HM.out note_ne HMP.out)
  clear HL
  have HC' := Lib.hid (HC.out.trans hc)
  have H' := Lib.hid hw
  clear hc hw H HC
  have H := H'
  have HC := HC'
  clear H' HC'
  go_wp2_with fail
  exact bodyPost_end (results_none rfl _ _ _) rfl ⟨rfl, HC.out, H.out⟩
theorem fld_25 (h : Wr N P 81 (nR 25 a x d c s e t o (.slice ai li.length ci) (.slice az lz.length cz)) w l) (hl : l.length ≤ 1000) (f : FdH N P w ai az li lz a x d) :
    Calls Tryz.prog 42 #[.pointer (some ⟨P, 0, none⟩)] w (WrP N P 81 (nR 25 a x d c s e t o (.slice ai li.length ci) (.slice az lz.length cz)) w (l ++ cdsL lz)) := by
  have H := Lib.hid h
  have F := Lib.hid f
  have HL := Lib.hid hl
  have HC := Lib.hid (Ch.refl N P w)
  clear h f hl
  have HM := Lib.hid (box_new w #[.int .i64 25, .string a, .string x, .string d, .int .i64 c, .int .i64 s, .int .i64 e, .int .i64 t, .bool o, .slice ai li.length ci, .slice az lz.length cz] 25)
  have HMP : Hid (w.heap.size ≠ P) := Nat.ne_of_gt H.out.lt
  have HBW : Hid (Below w.heap.size w (w.alloc (.cells #[.int .i64 25, .string a, .string x, .string d, .int .i64 c, .int .i64 s, .int .i64 e, .int .i64 t, .bool o, .slice ai li.length ci, .slice az lz.length cz] 25))) := (Below.refl _ w).alloc (Nat.le_refl _) _
  obtain ⟨c1, c2, c3, c4, c5, c6, c7, c8, c9, c10, c11⟩ := H.out.cells
  have mX := bx11 HM.out
  go_enter Tryz.func42, Tryz.ntmps42
  go_wp2_with fail
  obtain ⟨wa, hwa⟩ : ∃ z, z = (w.alloc (.cells #[.int .i64 25, .string a, .string x, .string d, .int .i64 c, .int .i64 s, .int .i64 e, .int .i64 t, .bool o, .slice ai li.length ci, .slice az lz.length cz] 25)) := ⟨_, rfl⟩
  rw [← hwa] at HM HBW mX ⊢
  clear hwa c1 c2 c3 c4 c5 c6 c7 c8 c9 c10 c11
  have H' := Lib.hid (H.out.below HBW.out)
  have HC' := Lib.hid (HC.out.below HBW.out)
  clear H HC HBW
  have H := H'
  have HC := HC'
  clear H' HC'
  generalize w.heap.size = M at HM HMP mX ⊢
  clear mX
  refine (codes_any H.out (by have := HL.out; omega) (fun W hW => F.out.hZ W (HC.out.trans hW)) F.out.hzn).mono ?_
  rintro e w1 ⟨rfl, hc, hw⟩
  replace HM := Lib.hid (hc.keep HM.out note_ne HMP.out)
  clear HL
  have HC' := Lib.hid (HC.out.trans hc)
  have H' := Lib.hid hw
  clear hc hw H HC
  have H := H'
  have HC := HC'
  clear H' HC'
  go_wp2_with fail
  exact bodyPost_end (results_none rfl _ _ _) rfl ⟨rfl, HC.out, H.out⟩
theorem fld_26 (h : Wr N P 81 (nR 26 a x d c s e t o (.slice ai li.length ci) (.slice az lz.length cz)) w l) (hl : l.length ≤ 1000) (f : FdH N P w ai az li lz a x d) :
    Calls Tryz.prog 42 #[.pointer (some ⟨P, 0, none⟩)] w (WrP N P 81 (nR 26 a x d c s e t o (.slice ai li.length ci) (.slice az lz.length cz)) w (l ++ txtL a 1 ++ txtL x 2)) := by
  have H := Lib.hid h
  have F := Lib.hid f
  have HL := Lib.hid hl
  have HC := Lib.hid (Ch.refl N P w)
  clear h f hl
  have HM := Lib.hid (box_new w #[.int .i64 26, .string a, .string x, .string d, .int .i64 c, .int .i64 s, .int .i64 e, .int .i64 t, .bool o, .slice ai li.length ci, .slice az lz.length cz] 25)
  have HMP : Hid (w.heap.size ≠ P) := Nat.ne_of_gt H.out.lt
  have HBW : Hid (Below w.heap.size w (w.alloc (.cells #[.int .i64 26, .string a, .string x, .string d, .int .i64 c, .int .i64 s, .int .i64 e, .int .i64 t, .bool o, .slice ai li.length ci, .slice az lz.length cz] 25))) := (Below.refl _ w).alloc (Nat.le_refl _) _
  obtain ⟨c1, c2, c3, c4, c5, c6, c7, c8, c9, c10, c11⟩ := H.out.cells
  obtain ⟨m0, m1, m2, m3, m4, m5, m6, m7, m8, m9, m10⟩ := bx11 HM.out
  go_enter Tryz.func42, Tryz.ntmps42
  go_wp2_with fail
  obtain ⟨wa, hwa⟩ : ∃ z, z = (w.alloc (.cells #[.int .i64 26, .string a, .string x, .string d, .int .i64 c, .int .i64 s, .int .i64 e, .int .i64 t, .bool o, .slice ai li.length ci, .slice az lz.length cz] 25)) := ⟨_, rfl⟩
  rw [← hwa] at HM HBW m0 m1 m2 m3 m4 m5 m6 m7 m8 m9 m10 ⊢
  clear hwa c1 c2 c3 c4 c5 c6 c7 c8 c9 c10 c11
  have H' := Lib.hid (H.out.below HBW.out)
  have HC' := Lib.hid (HC.out.below HBW.out)
  clear H HC HBW
  have H := H'
  have HC := HC'
  clear H' HC'
  generalize w.heap.size = M at HM HMP m0 m1 m2 m3 m4 m5 m6 m7 m8 m9 m10 ⊢
  clear m0 m2 m3 m4 m5 m6 m7 m8 m9 m10
  have x_m1 : ∀ y : Ext wa, y.to.cell? ⟨M, 1, none⟩ = some (.string a) := fun y => ext_cell y m1
  have hsome := extSome wa
  clear m1
  refine ext_tail 5 (by kernel_rfl) (by kernel_rfl) ?_
  simp only [List.take_succ_cons, List.take_zero, List.drop_succ_cons, List.drop_zero]
  repeat (go_big_quiet_step (fail))
  refine wpQuiet_nil ?_
  rintro _ ⟨y, hy⟩
  subst hy
  clear hsome x_m1
  have HY := Lib.hid y.below
  obtain ⟨w1, hwk⟩ : ∃ z, z = y.to := ⟨_, rfl⟩
  rw [← hwk] at HY ⊢
  clear hwk
  clear y
  have H' := Lib.hid (H.out.below HY.out)
  have HC' := Lib.hid (HC.out.below HY.out)
  clear H HC
  have H := H'
  have HC := HC'
  clear H' HC'
  replace HM := Lib.hid ((HY.out.block _ (heap_lt HM.out)).trans HM.out)
  clear HY
  go_wp2_with fail
  refine (wtext_any H.out nW_ne a 1 (by have := HL.out; have := F.out.ha; omega) H.out.room).mono ?_
  rintro e w2 ⟨rfl, hc, hw⟩
  replace HM := Lib.hid (hc.keep HM.out note_ne HMP.out)
  have HL' : Hid ((l ++ txtL a 1).length ≤ 1001004) := by have := ln_txt (l) a 1; have := HL.out; have := F.out.ha; show _ ≤ _; omega
  clear HL
  have HL := HL'
  clear HL'
  have HC' := Lib.hid (HC.out.trans hc)
  have H' := Lib.hid hw
  clear hc hw H HC
  have H := H'
  have HC := HC'
  clear H' HC'
  obtain ⟨m0, m1, m2, m3, m4, m5, m6, m7, m8, m9, m10⟩ := bx11 HM.out
  go_wp2_with fail
  clear m0 m1 m3 m4 m5 m6 m7 m8 m9 m10
  have x_m2 : ∀ y : Ext w2, y.to.cell? ⟨M, 2, none⟩ = some (.string x) := fun y => ext_cell y m2
  have hsome := extSome w2
  clear m2
  refine ext_tail 5 (by kernel_rfl) (by kernel_rfl) ?_
  simp only [List.take_succ_cons, List.take_zero, List.drop_succ_cons, List.drop_zero]
  repeat (go_big_quiet_step (fail))
  refine wpQuiet_nil ?_
  rintro _ ⟨y, hy⟩
  subst hy
  clear hsome x_m2
  have HY := Lib.hid y.below
  obtain ⟨w3, hwk⟩ : ∃ z, z = y.to := ⟨_, rfl⟩
  rw [← hwk] at HY ⊢
  clear hwk
  clear y
  have H' := Lib.hid (H.out.below HY.out)
  have HC' := Lib.hid (HC.out.below HY.out)
  clear H HC
  have H := H'
  have HC := HC'
  clear H' HC'
  replace HM := Lib.hid ((HY.out.block _ (heap_lt HM.out)).trans HM.out)
  clear HY
  go_wp2_with fail
  refine (wtext_any H.out nW_ne x 2 (by have := HL.out; have := F.out.hx; omega) H.out.room).mono ?_
  rintro e w4 ⟨rfl, hc, hw⟩
  replace HM := Lib.hid (hc.keep HM.out note_ne HMP.out)
  have HL' : Hid ((l ++ txtL a 1 ++ txtL x 2).length ≤ 2001008) := by have := ln_txt (l ++ txtL a 1) x 2; have := HL.out; have := F.out.hx; show _ ≤ _; omega
  clear HL
  have HL := HL'
  clear HL'
  have HC' := Lib.hid (HC.out.trans hc)
  have H' := Lib.hid hw
  clear hc hw H HC
  have H := H'
  have HC := HC'
  clear H' HC'
  go_wp2_with fail
  exact bodyPost_end (results_none rfl _ _ _) rfl ⟨rfl, HC.out, H.out⟩
theorem fld_27 (h : Wr N P 81 (nR 27 a x d c s e t o (.slice ai li.length ci) (.slice az lz.length cz)) w l) (hl : l.length ≤ 1000) (f : FdH N P w ai az li lz a x d) :
    Calls Tryz.prog 42 #[.pointer (some ⟨P, 0, none⟩)] w (WrP N P 81 (nR 27 a x d c s e t o (.slice ai li.length ci) (.slice az lz.length cz)) w (l ++ txtL a 1 ++ txtL x 2)) := by
  have H := Lib.hid h
  have F := Lib.hid f
  have HL := Lib.hid hl
  have HC := Lib.hid (Ch.refl N P w)
  clear h f hl
  have HM := Lib.hid (box_new w #[.int .i64 27, .string a, .string x, .string d, .int .i64 c, .int .i64 s, .int .i64 e, .int .i64 t, .bool o, .slice ai li.length ci, .slice az lz.length cz] 25)
  have HMP : Hid (w.heap.size ≠ P) := Nat.ne_of_gt H.out.lt
  have HBW : Hid (Below w.heap.size w (w.alloc (.cells #[.int .i64 27, .string a, .string x, .string d, .int .i64 c, .int .i64 s, .int .i64 e, .int .i64 t, .bool o, .slice ai li.length ci, .slice az lz.length cz] 25))) := (Below.refl _ w).alloc (Nat.le_refl _) _
  obtain ⟨c1, c2, c3, c4, c5, c6, c7, c8, c9, c10, c11⟩ := H.out.cells
  obtain ⟨m0, m1, m2, m3, m4, m5, m6, m7, m8, m9, m10⟩ := bx11 HM.out
  go_enter Tryz.func42, Tryz.ntmps42
  go_wp2_with fail
  obtain ⟨wa, hwa⟩ : ∃ z, z = (w.alloc (.cells #[.int .i64 27, .string a, .string x, .string d, .int .i64 c, .int .i64 s, .int .i64 e, .int .i64 t, .bool o, .slice ai li.length ci, .slice az lz.length cz] 25)) := ⟨_, rfl⟩
  rw [← hwa] at HM HBW m0 m1 m2 m3 m4 m5 m6 m7 m8 m9 m10 ⊢
  clear hwa c1 c2 c3 c4 c5 c6 c7 c8 c9 c10 c11
  have H' := Lib.hid (H.out.below HBW.out)
  have HC' := Lib.hid (HC.out.below HBW.out)
  clear H HC HBW
  have H := H'
  have HC := HC'
  clear H' HC'
  generalize w.heap.size = M at HM HMP m0 m1 m2 m3 m4 m5 m6 m7 m8 m9 m10 ⊢
  clear m0 m2 m3 m4 m5 m6 m7 m8 m9 m10
  have x_m1 : ∀ y : Ext wa, y.to.cell? ⟨M, 1, none⟩ = some (.string a) := fun y => ext_cell y m1
  have hsome := extSome wa
  clear m1
  refine ext_tail 5 (by kernel_rfl) (by kernel_rfl) ?_
  simp only [List.take_succ_cons, List.take_zero, List.drop_succ_cons, List.drop_zero]
  repeat (go_big_quiet_step (fail))
  refine wpQuiet_nil ?_
  rintro _ ⟨y, hy⟩
  subst hy
  clear hsome x_m1
  have HY := Lib.hid y.below
  obtain ⟨w1, hwk⟩ : ∃ z, z = y.to := ⟨_, rfl⟩
  rw [← hwk] at HY ⊢
  clear hwk
  clear y
  have H' := Lib.hid (H.out.below HY.out)
  have HC' := Lib.hid (HC.out.below HY.out)
  clear H HC
  have H := H'
  have HC := HC'
  clear H' HC'
  replace HM := Lib.hid ((HY.out.block _ (heap_lt HM.out)).trans HM.out)
  clear HY
  go_wp2_with fail
  refine (wtext_any H.out nW_ne a 1 (by have := HL.out; have := F.out.ha; omega) H.out.room).mono ?_
  rintro e w2 ⟨rfl, hc, hw⟩
  replace HM := Lib.hid (hc.keep HM.out note_ne HMP.out)
  have HL' : Hid ((l ++ txtL a 1).length ≤ 1001004) := by have := ln_txt (l) a 1; have := HL.out; have := F.out.ha; show _ ≤ _; omega
  clear HL
  have HL := HL'
  clear HL'
  have HC' := Lib.hid (HC.out.trans hc)
  have H' := Lib.hid hw
  clear hc hw H HC
  have H := H'
  have HC := HC'
  clear H' HC'
  obtain ⟨m0, m1, m2, m3, m4, m5, m6, m7, m8, m9, m10⟩ := bx11 HM.out
  go_wp2_with fail
  clear m0 m1 m3 m4 m5 m6 m7 m8 m9 m10
  have x_m2 : ∀ y : Ext w2, y.to.cell? ⟨M, 2, none⟩ = some (.string x) := fun y => ext_cell y m2
  have hsome := extSome w2
  clear m2
  refine ext_tail 5 (by kernel_rfl) (by kernel_rfl) ?_
  simp only [List.take_succ_cons, List.take_zero, List.drop_succ_cons, List.drop_zero]
  repeat (go_big_quiet_step (fail))
  refine wpQuiet_nil ?_
  rintro _ ⟨y, hy⟩
  subst hy
  clear hsome x_m2
  have HY := Lib.hid y.below
  obtain ⟨w3, hwk⟩ : ∃ z, z = y.to := ⟨_, rfl⟩
  rw [← hwk] at HY ⊢
  clear hwk
  clear y
  have H' := Lib.hid (H.out.below HY.out)
  have HC' := Lib.hid (HC.out.below HY.out)
  clear H HC
  have H := H'
  have HC := HC'
  clear H' HC'
  replace HM := Lib.hid ((HY.out.block _ (heap_lt HM.out)).trans HM.out)
  clear HY
  go_wp2_with fail
  refine (wtext_any H.out nW_ne x 2 (by have := HL.out; have := F.out.hx; omega) H.out.room).mono ?_
  rintro e w4 ⟨rfl, hc, hw⟩
  replace HM := Lib.hid (hc.keep HM.out note_ne HMP.out)
  have HL' : Hid ((l ++ txtL a 1 ++ txtL x 2).length ≤ 2001008) := by have := ln_txt (l ++ txtL a 1) x 2; have := HL.out; have := F.out.hx; show _ ≤ _; omega
  clear HL
  have HL := HL'
  clear HL'
  have HC' := Lib.hid (HC.out.trans hc)
  have H' := Lib.hid hw
  clear hc hw H HC
  have H := H'
  have HC := HC'
  clear H' HC'
  go_wp2_with fail
  exact bodyPost_end (results_none rfl _ _ _) rfl ⟨rfl, HC.out, H.out⟩
theorem fld_28_true (h : Wr N P 81 (nR 28 a x d c s e t true (.slice ai li.length ci) (.slice az lz.length cz)) w l) (hl : l.length ≤ 1000) (f : FdH N P w ai az li lz a x d) :
    Calls Tryz.prog 42 #[.pointer (some ⟨P, 0, none⟩)] w (WrP N P 81 (nR 28 a x d c s e t true (.slice ai li.length ci) (.slice az lz.length cz)) w (l ++ txtL a 1 ++ numL' 1 1 ++ txtL x 2)) := by
  have H := Lib.hid h
  have F := Lib.hid f
  have HL := Lib.hid hl
  have HC := Lib.hid (Ch.refl N P w)
  clear h f hl
  have HM := Lib.hid (box_new w #[.int .i64 28, .string a, .string x, .string d, .int .i64 c, .int .i64 s, .int .i64 e, .int .i64 t, .bool true, .slice ai li.length ci, .slice az lz.length cz] 25)
  have HMP : Hid (w.heap.size ≠ P) := Nat.ne_of_gt H.out.lt
  have HBW : Hid (Below w.heap.size w (w.alloc (.cells #[.int .i64 28, .string a, .string x, .string d, .int .i64 c, .int .i64 s, .int .i64 e, .int .i64 t, .bool true, .slice ai li.length ci, .slice az lz.length cz] 25))) := (Below.refl _ w).alloc (Nat.le_refl _) _
  obtain ⟨c1, c2, c3, c4, c5, c6, c7, c8, c9, c10, c11⟩ := H.out.cells
  have mX := bx11 HM.out
  go_enter Tryz.func42, Tryz.ntmps42
  go_wp2_with fail
  obtain ⟨wa, hwa⟩ : ∃ z, z = (w.alloc (.cells #[.int .i64 28, .string a, .string x, .string d, .int .i64 c, .int .i64 s, .int .i64 e, .int .i64 t, .bool true, .slice ai li.length ci, .slice az lz.length cz] 25)) := ⟨_, rfl⟩
  rw [← hwa] at HM HBW mX ⊢
  clear hwa c1 c2 c3 c4 c5 c6 c7 c8 c9 c10 c11
  have H' := Lib.hid (H.out.below HBW.out)
  have HC' := Lib.hid (HC.out.below HBW.out)
  clear H HC HBW
  have H := H'
  have HC := HC'
  clear H' HC'
  generalize w.heap.size = M at HM HMP mX ⊢
  clear mX
  refine (grant_true H.out (by have := HL.out; omega) F.out.ha F.out.hx).mono ?_
  rintro e w1 ⟨rfl, hc, hw⟩
  replace HM := Lib.hid (hc.keep HM.out note_ne HMP.out)
  clear HL
  have HC' := Lib.hid (HC.out.trans hc)
  have H' := Lib.hid hw
  clear hc hw H HC
  have H := H'
  have HC := HC'
  clear H' HC'
  go_wp2_with fail
  exact bodyPost_end (results_none rfl _ _ _) rfl ⟨rfl, HC.out, H.out⟩
theorem fld_28_false (h : Wr N P 81 (nR 28 a x d c s e t false (.slice ai li.length ci) (.slice az lz.length cz)) w l) (hl : l.length ≤ 1000) (f : FdH N P w ai az li lz a x d) :
    Calls Tryz.prog 42 #[.pointer (some ⟨P, 0, none⟩)] w (WrP N P 81 (nR 28 a x d c s e t false (.slice ai li.length ci) (.slice az lz.length cz)) w (l ++ txtL a 1 ++ numL' 0 1 ++ txtL x 2)) := by
  have H := Lib.hid h
  have F := Lib.hid f
  have HL := Lib.hid hl
  have HC := Lib.hid (Ch.refl N P w)
  clear h f hl
  have HM := Lib.hid (box_new w #[.int .i64 28, .string a, .string x, .string d, .int .i64 c, .int .i64 s, .int .i64 e, .int .i64 t, .bool false, .slice ai li.length ci, .slice az lz.length cz] 25)
  have HMP : Hid (w.heap.size ≠ P) := Nat.ne_of_gt H.out.lt
  have HBW : Hid (Below w.heap.size w (w.alloc (.cells #[.int .i64 28, .string a, .string x, .string d, .int .i64 c, .int .i64 s, .int .i64 e, .int .i64 t, .bool false, .slice ai li.length ci, .slice az lz.length cz] 25))) := (Below.refl _ w).alloc (Nat.le_refl _) _
  obtain ⟨c1, c2, c3, c4, c5, c6, c7, c8, c9, c10, c11⟩ := H.out.cells
  have mX := bx11 HM.out
  go_enter Tryz.func42, Tryz.ntmps42
  go_wp2_with fail
  obtain ⟨wa, hwa⟩ : ∃ z, z = (w.alloc (.cells #[.int .i64 28, .string a, .string x, .string d, .int .i64 c, .int .i64 s, .int .i64 e, .int .i64 t, .bool false, .slice ai li.length ci, .slice az lz.length cz] 25)) := ⟨_, rfl⟩
  rw [← hwa] at HM HBW mX ⊢
  clear hwa c1 c2 c3 c4 c5 c6 c7 c8 c9 c10 c11
  have H' := Lib.hid (H.out.below HBW.out)
  have HC' := Lib.hid (HC.out.below HBW.out)
  clear H HC HBW
  have H := H'
  have HC := HC'
  clear H' HC'
  generalize w.heap.size = M at HM HMP mX ⊢
  clear mX
  refine (grant_false H.out (by have := HL.out; omega) F.out.ha F.out.hx).mono ?_
  rintro e w1 ⟨rfl, hc, hw⟩
  replace HM := Lib.hid (hc.keep HM.out note_ne HMP.out)
  clear HL
  have HC' := Lib.hid (HC.out.trans hc)
  have H' := Lib.hid hw
  clear hc hw H HC
  have H := H'
  have HC := HC'
  clear H' HC'
  go_wp2_with fail
  exact bodyPost_end (results_none rfl _ _ _) rfl ⟨rfl, HC.out, H.out⟩
theorem fld_29_true (h : Wr N P 81 (nR 29 a x d c s e t true (.slice ai li.length ci) (.slice az lz.length cz)) w l) (hl : l.length ≤ 1000) (f : FdH N P w ai az li lz a x d) :
    Calls Tryz.prog 42 #[.pointer (some ⟨P, 0, none⟩)] w (WrP N P 81 (nR 29 a x d c s e t true (.slice ai li.length ci) (.slice az lz.length cz)) w (l ++ txtL a 1 ++ numL' 1 1 ++ txtL x 2)) := by
  have H := Lib.hid h
  have F := Lib.hid f
  have HL := Lib.hid hl
  have HC := Lib.hid (Ch.refl N P w)
  clear h f hl
  have HM := Lib.hid (box_new w #[.int .i64 29, .string a, .string x, .string d, .int .i64 c, .int .i64 s, .int .i64 e, .int .i64 t, .bool true, .slice ai li.length ci, .slice az lz.length cz] 25)
  have HMP : Hid (w.heap.size ≠ P) := Nat.ne_of_gt H.out.lt
  have HBW : Hid (Below w.heap.size w (w.alloc (.cells #[.int .i64 29, .string a, .string x, .string d, .int .i64 c, .int .i64 s, .int .i64 e, .int .i64 t, .bool true, .slice ai li.length ci, .slice az lz.length cz] 25))) := (Below.refl _ w).alloc (Nat.le_refl _) _
  obtain ⟨c1, c2, c3, c4, c5, c6, c7, c8, c9, c10, c11⟩ := H.out.cells
  have mX := bx11 HM.out
  go_enter Tryz.func42, Tryz.ntmps42
  go_wp2_with fail
  obtain ⟨wa, hwa⟩ : ∃ z, z = (w.alloc (.cells #[.int .i64 29, .string a, .string x, .string d, .int .i64 c, .int .i64 s, .int .i64 e, .int .i64 t, .bool true, .slice ai li.length ci, .slice az lz.length cz] 25)) := ⟨_, rfl⟩
  rw [← hwa] at HM HBW mX ⊢
  clear hwa c1 c2 c3 c4 c5 c6 c7 c8 c9 c10 c11
  have H' := Lib.hid (H.out.below HBW.out)
  have HC' := Lib.hid (HC.out.below HBW.out)
  clear H HC HBW
  have H := H'
  have HC := HC'
  clear H' HC'
  generalize w.heap.size = M at HM HMP mX ⊢
  clear mX
  refine (grant_true H.out (by have := HL.out; omega) F.out.ha F.out.hx).mono ?_
  rintro e w1 ⟨rfl, hc, hw⟩
  replace HM := Lib.hid (hc.keep HM.out note_ne HMP.out)
  clear HL
  have HC' := Lib.hid (HC.out.trans hc)
  have H' := Lib.hid hw
  clear hc hw H HC
  have H := H'
  have HC := HC'
  clear H' HC'
  go_wp2_with fail
  exact bodyPost_end (results_none rfl _ _ _) rfl ⟨rfl, HC.out, H.out⟩
theorem fld_29_false (h : Wr N P 81 (nR 29 a x d c s e t false (.slice ai li.length ci) (.slice az lz.length cz)) w l) (hl : l.length ≤ 1000) (f : FdH N P w ai az li lz a x d) :
    Calls Tryz.prog 42 #[.pointer (some ⟨P, 0, none⟩)] w (WrP N P 81 (nR 29 a x d c s e t false (.slice ai li.length ci) (.slice az lz.length cz)) w (l ++ txtL a 1 ++ numL' 0 1 ++ txtL x 2)) := by
  have H := Lib.hid h
  have F := Lib.hid f
  have HL := Lib.hid hl
  have HC := Lib.hid (Ch.refl N P w)
  clear h f hl
  have HM := Lib.hid (box_new w #[.int .i64 29, .string a, .string x, .string d, .int .i64 c, .int .i64 s, .int .i64 e, .int .i64 t, .bool false, .slice ai li.length ci, .slice az lz.length cz] 25)
  have HMP : Hid (w.heap.size ≠ P) := Nat.ne_of_gt H.out.lt
  have HBW : Hid (Below w.heap.size w (w.alloc (.cells #[.int .i64 29, .string a, .string x, .string d, .int .i64 c, .int .i64 s, .int .i64 e, .int .i64 t, .bool false, .slice ai li.length ci, .slice az lz.length cz] 25))) := (Below.refl _ w).alloc (Nat.le_refl _) _
  obtain ⟨c1, c2, c3, c4, c5, c6, c7, c8, c9, c10, c11⟩ := H.out.cells
  have mX := bx11 HM.out
  go_enter Tryz.func42, Tryz.ntmps42
  go_wp2_with fail
  obtain ⟨wa, hwa⟩ : ∃ z, z = (w.alloc (.cells #[.int .i64 29, .string a, .string x, .string d, .int .i64 c, .int .i64 s, .int .i64 e, .int .i64 t, .bool false, .slice ai li.length ci, .slice az lz.length cz] 25)) := ⟨_, rfl⟩
  rw [← hwa] at HM HBW mX ⊢
  clear hwa c1 c2 c3 c4 c5 c6 c7 c8 c9 c10 c11
  have H' := Lib.hid (H.out.below HBW.out)
  have HC' := Lib.hid (HC.out.below HBW.out)
  clear H HC HBW
  have H := H'
  have HC := HC'
  clear H' HC'
  generalize w.heap.size = M at HM HMP mX ⊢
  clear mX
  refine (grant_false H.out (by have := HL.out; omega) F.out.ha F.out.hx).mono ?_
  rintro e w1 ⟨rfl, hc, hw⟩
  replace HM := Lib.hid (hc.keep HM.out note_ne HMP.out)
  clear HL
  have HC' := Lib.hid (HC.out.trans hc)
  have H' := Lib.hid hw
  clear hc hw H HC
  have H := H'
  have HC := HC'
  clear H' HC'
  go_wp2_with fail
  exact bodyPost_end (results_none rfl _ _ _) rfl ⟨rfl, HC.out, H.out⟩
theorem fld_no (h : Wr N P 81 (nR k a x d c s e t o (.slice ai li.length ci) (.slice az lz.length cz)) w l) (q1 : ((k : Int) == 1) = false) (q2 : ((k : Int) == 2) = false) (q3 : ((k : Int) == 3) = false) (q5 : ((k : Int) == 5) = false) (q6 : ((k : Int) == 6) = false) (q7 : ((k : Int) == 7) = false) (q8 : ((k : Int) == 8) = false) (q11 : ((k : Int) == 11) = false) (q12 : ((k : Int) == 12) = false) (q13 : ((k : Int) == 13) = false) (q14 : ((k : Int) == 14) = false) (q15 : ((k : Int) == 15) = false) (q16 : ((k : Int) == 16) = false) (q17 : ((k : Int) == 17) = false) (q19 : ((k : Int) == 19) = false) (q18 : ((k : Int) == 18) = false) (q20 : ((k : Int) == 20) = false) (q21 : ((k : Int) == 21) = false) (q22 : ((k : Int) == 22) = false) (q25 : ((k : Int) == 25) = false) (q26 : ((k : Int) == 26) = false) (q27 : ((k : Int) == 27) = false) (q28 : ((k : Int) == 28) = false) (q29 : ((k : Int) == 29) = false) :
    Calls Tryz.prog 42 #[.pointer (some ⟨P, 0, none⟩)] w (WrP N P 81 (nR k a x d c s e t o (.slice ai li.length ci) (.slice az lz.length cz)) w l) := by
  have H := Lib.hid h
  clear h
  obtain ⟨HM, HBW⟩ := bxOne w #[.int .i64 k, .string a, .string x, .string d, .int .i64 c, .int .i64 s, .int .i64 e, .int .i64 t, .bool o, .slice ai li.length ci, .slice az lz.length cz] 25
  obtain ⟨c1, c2, c3, c4, c5, c6, c7, c8, c9, c10, c11⟩ := H.out.cells
  obtain ⟨m0, -⟩ := bx11 HM.out
  go_enter Tryz.func42, Tryz.ntmps42
  go_wp2_with fail
  exact bodyPost_end (results_none rfl _ _ _) rfl ⟨rfl, (Ch.refl N P w).below HBW.out, H.out.below HBW.out⟩
end
end Go.Proofs.YtiodjaeonoheiaaGreatDoor.T
