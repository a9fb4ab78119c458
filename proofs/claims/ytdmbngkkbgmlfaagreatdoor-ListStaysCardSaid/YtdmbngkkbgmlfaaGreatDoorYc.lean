/- Contracts: isLet, hold, Check of package legacy, whatever the note. Conditions: those of each theorem's head. -/
import Derived.Test.YtdmbngkkbgmlfaaGreatDoorYb
namespace Go.Proofs.YtdmbngkkbgmlfaaGreatDoor.T
open Go.RowKit Go.Lib

set_option maxRecDepth 100000 in
set_option maxHeartbeats 8000000 in
theorem let_0 (n : Nt) (ai az : Option Addr) (ci cz : Nat) (w : World) : Calls Tryz.prog 39 #[.agg #[.int .i64 n.k, .string n.n, .string n.x, .string ⟨#[]⟩, .int .i64 0, .int .i64 n.s, .int .i64 n.e, .int .i64 n.t, .bool n.o, .slice ai n.l.length ci, .slice az n.z.length cz]] w (Gives (.bool false) w) := by
  have HX := Lib.hid (box_new w #[.int .i64 n.k, .string n.n, .string n.x, .string ⟨#[]⟩, .int .i64 0, .int .i64 n.s, .int .i64 n.e, .int .i64 n.t, .bool n.o, .slice ai n.l.length ci, .slice az n.z.length cz] 46)
  have HB0 : Hid (Below w.heap.size w (w.alloc (.cells #[.int .i64 n.k, .string n.n, .string n.x, .string ⟨#[]⟩, .int .i64 0, .int .i64 n.s, .int .i64 n.e, .int .i64 n.t, .bool n.o, .slice ai n.l.length ci, .slice az n.z.length cz] 46))) := (Below.refl _ w).alloc (Nat.le_refl _) _
  obtain ⟨m0, m1, m2, m3, m4, m5, m6, m7, m8, m9, m10⟩ := bx11 HX.out
  go_enter Tryz.func39, Tryz.ntmps39
  go_wp2_with fail
  go_ret
  exact ⟨rfl, HB0.out⟩
set_option maxRecDepth 100000 in
set_option maxHeartbeats 8000000 in
theorem let_1 (n : Nt) (ai az : Option Addr) (ci cz : Nat) (c : Int) (w : World) (hc : ¬ c = 0) : Calls Tryz.prog 39 #[.agg #[.int .i64 n.k, .string n.n, .string n.x, .string ⟨#[]⟩, .int .i64 c, .int .i64 n.s, .int .i64 n.e, .int .i64 n.t, .bool n.o, .slice ai n.l.length ci, .slice az n.z.length cz]] w (Gives (.bool true) w) := by
  have q1 : (c != 0) = true := by simpa using hc
  clear hc
  have HX := Lib.hid (box_new w #[.int .i64 n.k, .string n.n, .string n.x, .string ⟨#[]⟩, .int .i64 c, .int .i64 n.s, .int .i64 n.e, .int .i64 n.t, .bool n.o, .slice ai n.l.length ci, .slice az n.z.length cz] 46)
  have HB0 : Hid (Below w.heap.size w (w.alloc (.cells #[.int .i64 n.k, .string n.n, .string n.x, .string ⟨#[]⟩, .int .i64 c, .int .i64 n.s, .int .i64 n.e, .int .i64 n.t, .bool n.o, .slice ai n.l.length ci, .slice az n.z.length cz] 46))) := (Below.refl _ w).alloc (Nat.le_refl _) _
  obtain ⟨m0, m1, m2, m3, m4, m5, m6, m7, m8, m9, m10⟩ := bx11 HX.out
  go_enter Tryz.func39, Tryz.ntmps39
  go_wp2_with fail
  go_ret
  exact ⟨rfl, HB0.out⟩
set_option maxRecDepth 100000 in
set_option maxHeartbeats 8000000 in
theorem let_2 (n : Nt) (ai az : Option Addr) (ci cz : Nat) (d : ByteArray) (w : World) (hd : ¬ d.size = 0) : Calls Tryz.prog 39 #[.agg #[.int .i64 n.k, .string n.n, .string n.x, .string d, .int .i64 0, .int .i64 n.s, .int .i64 n.e, .int .i64 n.t, .bool n.o, .slice ai n.l.length ci, .slice az n.z.length cz]] w (Gives (.bool true) w) := by
  have hne := By.nonempty hd
  clear hd
  have HX := Lib.hid (box_new w #[.int .i64 n.k, .string n.n, .string n.x, .string d, .int .i64 0, .int .i64 n.s, .int .i64 n.e, .int .i64 n.t, .bool n.o, .slice ai n.l.length ci, .slice az n.z.length cz] 46)
  have HB0 : Hid (Below w.heap.size w (w.alloc (.cells #[.int .i64 n.k, .string n.n, .string n.x, .string d, .int .i64 0, .int .i64 n.s, .int .i64 n.e, .int .i64 n.t, .bool n.o, .slice ai n.l.length ci, .slice az n.z.length cz] 46))) := (Below.refl _ w).alloc (Nat.le_refl _) _
  obtain ⟨m0, m1, m2, m3, m4, m5, m6, m7, m8, m9, m10⟩ := bx11 HX.out
  go_enter Tryz.func39, Tryz.ntmps39
  go_wp2_with fail
  go_ret
  exact ⟨rfl, HB0.out⟩
set_option maxRecDepth 100000 in
set_option maxHeartbeats 8000000 in
theorem let_3 (n : Nt) (ai az : Option Addr) (ci cz : Nat) (d : ByteArray) (c : Int) (w : World) (hd : ¬ d.size = 0) (hc : ¬ c = 0) : Calls Tryz.prog 39 #[.agg #[.int .i64 n.k, .string n.n, .string n.x, .string d, .int .i64 c, .int .i64 n.s, .int .i64 n.e, .int .i64 n.t, .bool n.o, .slice ai n.l.length ci, .slice az n.z.length cz]] w (Gives (.bool false) w) := by
  have hne := By.nonempty hd
  clear hd
  have q1 : (c != 0) = true := by simpa using hc
  clear hc
  have HX := Lib.hid (box_new w #[.int .i64 n.k, .string n.n, .string n.x, .string d, .int .i64 c, .int .i64 n.s, .int .i64 n.e, .int .i64 n.t, .bool n.o, .slice ai n.l.length ci, .slice az n.z.length cz] 46)
  have HB0 : Hid (Below w.heap.size w (w.alloc (.cells #[.int .i64 n.k, .string n.n, .string n.x, .string d, .int .i64 c, .int .i64 n.s, .int .i64 n.e, .int .i64 n.t, .bool n.o, .slice ai n.l.length ci, .slice az n.z.length cz] 46))) := (Below.refl _ w).alloc (Nat.le_refl _) _
  obtain ⟨m0, m1, m2, m3, m4, m5, m6, m7, m8, m9, m10⟩ := bx11 HX.out
  go_enter Tryz.func39, Tryz.ntmps39
  go_wp2_with fail
  go_ret
  exact ⟨rfl, HB0.out⟩
theorem isLet_any (n : Nt) (ai az : Option Addr) (ci cz : Nat) (w : World) : Calls Tryz.prog 39 #[nA n ai az ci cz] w (Gives (.bool (letB n)) w) := by
  unfold letB nA
  by_cases hd : n.d.size = 0
  · have e := By.empty_of hd
    by_cases hc : n.c = 0
    · rw [e, hc]
      exact let_0 n ai az ci cz w
    · rw [decide_eq_false (by simpa using hd), decide_eq_true hc, e]
      exact let_1 n ai az ci cz n.c w hc
  · by_cases hc : n.c = 0
    · rw [decide_eq_true hd, hc]
      exact let_2 n ai az ci cz n.d w hd
    · rw [decide_eq_true hd, decide_eq_true hc]
      exact let_3 n ai az ci cz n.d n.c w hd hc
theorem xc_pureY {w : World} {f : FuncId} {args : Array Value} {v : Value} (h : ∀ x : Ext w, Calls Tryz.prog f args x.to (Pure v x.to)) : Xc w f args v := fun x => (h x).mono fun _ _ ⟨he, hw⟩ => ⟨he, by rw [hw]; exact Below.refl _ _⟩
set_option maxRecDepth 100000 in
set_option maxHeartbeats 8000000 in
theorem hold_1 (b : Bn) (n : Nt) (ai az : Option Addr) (ci cz : Nat) (w : World) (h : NtL w ai az n) (h1 : (nmB n.n b.nm) = false) : Calls Tryz.prog 38 #[.agg #[.bool b.nm, .int .i64 b.tx, .int .i64 b.fd, .int .i64 b.d, .int .i64 b.c, .int .i64 b.s, .int .i64 b.e, .int .i64 b.t, .bool b.o, .int .i64 b.fi, .int .i64 b.i, .int .i64 b.fz, .int .i64 b.z], .agg #[.int .i64 n.k, .string n.n, .string n.x, .string n.d, .int .i64 n.c, .int .i64 n.s, .int .i64 n.e, .int .i64 n.t, .bool n.o, .slice ai n.l.length ci, .slice az n.z.length cz]] w (Gives (.bool false) w) := by
  have HB0 : Hid (Below w.heap.size w ((w.alloc (.cells #[.bool b.nm, .int .i64 b.tx, .int .i64 b.fd, .int .i64 b.d, .int .i64 b.c, .int .i64 b.s, .int .i64 b.e, .int .i64 b.t, .bool b.o, .int .i64 b.fi, .int .i64 b.i, .int .i64 b.fz, .int .i64 b.z] 74)).alloc (.cells #[.int .i64 n.k, .string n.n, .string n.x, .string n.d, .int .i64 n.c, .int .i64 n.s, .int .i64 n.e, .int .i64 n.t, .bool n.o, .slice ai n.l.length ci, .slice az n.z.length cz] 46))) := ((Below.refl _ w).alloc (Nat.le_refl _) _).alloc (by simp) _
  have HBo : Hid (((w.alloc (.cells #[.bool b.nm, .int .i64 b.tx, .int .i64 b.fd, .int .i64 b.d, .int .i64 b.c, .int .i64 b.s, .int .i64 b.e, .int .i64 b.t, .bool b.o, .int .i64 b.fi, .int .i64 b.i, .int .i64 b.fz, .int .i64 b.z] 74)).alloc (.cells #[.int .i64 n.k, .string n.n, .string n.x, .string n.d, .int .i64 n.c, .int .i64 n.s, .int .i64 n.e, .int .i64 n.t, .bool n.o, .slice ai n.l.length ci, .slice az n.z.length cz] 46)).heap[w.heap.size]? = some (.cells #[.bool b.nm, .int .i64 b.tx, .int .i64 b.fd, .int .i64 b.d, .int .i64 b.c, .int .i64 b.s, .int .i64 b.e, .int .i64 b.t, .bool b.o, .int .i64 b.fi, .int .i64 b.i, .int .i64 b.fz, .int .i64 b.z] 74 (0, 0))) := (Below.heap_alloc (w.alloc (.cells #[.bool b.nm, .int .i64 b.tx, .int .i64 b.fd, .int .i64 b.d, .int .i64 b.c, .int .i64 b.s, .int .i64 b.e, .int .i64 b.t, .bool b.o, .int .i64 b.fi, .int .i64 b.i, .int .i64 b.fz, .int .i64 b.z] 74)) _ _ (by simp)).trans (box_new w _ _)
  have HNo : Hid (((w.alloc (.cells #[.bool b.nm, .int .i64 b.tx, .int .i64 b.fd, .int .i64 b.d, .int .i64 b.c, .int .i64 b.s, .int .i64 b.e, .int .i64 b.t, .bool b.o, .int .i64 b.fi, .int .i64 b.i, .int .i64 b.fz, .int .i64 b.z] 74)).alloc (.cells #[.int .i64 n.k, .string n.n, .string n.x, .string n.d, .int .i64 n.c, .int .i64 n.s, .int .i64 n.e, .int .i64 n.t, .bool n.o, .slice ai n.l.length ci, .slice az n.z.length cz] 46)).heap[w.heap.size + 1]? = some (.cells #[.int .i64 n.k, .string n.n, .string n.x, .string n.d, .int .i64 n.c, .int .i64 n.s, .int .i64 n.e, .int .i64 n.t, .bool n.o, .slice ai n.l.length ci, .slice az n.z.length cz] 46 (0, 0))) := by
    have := box_new (w.alloc (.cells #[.bool b.nm, .int .i64 b.tx, .int .i64 b.fd, .int .i64 b.d, .int .i64 b.c, .int .i64 b.s, .int .i64 b.e, .int .i64 b.t, .bool b.o, .int .i64 b.fi, .int .i64 b.i, .int .i64 b.fz, .int .i64 b.z] 74)) #[.int .i64 n.k, .string n.n, .string n.x, .string n.d, .int .i64 n.c, .int .i64 n.s, .int .i64 n.e, .int .i64 n.t, .bool n.o, .slice ai n.l.length ci, .slice az n.z.length cz] 46
    show _ = _
    simpa using this
  have X1 : Hid (Xc ((w.alloc (.cells #[.bool b.nm, .int .i64 b.tx, .int .i64 b.fd, .int .i64 b.d, .int .i64 b.c, .int .i64 b.s, .int .i64 b.e, .int .i64 b.t, .bool b.o, .int .i64 b.fi, .int .i64 b.i, .int .i64 b.fz, .int .i64 b.z] 74)).alloc (.cells #[.int .i64 n.k, .string n.n, .string n.x, .string n.d, .int .i64 n.c, .int .i64 n.s, .int .i64 n.e, .int .i64 n.t, .bool n.o, .slice ai n.l.length ci, .slice az n.z.length cz] 46)) 56 #[.string n.n, .bool b.nm] (.bool false)) := fun y => by have := isName_any n.n b.nm y.to (Nat.le_trans h.hn (by decide)); rw [h1] at this; exact this
  clear h h1
  obtain ⟨b0, b1, b2, b3, b4, b5, b6, b7, b8, b9, b10, b11, b12⟩ := bx13 HBo.out
  obtain ⟨m0, m1, m2, m3, m4, m5, m6, m7, m8, m9, m10⟩ := bx11 HNo.out
  go_enter Tryz.func38, Tryz.ntmps38
  go_upto_region 1 with fail
  generalize ((w.alloc (.cells #[.bool b.nm, .int .i64 b.tx, .int .i64 b.fd, .int .i64 b.d, .int .i64 b.c, .int .i64 b.s, .int .i64 b.e, .int .i64 b.t, .bool b.o, .int .i64 b.fi, .int .i64 b.i, .int .i64 b.fz, .int .i64 b.z] 74)).alloc (.cells #[.int .i64 n.k, .string n.n, .string n.x, .string n.d, .int .i64 n.c, .int .i64 n.s, .int .i64 n.e, .int .i64 n.t, .bool n.o, .slice ai n.l.length ci, .slice az n.z.length cz] 46)) = W at HB0 HBo HNo X1 b0 b1 b2 b3 b4 b5 b6 b7 b8 b9 b10 b11 b12 m0 m1 m2 m3 m4 m5 m6 m7 m8 m9 m10 ⊢
  have xb0 : ∀ y : Ext W, y.to.cell? _ = _ := fun y => ext_cell y b0
  have xb1 : ∀ y : Ext W, y.to.cell? _ = _ := fun y => ext_cell y b1
  have xb2 : ∀ y : Ext W, y.to.cell? _ = _ := fun y => ext_cell y b2
  have xb3 : ∀ y : Ext W, y.to.cell? _ = _ := fun y => ext_cell y b3
  have xb4 : ∀ y : Ext W, y.to.cell? _ = _ := fun y => ext_cell y b4
  have xb5 : ∀ y : Ext W, y.to.cell? _ = _ := fun y => ext_cell y b5
  have xb6 : ∀ y : Ext W, y.to.cell? _ = _ := fun y => ext_cell y b6
  have xb7 : ∀ y : Ext W, y.to.cell? _ = _ := fun y => ext_cell y b7
  have xb8 : ∀ y : Ext W, y.to.cell? _ = _ := fun y => ext_cell y b8
  have xb9 : ∀ y : Ext W, y.to.cell? _ = _ := fun y => ext_cell y b9
  have xb10 : ∀ y : Ext W, y.to.cell? _ = _ := fun y => ext_cell y b10
  have xb11 : ∀ y : Ext W, y.to.cell? _ = _ := fun y => ext_cell y b11
  have xb12 : ∀ y : Ext W, y.to.cell? _ = _ := fun y => ext_cell y b12
  have xm0 : ∀ y : Ext W, y.to.cell? _ = _ := fun y => ext_cell y m0
  have xm1 : ∀ y : Ext W, y.to.cell? _ = _ := fun y => ext_cell y m1
  have xm2 : ∀ y : Ext W, y.to.cell? _ = _ := fun y => ext_cell y m2
  have xm3 : ∀ y : Ext W, y.to.cell? _ = _ := fun y => ext_cell y m3
  have xm4 : ∀ y : Ext W, y.to.cell? _ = _ := fun y => ext_cell y m4
  have xm5 : ∀ y : Ext W, y.to.cell? _ = _ := fun y => ext_cell y m5
  have xm6 : ∀ y : Ext W, y.to.cell? _ = _ := fun y => ext_cell y m6
  have xm7 : ∀ y : Ext W, y.to.cell? _ = _ := fun y => ext_cell y m7
  have xm8 : ∀ y : Ext W, y.to.cell? _ = _ := fun y => ext_cell y m8
  have xm9 : ∀ y : Ext W, y.to.cell? _ = _ := fun y => ext_cell y m9
  have xm10 : ∀ y : Ext W, y.to.cell? _ = _ := fun y => ext_cell y m10
  have hsome := extSome W
  clear HBo HNo b0 b1 b2 b3 b4 b5 b6 b7 b8 b9 b10 b11 b12 m0 m1 m2 m3 m4 m5 m6 m7 m8 m9 m10
  refine plain_quiet ?_
  dsimp only [List.append]
  repeat (go_big_quiet_step ((first | (go_at_call 56; with_reducible exact ext_call _ (X1.out _)))))
  refine wpQuiet_nil ?_
  rintro _ ⟨y, hy⟩
  subst hy
  have HB1 := Lib.hid (HB0.out.trans (y.below.mono HB0.out.size))
  clear xb0 xb1 xb2 xb3 xb4 xb5 xb6 xb7 xb8 xb9 xb10 xb11 xb12 xm0 xm1 xm2 xm3 xm4 xm5 xm6 xm7 xm8 xm9 xm10
  go_wp2_with fail
  go_ret
  exact ⟨rfl, HB1.out⟩
set_option maxRecDepth 100000 in
set_option maxHeartbeats 8000000 in
theorem hold_2 (b : Bn) (n : Nt) (ai az : Option Addr) (ci cz : Nat) (w : World) (h : NtL w ai az n) (h1 : (nmB n.n b.nm) = true) (h2 : (txB n.x b.tx) = false) : Calls Tryz.prog 38 #[.agg #[.bool b.nm, .int .i64 b.tx, .int .i64 b.fd, .int .i64 b.d, .int .i64 b.c, .int .i64 b.s, .int .i64 b.e, .int .i64 b.t, .bool b.o, .int .i64 b.fi, .int .i64 b.i, .int .i64 b.fz, .int .i64 b.z], .agg #[.int .i64 n.k, .string n.n, .string n.x, .string n.d, .int .i64 n.c, .int .i64 n.s, .int .i64 n.e, .int .i64 n.t, .bool n.o, .slice ai n.l.length ci, .slice az n.z.length cz]] w (Gives (.bool false) w) := by
  have HB0 : Hid (Below w.heap.size w ((w.alloc (.cells #[.bool b.nm, .int .i64 b.tx, .int .i64 b.fd, .int .i64 b.d, .int .i64 b.c, .int .i64 b.s, .int .i64 b.e, .int .i64 b.t, .bool b.o, .int .i64 b.fi, .int .i64 b.i, .int .i64 b.fz, .int .i64 b.z] 74)).alloc (.cells #[.int .i64 n.k, .string n.n, .string n.x, .string n.d, .int .i64 n.c, .int .i64 n.s, .int .i64 n.e, .int .i64 n.t, .bool n.o, .slice ai n.l.length ci, .slice az n.z.length cz] 46))) := ((Below.refl _ w).alloc (Nat.le_refl _) _).alloc (by simp) _
  have HBo : Hid (((w.alloc (.cells #[.bool b.nm, .int .i64 b.tx, .int .i64 b.fd, .int .i64 b.d, .int .i64 b.c, .int .i64 b.s, .int .i64 b.e, .int .i64 b.t, .bool b.o, .int .i64 b.fi, .int .i64 b.i, .int .i64 b.fz, .int .i64 b.z] 74)).alloc (.cells #[.int .i64 n.k, .string n.n, .string n.x, .string n.d, .int .i64 n.c, .int .i64 n.s, .int .i64 n.e, .int .i64 n.t, .bool n.o, .slice ai n.l.length ci, .slice az n.z.length cz] 46)).heap[w.heap.size]? = some (.cells #[.bool b.nm, .int .i64 b.tx, .int .i64 b.fd, .int .i64 b.d, .int .i64 b.c, .int .i64 b.s, .int .i64 b.e, .int .i64 b.t, .bool b.o, .int .i64 b.fi, .int .i64 b.i, .int .i64 b.fz, .int .i64 b.z] 74 (0, 0))) := (Below.heap_alloc (w.alloc (.cells #[.bool b.nm, .int .i64 b.tx, .int .i64 b.fd, .int .i64 b.d, .int .i64 b.c, .int .i64 b.s, .int .i64 b.e, .int .i64 b.t, .bool b.o, .int .i64 b.fi, .int .i64 b.i, .int .i64 b.fz, .int .i64 b.z] 74)) _ _ (by simp)).trans (box_new w _ _)
  have HNo : Hid (((w.alloc (.cells #[.bool b.nm, .int .i64 b.tx, .int .i64 b.fd, .int .i64 b.d, .int .i64 b.c, .int .i64 b.s, .int .i64 b.e, .int .i64 b.t, .bool b.o, .int .i64 b.fi, .int .i64 b.i, .int .i64 b.fz, .int .i64 b.z] 74)).alloc (.cells #[.int .i64 n.k, .string n.n, .string n.x, .string n.d, .int .i64 n.c, .int .i64 n.s, .int .i64 n.e, .int .i64 n.t, .bool n.o, .slice ai n.l.length ci, .slice az n.z.length cz] 46)).heap[w.heap.size + 1]? = some (.cells #[.int .i64 n.k, .string n.n, .string n.x, .string n.d, .int .i64 n.c, .int .i64 n.s, .int .i64 n.e, .int .i64 n.t, .bool n.o, .slice ai n.l.length ci, .slice az n.z.length cz] 46 (0, 0))) := by
    have := box_new (w.alloc (.cells #[.bool b.nm, .int .i64 b.tx, .int .i64 b.fd, .int .i64 b.d, .int .i64 b.c, .int .i64 b.s, .int .i64 b.e, .int .i64 b.t, .bool b.o, .int .i64 b.fi, .int .i64 b.i, .int .i64 b.fz, .int .i64 b.z] 74)) #[.int .i64 n.k, .string n.n, .string n.x, .string n.d, .int .i64 n.c, .int .i64 n.s, .int .i64 n.e, .int .i64 n.t, .bool n.o, .slice ai n.l.length ci, .slice az n.z.length cz] 46
    show _ = _
    simpa using this
  have X1 : Hid (Xc ((w.alloc (.cells #[.bool b.nm, .int .i64 b.tx, .int .i64 b.fd, .int .i64 b.d, .int .i64 b.c, .int .i64 b.s, .int .i64 b.e, .int .i64 b.t, .bool b.o, .int .i64 b.fi, .int .i64 b.i, .int .i64 b.fz, .int .i64 b.z] 74)).alloc (.cells #[.int .i64 n.k, .string n.n, .string n.x, .string n.d, .int .i64 n.c, .int .i64 n.s, .int .i64 n.e, .int .i64 n.t, .bool n.o, .slice ai n.l.length ci, .slice az n.z.length cz] 46)) 56 #[.string n.n, .bool b.nm] (.bool true)) := fun y => by have := isName_any n.n b.nm y.to (Nat.le_trans h.hn (by decide)); rw [h1] at this; exact this
  have X2 : Hid (Xc ((w.alloc (.cells #[.bool b.nm, .int .i64 b.tx, .int .i64 b.fd, .int .i64 b.d, .int .i64 b.c, .int .i64 b.s, .int .i64 b.e, .int .i64 b.t, .bool b.o, .int .i64 b.fi, .int .i64 b.i, .int .i64 b.fz, .int .i64 b.z] 74)).alloc (.cells #[.int .i64 n.k, .string n.n, .string n.x, .string n.d, .int .i64 n.c, .int .i64 n.s, .int .i64 n.e, .int .i64 n.t, .bool n.o, .slice ai n.l.length ci, .slice az n.z.length cz] 46)) 57 #[.string n.x, .int .i64 b.tx] (.bool false)) := fun y => by have := isText_any n.x b.tx y.to (Nat.le_trans h.hx (by decide)); rw [h2] at this; exact this
  clear h h1 h2
  obtain ⟨b0, b1, b2, b3, b4, b5, b6, b7, b8, b9, b10, b11, b12⟩ := bx13 HBo.out
  obtain ⟨m0, m1, m2, m3, m4, m5, m6, m7, m8, m9, m10⟩ := bx11 HNo.out
  go_enter Tryz.func38, Tryz.ntmps38
  go_upto_region 1 with fail
  generalize ((w.alloc (.cells #[.bool b.nm, .int .i64 b.tx, .int .i64 b.fd, .int .i64 b.d, .int .i64 b.c, .int .i64 b.s, .int .i64 b.e, .int .i64 b.t, .bool b.o, .int .i64 b.fi, .int .i64 b.i, .int .i64 b.fz, .int .i64 b.z] 74)).alloc (.cells #[.int .i64 n.k, .string n.n, .string n.x, .string n.d, .int .i64 n.c, .int .i64 n.s, .int .i64 n.e, .int .i64 n.t, .bool n.o, .slice ai n.l.length ci, .slice az n.z.length cz] 46)) = W at HB0 HBo HNo X1 X2 b0 b1 b2 b3 b4 b5 b6 b7 b8 b9 b10 b11 b12 m0 m1 m2 m3 m4 m5 m6 m7 m8 m9 m10 ⊢
  have xb0 : ∀ y : Ext W, y.to.cell? _ = _ := fun y => ext_cell y b0
  have xb1 : ∀ y : Ext W, y.to.cell? _ = _ := fun y => ext_cell y b1
  have xb2 : ∀ y : Ext W, y.to.cell? _ = _ := fun y => ext_cell y b2
  have xb3 : ∀ y : Ext W, y.to.cell? _ = _ := fun y => ext_cell y b3
  have xb4 : ∀ y : Ext W, y.to.cell? _ = _ := fun y => ext_cell y b4
  have xb5 : ∀ y : Ext W, y.to.cell? _ = _ := fun y => ext_cell y b5
  have xb6 : ∀ y : Ext W, y.to.cell? _ = _ := fun y => ext_cell y b6
  have xb7 : ∀ y : Ext W, y.to.cell? _ = _ := fun y => ext_cell y b7
  have xb8 : ∀ y : Ext W, y.to.cell? _ = _ := fun y => ext_cell y b8
  have xb9 : ∀ y : Ext W, y.to.cell? _ = _ := fun y => ext_cell y b9
  have xb10 : ∀ y : Ext W, y.to.cell? _ = _ := fun y => ext_cell y b10
  have xb11 : ∀ y : Ext W, y.to.cell? _ = _ := fun y => ext_cell y b11
  have xb12 : ∀ y : Ext W, y.to.cell? _ = _ := fun y => ext_cell y b12
  have xm0 : ∀ y : Ext W, y.to.cell? _ = _ := fun y => ext_cell y m0
  have xm1 : ∀ y : Ext W, y.to.cell? _ = _ := fun y => ext_cell y m1
  have xm2 : ∀ y : Ext W, y.to.cell? _ = _ := fun y => ext_cell y m2
  have xm3 : ∀ y : Ext W, y.to.cell? _ = _ := fun y => ext_cell y m3
  have xm4 : ∀ y : Ext W, y.to.cell? _ = _ := fun y => ext_cell y m4
  have xm5 : ∀ y : Ext W, y.to.cell? _ = _ := fun y => ext_cell y m5
  have xm6 : ∀ y : Ext W, y.to.cell? _ = _ := fun y => ext_cell y m6
  have xm7 : ∀ y : Ext W, y.to.cell? _ = _ := fun y => ext_cell y m7
  have xm8 : ∀ y : Ext W, y.to.cell? _ = _ := fun y => ext_cell y m8
  have xm9 : ∀ y : Ext W, y.to.cell? _ = _ := fun y => ext_cell y m9
  have xm10 : ∀ y : Ext W, y.to.cell? _ = _ := fun y => ext_cell y m10
  have hsome := extSome W
  clear HBo HNo b0 b1 b2 b3 b4 b5 b6 b7 b8 b9 b10 b11 b12 m0 m1 m2 m3 m4 m5 m6 m7 m8 m9 m10
  refine plain_quiet ?_
  dsimp only [List.append]
  repeat (go_big_quiet_step ((first | (go_at_call 56; with_reducible exact ext_call _ (X1.out _)) | (go_at_call 57; with_reducible exact ext_call _ (X2.out _)))))
  refine wpQuiet_nil ?_
  rintro _ ⟨y, hy⟩
  subst hy
  have HB1 := Lib.hid (HB0.out.trans (y.below.mono HB0.out.size))
  clear xb0 xb1 xb2 xb3 xb4 xb5 xb6 xb7 xb8 xb9 xb10 xb11 xb12 xm0 xm1 xm2 xm3 xm4 xm5 xm6 xm7 xm8 xm9 xm10
  go_wp2_with fail
  go_ret
  exact ⟨rfl, HB1.out⟩
set_option maxRecDepth 100000 in
set_option maxHeartbeats 8000000 in
theorem hold_3 (b : Bn) (n : Nt) (ai az : Option Addr) (ci cz : Nat) (w : World) (h : NtL w ai az n) (h1 : (nmB n.n b.nm) = true) (h2 : (txB n.x b.tx) = true) (h3 : (inB n.d.size b.fd b.d) = false) : Calls Tryz.prog 38 #[.agg #[.bool b.nm, .int .i64 b.tx, .int .i64 b.fd, .int .i64 b.d, .int .i64 b.c, .int .i64 b.s, .int .i64 b.e, .int .i64 b.t, .bool b.o, .int .i64 b.fi, .int .i64 b.i, .int .i64 b.fz, .int .i64 b.z], .agg #[.int .i64 n.k, .string n.n, .string n.x, .string n.d, .int .i64 n.c, .int .i64 n.s, .int .i64 n.e, .int .i64 n.t, .bool n.o, .slice ai n.l.length ci, .slice az n.z.length cz]] w (Gives (.bool false) w) := by
  have HB0 : Hid (Below w.heap.size w ((w.alloc (.cells #[.bool b.nm, .int .i64 b.tx, .int .i64 b.fd, .int .i64 b.d, .int .i64 b.c, .int .i64 b.s, .int .i64 b.e, .int .i64 b.t, .bool b.o, .int .i64 b.fi, .int .i64 b.i, .int .i64 b.fz, .int .i64 b.z] 74)).alloc (.cells #[.int .i64 n.k, .string n.n, .string n.x, .string n.d, .int .i64 n.c, .int .i64 n.s, .int .i64 n.e, .int .i64 n.t, .bool n.o, .slice ai n.l.length ci, .slice az n.z.length cz] 46))) := ((Below.refl _ w).alloc (Nat.le_refl _) _).alloc (by simp) _
  have HBo : Hid (((w.alloc (.cells #[.bool b.nm, .int .i64 b.tx, .int .i64 b.fd, .int .i64 b.d, .int .i64 b.c, .int .i64 b.s, .int .i64 b.e, .int .i64 b.t, .bool b.o, .int .i64 b.fi, .int .i64 b.i, .int .i64 b.fz, .int .i64 b.z] 74)).alloc (.cells #[.int .i64 n.k, .string n.n, .string n.x, .string n.d, .int .i64 n.c, .int .i64 n.s, .int .i64 n.e, .int .i64 n.t, .bool n.o, .slice ai n.l.length ci, .slice az n.z.length cz] 46)).heap[w.heap.size]? = some (.cells #[.bool b.nm, .int .i64 b.tx, .int .i64 b.fd, .int .i64 b.d, .int .i64 b.c, .int .i64 b.s, .int .i64 b.e, .int .i64 b.t, .bool b.o, .int .i64 b.fi, .int .i64 b.i, .int .i64 b.fz, .int .i64 b.z] 74 (0, 0))) := (Below.heap_alloc (w.alloc (.cells #[.bool b.nm, .int .i64 b.tx, .int .i64 b.fd, .int .i64 b.d, .int .i64 b.c, .int .i64 b.s, .int .i64 b.e, .int .i64 b.t, .bool b.o, .int .i64 b.fi, .int .i64 b.i, .int .i64 b.fz, .int .i64 b.z] 74)) _ _ (by simp)).trans (box_new w _ _)
  have HNo : Hid (((w.alloc (.cells #[.bool b.nm, .int .i64 b.tx, .int .i64 b.fd, .int .i64 b.d, .int .i64 b.c, .int .i64 b.s, .int .i64 b.e, .int .i64 b.t, .bool b.o, .int .i64 b.fi, .int .i64 b.i, .int .i64 b.fz, .int .i64 b.z] 74)).alloc (.cells #[.int .i64 n.k, .string n.n, .string n.x, .string n.d, .int .i64 n.c, .int .i64 n.s, .int .i64 n.e, .int .i64 n.t, .bool n.o, .slice ai n.l.length ci, .slice az n.z.length cz] 46)).heap[w.heap.size + 1]? = some (.cells #[.int .i64 n.k, .string n.n, .string n.x, .string n.d, .int .i64 n.c, .int .i64 n.s, .int .i64 n.e, .int .i64 n.t, .bool n.o, .slice ai n.l.length ci, .slice az n.z.length cz] 46 (0, 0))) := by
    have := box_new (w.alloc (.cells #[.bool b.nm, .int .i64 b.tx, .int .i64 b.fd, .int .i64 b.d, .int .i64 b.c, .int .i64 b.s, .int .i64 b.e, .int .i64 b.t, .bool b.o, .int .i64 b.fi, .int .i64 b.i, .int .i64 b.fz, .int .i64 b.z] 74)) #[.int .i64 n.k, .string n.n, .string n.x, .string n.d, .int .i64 n.c, .int .i64 n.s, .int .i64 n.e, .int .i64 n.t, .bool n.o, .slice ai n.l.length ci, .slice az n.z.length cz] 46
    show _ = _
    simpa using this
  have X1 : Hid (Xc ((w.alloc (.cells #[.bool b.nm, .int .i64 b.tx, .int .i64 b.fd, .int .i64 b.d, .int .i64 b.c, .int .i64 b.s, .int .i64 b.e, .int .i64 b.t, .bool b.o, .int .i64 b.fi, .int .i64 b.i, .int .i64 b.fz, .int .i64 b.z] 74)).alloc (.cells #[.int .i64 n.k, .string n.n, .string n.x, .string n.d, .int .i64 n.c, .int .i64 n.s, .int .i64 n.e, .int .i64 n.t, .bool n.o, .slice ai n.l.length ci, .slice az n.z.length cz] 46)) 56 #[.string n.n, .bool b.nm] (.bool true)) := fun y => by have := isName_any n.n b.nm y.to (Nat.le_trans h.hn (by decide)); rw [h1] at this; exact this
  have X2 : Hid (Xc ((w.alloc (.cells #[.bool b.nm, .int .i64 b.tx, .int .i64 b.fd, .int .i64 b.d, .int .i64 b.c, .int .i64 b.s, .int .i64 b.e, .int .i64 b.t, .bool b.o, .int .i64 b.fi, .int .i64 b.i, .int .i64 b.fz, .int .i64 b.z] 74)).alloc (.cells #[.int .i64 n.k, .string n.n, .string n.x, .string n.d, .int .i64 n.c, .int .i64 n.s, .int .i64 n.e, .int .i64 n.t, .bool n.o, .slice ai n.l.length ci, .slice az n.z.length cz] 46)) 57 #[.string n.x, .int .i64 b.tx] (.bool true)) := fun y => by have := isText_any n.x b.tx y.to (Nat.le_trans h.hx (by decide)); rw [h2] at this; exact this
  have X3 : Hid (Xc ((w.alloc (.cells #[.bool b.nm, .int .i64 b.tx, .int .i64 b.fd, .int .i64 b.d, .int .i64 b.c, .int .i64 b.s, .int .i64 b.e, .int .i64 b.t, .bool b.o, .int .i64 b.fi, .int .i64 b.i, .int .i64 b.fz, .int .i64 b.z] 74)).alloc (.cells #[.int .i64 n.k, .string n.n, .string n.x, .string n.d, .int .i64 n.c, .int .i64 n.s, .int .i64 n.e, .int .i64 n.t, .bool n.o, .slice ai n.l.length ci, .slice az n.z.length cz] 46)) 58 #[.int .i64 n.d.size, .int .i64 b.fd, .int .i64 b.d] (.bool false)) := xc_pure fun W => by have := isIn_any n.d.size b.fd b.d W; rw [h3] at this; exact this
  clear h h1 h2 h3
  obtain ⟨b0, b1, b2, b3, b4, b5, b6, b7, b8, b9, b10, b11, b12⟩ := bx13 HBo.out
  obtain ⟨m0, m1, m2, m3, m4, m5, m6, m7, m8, m9, m10⟩ := bx11 HNo.out
  go_enter Tryz.func38, Tryz.ntmps38
  go_upto_region 1 with fail
  generalize ((w.alloc (.cells #[.bool b.nm, .int .i64 b.tx, .int .i64 b.fd, .int .i64 b.d, .int .i64 b.c, .int .i64 b.s, .int .i64 b.e, .int .i64 b.t, .bool b.o, .int .i64 b.fi, .int .i64 b.i, .int .i64 b.fz, .int .i64 b.z] 74)).alloc (.cells #[.int .i64 n.k, .string n.n, .string n.x, .string n.d, .int .i64 n.c, .int .i64 n.s, .int .i64 n.e, .int .i64 n.t, .bool n.o, .slice ai n.l.length ci, .slice az n.z.length cz] 46)) = W at HB0 HBo HNo X1 X2 X3 b0 b1 b2 b3 b4 b5 b6 b7 b8 b9 b10 b11 b12 m0 m1 m2 m3 m4 m5 m6 m7 m8 m9 m10 ⊢
  have xb0 : ∀ y : Ext W, y.to.cell? _ = _ := fun y => ext_cell y b0
  have xb1 : ∀ y : Ext W, y.to.cell? _ = _ := fun y => ext_cell y b1
  have xb2 : ∀ y : Ext W, y.to.cell? _ = _ := fun y => ext_cell y b2
  have xb3 : ∀ y : Ext W, y.to.cell? _ = _ := fun y => ext_cell y b3
  have xb4 : ∀ y : Ext W, y.to.cell? _ = _ := fun y => ext_cell y b4
  have xb5 : ∀ y : Ext W, y.to.cell? _ = _ := fun y => ext_cell y b5
  have xb6 : ∀ y : Ext W, y.to.cell? _ = _ := fun y => ext_cell y b6
  have xb7 : ∀ y : Ext W, y.to.cell? _ = _ := fun y => ext_cell y b7
  have xb8 : ∀ y : Ext W, y.to.cell? _ = _ := fun y => ext_cell y b8
  have xb9 : ∀ y : Ext W, y.to.cell? _ = _ := fun y => ext_cell y b9
  have xb10 : ∀ y : Ext W, y.to.cell? _ = _ := fun y => ext_cell y b10
  have xb11 : ∀ y : Ext W, y.to.cell? _ = _ := fun y => ext_cell y b11
  have xb12 : ∀ y : Ext W, y.to.cell? _ = _ := fun y => ext_cell y b12
  have xm0 : ∀ y : Ext W, y.to.cell? _ = _ := fun y => ext_cell y m0
  have xm1 : ∀ y : Ext W, y.to.cell? _ = _ := fun y => ext_cell y m1
  have xm2 : ∀ y : Ext W, y.to.cell? _ = _ := fun y => ext_cell y m2
  have xm3 : ∀ y : Ext W, y.to.cell? _ = _ := fun y => ext_cell y m3
  have xm4 : ∀ y : Ext W, y.to.cell? _ = _ := fun y => ext_cell y m4
  have xm5 : ∀ y : Ext W, y.to.cell? _ = _ := fun y => ext_cell y m5
  have xm6 : ∀ y : Ext W, y.to.cell? _ = _ := fun y => ext_cell y m6
  have xm7 : ∀ y : Ext W, y.to.cell? _ = _ := fun y => ext_cell y m7
  have xm8 : ∀ y : Ext W, y.to.cell? _ = _ := fun y => ext_cell y m8
  have xm9 : ∀ y : Ext W, y.to.cell? _ = _ := fun y => ext_cell y m9
  have xm10 : ∀ y : Ext W, y.to.cell? _ = _ := fun y => ext_cell y m10
  have hsome := extSome W
  clear HBo HNo b0 b1 b2 b3 b4 b5 b6 b7 b8 b9 b10 b11 b12 m0 m1 m2 m3 m4 m5 m6 m7 m8 m9 m10
  refine plain_quiet ?_
  dsimp only [List.append]
  repeat (go_big_quiet_step ((first | (go_at_call 56; with_reducible exact ext_call _ (X1.out _)) | (go_at_call 57; with_reducible exact ext_call _ (X2.out _)) | (go_at_call 58; with_reducible exact ext_call _ (X3.out _)))))
  refine wpQuiet_nil ?_
  rintro _ ⟨y, hy⟩
  subst hy
  have HB1 := Lib.hid (HB0.out.trans (y.below.mono HB0.out.size))
  clear xb0 xb1 xb2 xb3 xb4 xb5 xb6 xb7 xb8 xb9 xb10 xb11 xb12 xm0 xm1 xm2 xm3 xm4 xm5 xm6 xm7 xm8 xm9 xm10
  go_wp2_with fail
  go_ret
  exact ⟨rfl, HB1.out⟩
set_option maxRecDepth 100000 in
set_option maxHeartbeats 8000000 in
theorem hold_4 (b : Bn) (n : Nt) (ai az : Option Addr) (ci cz : Nat) (w : World) (h : NtL w ai az n) (h1 : (nmB n.n b.nm) = true) (h2 : (txB n.x b.tx) = true) (h3 : (inB n.d.size b.fd b.d) = true) (h4 : (inB n.c 0 b.c) = false) : Calls Tryz.prog 38 #[.agg #[.bool b.nm, .int .i64 b.tx, .int .i64 b.fd, .int .i64 b.d, .int .i64 b.c, .int .i64 b.s, .int .i64 b.e, .int .i64 b.t, .bool b.o, .int .i64 b.fi, .int .i64 b.i, .int .i64 b.fz, .int .i64 b.z], .agg #[.int .i64 n.k, .string n.n, .string n.x, .string n.d, .int .i64 n.c, .int .i64 n.s, .int .i64 n.e, .int .i64 n.t, .bool n.o, .slice ai n.l.length ci, .slice az n.z.length cz]] w (Gives (.bool false) w) := by
  have HB0 : Hid (Below w.heap.size w ((w.alloc (.cells #[.bool b.nm, .int .i64 b.tx, .int .i64 b.fd, .int .i64 b.d, .int .i64 b.c, .int .i64 b.s, .int .i64 b.e, .int .i64 b.t, .bool b.o, .int .i64 b.fi, .int .i64 b.i, .int .i64 b.fz, .int .i64 b.z] 74)).alloc (.cells #[.int .i64 n.k, .string n.n, .string n.x, .string n.d, .int .i64 n.c, .int .i64 n.s, .int .i64 n.e, .int .i64 n.t, .bool n.o, .slice ai n.l.length ci, .slice az n.z.length cz] 46))) := ((Below.refl _ w).alloc (Nat.le_refl _) _).alloc (by simp) _
  have HBo : Hid (((w.alloc (.cells #[.bool b.nm, .int .i64 b.tx, .int .i64 b.fd, .int .i64 b.d, .int .i64 b.c, .int .i64 b.s, .int .i64 b.e, .int .i64 b.t, .bool b.o, .int .i64 b.fi, .int .i64 b.i, .int .i64 b.fz, .int .i64 b.z] 74)).alloc (.cells #[.int .i64 n.k, .string n.n, .string n.x, .string n.d, .int .i64 n.c, .int .i64 n.s, .int .i64 n.e, .int .i64 n.t, .bool n.o, .slice ai n.l.length ci, .slice az n.z.length cz] 46)).heap[w.heap.size]? = some (.cells #[.bool b.nm, .int .i64 b.tx, .int .i64 b.fd, .int .i64 b.d, .int .i64 b.c, .int .i64 b.s, .int .i64 b.e, .int .i64 b.t, .bool b.o, .int .i64 b.fi, .int .i64 b.i, .int .i64 b.fz, .int .i64 b.z] 74 (0, 0))) := (Below.heap_alloc (w.alloc (.cells #[.bool b.nm, .int .i64 b.tx, .int .i64 b.fd, .int .i64 b.d, .int .i64 b.c, .int .i64 b.s, .int .i64 b.e, .int .i64 b.t, .bool b.o, .int .i64 b.fi, .int .i64 b.i, .int .i64 b.fz, .int .i64 b.z] 74)) _ _ (by simp)).trans (box_new w _ _)
  have HNo : Hid (((w.alloc (.cells #[.bool b.nm, .int .i64 b.tx, .int .i64 b.fd, .int .i64 b.d, .int .i64 b.c, .int .i64 b.s, .int .i64 b.e, .int .i64 b.t, .bool b.o, .int .i64 b.fi, .int .i64 b.i, .int .i64 b.fz, .int .i64 b.z] 74)).alloc (.cells #[.int .i64 n.k, .string n.n, .string n.x, .string n.d, .int .i64 n.c, .int .i64 n.s, .int .i64 n.e, .int .i64 n.t, .bool n.o, .slice ai n.l.length ci, .slice az n.z.length cz] 46)).heap[w.heap.size + 1]? = some (.cells #[.int .i64 n.k, .string n.n, .string n.x, .string n.d, .int .i64 n.c, .int .i64 n.s, .int .i64 n.e, .int .i64 n.t, .bool n.o, .slice ai n.l.length ci, .slice az n.z.length cz] 46 (0, 0))) := by
    have := box_new (w.alloc (.cells #[.bool b.nm, .int .i64 b.tx, .int .i64 b.fd, .int .i64 b.d, .int .i64 b.c, .int .i64 b.s, .int .i64 b.e, .int .i64 b.t, .bool b.o, .int .i64 b.fi, .int .i64 b.i, .int .i64 b.fz, .int .i64 b.z] 74)) #[.int .i64 n.k, .string n.n, .string n.x, .string n.d, .int .i64 n.c, .int .i64 n.s, .int .i64 n.e, .int .i64 n.t, .bool n.o, .slice ai n.l.length ci, .slice az n.z.length cz] 46
    show _ = _
    simpa using this
  have X1 : Hid (Xc ((w.alloc (.cells #[.bool b.nm, .int .i64 b.tx, .int .i64 b.fd, .int .i64 b.d, .int .i64 b.c, .int .i64 b.s, .int .i64 b.e, .int .i64 b.t, .bool b.o, .int .i64 b.fi, .int .i64 b.i, .int .i64 b.fz, .int .i64 b.z] 74)).alloc (.cells #[.int .i64 n.k, .string n.n, .string n.x, .string n.d, .int .i64 n.c, .int .i64 n.s, .int .i64 n.e, .int .i64 n.t, .bool n.o, .slice ai n.l.length ci, .slice az n.z.length cz] 46)) 56 #[.string n.n, .bool b.nm] (.bool true)) := fun y => by have := isName_any n.n b.nm y.to (Nat.le_trans h.hn (by decide)); rw [h1] at this; exact this
  have X2 : Hid (Xc ((w.alloc (.cells #[.bool b.nm, .int .i64 b.tx, .int .i64 b.fd, .int .i64 b.d, .int .i64 b.c, .int .i64 b.s, .int .i64 b.e, .int .i64 b.t, .bool b.o, .int .i64 b.fi, .int .i64 b.i, .int .i64 b.fz, .int .i64 b.z] 74)).alloc (.cells #[.int .i64 n.k, .string n.n, .string n.x, .string n.d, .int .i64 n.c, .int .i64 n.s, .int .i64 n.e, .int .i64 n.t, .bool n.o, .slice ai n.l.length ci, .slice az n.z.length cz] 46)) 57 #[.string n.x, .int .i64 b.tx] (.bool true)) := fun y => by have := isText_any n.x b.tx y.to (Nat.le_trans h.hx (by decide)); rw [h2] at this; exact this
  have X3 : Hid (Xc ((w.alloc (.cells #[.bool b.nm, .int .i64 b.tx, .int .i64 b.fd, .int .i64 b.d, .int .i64 b.c, .int .i64 b.s, .int .i64 b.e, .int .i64 b.t, .bool b.o, .int .i64 b.fi, .int .i64 b.i, .int .i64 b.fz, .int .i64 b.z] 74)).alloc (.cells #[.int .i64 n.k, .string n.n, .string n.x, .string n.d, .int .i64 n.c, .int .i64 n.s, .int .i64 n.e, .int .i64 n.t, .bool n.o, .slice ai n.l.length ci, .slice az n.z.length cz] 46)) 58 #[.int .i64 n.d.size, .int .i64 b.fd, .int .i64 b.d] (.bool true)) := xc_pure fun W => by have := isIn_any n.d.size b.fd b.d W; rw [h3] at this; exact this
  have X4 : Hid (Xc ((w.alloc (.cells #[.bool b.nm, .int .i64 b.tx, .int .i64 b.fd, .int .i64 b.d, .int .i64 b.c, .int .i64 b.s, .int .i64 b.e, .int .i64 b.t, .bool b.o, .int .i64 b.fi, .int .i64 b.i, .int .i64 b.fz, .int .i64 b.z] 74)).alloc (.cells #[.int .i64 n.k, .string n.n, .string n.x, .string n.d, .int .i64 n.c, .int .i64 n.s, .int .i64 n.e, .int .i64 n.t, .bool n.o, .slice ai n.l.length ci, .slice az n.z.length cz] 46)) 58 #[.int .i64 n.c, .int .i64 0, .int .i64 b.c] (.bool false)) := xc_pure fun W => by have := isIn_any n.c 0 b.c W; rw [h4] at this; exact this
  clear h h1 h2 h3 h4
  obtain ⟨b0, b1, b2, b3, b4, b5, b6, b7, b8, b9, b10, b11, b12⟩ := bx13 HBo.out
  obtain ⟨m0, m1, m2, m3, m4, m5, m6, m7, m8, m9, m10⟩ := bx11 HNo.out
  go_enter Tryz.func38, Tryz.ntmps38
  go_upto_region 1 with fail
  generalize ((w.alloc (.cells #[.bool b.nm, .int .i64 b.tx, .int .i64 b.fd, .int .i64 b.d, .int .i64 b.c, .int .i64 b.s, .int .i64 b.e, .int .i64 b.t, .bool b.o, .int .i64 b.fi, .int .i64 b.i, .int .i64 b.fz, .int .i64 b.z] 74)).alloc (.cells #[.int .i64 n.k, .string n.n, .string n.x, .string n.d, .int .i64 n.c, .int .i64 n.s, .int .i64 n.e, .int .i64 n.t, .bool n.o, .slice ai n.l.length ci, .slice az n.z.length cz] 46)) = W at HB0 HBo HNo X1 X2 X3 X4 b0 b1 b2 b3 b4 b5 b6 b7 b8 b9 b10 b11 b12 m0 m1 m2 m3 m4 m5 m6 m7 m8 m9 m10 ⊢
  have xb0 : ∀ y : Ext W, y.to.cell? _ = _ := fun y => ext_cell y b0
  have xb1 : ∀ y : Ext W, y.to.cell? _ = _ := fun y => ext_cell y b1
  have xb2 : ∀ y : Ext W, y.to.cell? _ = _ := fun y => ext_cell y b2
  have xb3 : ∀ y : Ext W, y.to.cell? _ = _ := fun y => ext_cell y b3
  have xb4 : ∀ y : Ext W, y.to.cell? _ = _ := fun y => ext_cell y b4
  have xb5 : ∀ y : Ext W, y.to.cell? _ = _ := fun y => ext_cell y b5
  have xb6 : ∀ y : Ext W, y.to.cell? _ = _ := fun y => ext_cell y b6
  have xb7 : ∀ y : Ext W, y.to.cell? _ = _ := fun y => ext_cell y b7
  have xb8 : ∀ y : Ext W, y.to.cell? _ = _ := fun y => ext_cell y b8
  have xb9 : ∀ y : Ext W, y.to.cell? _ = _ := fun y => ext_cell y b9
  have xb10 : ∀ y : Ext W, y.to.cell? _ = _ := fun y => ext_cell y b10
  have xb11 : ∀ y : Ext W, y.to.cell? _ = _ := fun y => ext_cell y b11
  have xb12 : ∀ y : Ext W, y.to.cell? _ = _ := fun y => ext_cell y b12
  have xm0 : ∀ y : Ext W, y.to.cell? _ = _ := fun y => ext_cell y m0
  have xm1 : ∀ y : Ext W, y.to.cell? _ = _ := fun y => ext_cell y m1
  have xm2 : ∀ y : Ext W, y.to.cell? _ = _ := fun y => ext_cell y m2
  have xm3 : ∀ y : Ext W, y.to.cell? _ = _ := fun y => ext_cell y m3
  have xm4 : ∀ y : Ext W, y.to.cell? _ = _ := fun y => ext_cell y m4
  have xm5 : ∀ y : Ext W, y.to.cell? _ = _ := fun y => ext_cell y m5
  have xm6 : ∀ y : Ext W, y.to.cell? _ = _ := fun y => ext_cell y m6
  have xm7 : ∀ y : Ext W, y.to.cell? _ = _ := fun y => ext_cell y m7
  have xm8 : ∀ y : Ext W, y.to.cell? _ = _ := fun y => ext_cell y m8
  have xm9 : ∀ y : Ext W, y.to.cell? _ = _ := fun y => ext_cell y m9
  have xm10 : ∀ y : Ext W, y.to.cell? _ = _ := fun y => ext_cell y m10
  have hsome := extSome W
  clear HBo HNo b0 b1 b2 b3 b4 b5 b6 b7 b8 b9 b10 b11 b12 m0 m1 m2 m3 m4 m5 m6 m7 m8 m9 m10
  refine plain_quiet ?_
  dsimp only [List.append]
  repeat (go_big_quiet_step ((first | (go_at_call 56; with_reducible exact ext_call _ (X1.out _)) | (go_at_call 57; with_reducible exact ext_call _ (X2.out _)) | (go_at_call 58; with_reducible exact ext_call _ (X3.out _)) | (go_at_call 58; with_reducible exact ext_call _ (X4.out _)))))
  refine wpQuiet_nil ?_
  rintro _ ⟨y, hy⟩
  subst hy
  have HB1 := Lib.hid (HB0.out.trans (y.below.mono HB0.out.size))
  clear xb0 xb1 xb2 xb3 xb4 xb5 xb6 xb7 xb8 xb9 xb10 xb11 xb12 xm0 xm1 xm2 xm3 xm4 xm5 xm6 xm7 xm8 xm9 xm10
  go_wp2_with fail
  go_ret
  exact ⟨rfl, HB1.out⟩
set_option maxRecDepth 100000 in
set_option maxHeartbeats 8000000 in
theorem hold_5 (b : Bn) (n : Nt) (ai az : Option Addr) (ci cz : Nat) (w : World) (h : NtL w ai az n) (h1 : (nmB n.n b.nm) = true) (h2 : (txB n.x b.tx) = true) (h3 : (inB n.d.size b.fd b.d) = true) (h4 : (inB n.c 0 b.c) = true) (h5 : (inB n.s 0 b.s) = false) : Calls Tryz.prog 38 #[.agg #[.bool b.nm, .int .i64 b.tx, .int .i64 b.fd, .int .i64 b.d, .int .i64 b.c, .int .i64 b.s, .int .i64 b.e, .int .i64 b.t, .bool b.o, .int .i64 b.fi, .int .i64 b.i, .int .i64 b.fz, .int .i64 b.z], .agg #[.int .i64 n.k, .string n.n, .string n.x, .string n.d, .int .i64 n.c, .int .i64 n.s, .int .i64 n.e, .int .i64 n.t, .bool n.o, .slice ai n.l.length ci, .slice az n.z.length cz]] w (Gives (.bool false) w) := by
  have HB0 : Hid (Below w.heap.size w ((w.alloc (.cells #[.bool b.nm, .int .i64 b.tx, .int .i64 b.fd, .int .i64 b.d, .int .i64 b.c, .int .i64 b.s, .int .i64 b.e, .int .i64 b.t, .bool b.o, .int .i64 b.fi, .int .i64 b.i, .int .i64 b.fz, .int .i64 b.z] 74)).alloc (.cells #[.int .i64 n.k, .string n.n, .string n.x, .string n.d, .int .i64 n.c, .int .i64 n.s, .int .i64 n.e, .int .i64 n.t, .bool n.o, .slice ai n.l.length ci, .slice az n.z.length cz] 46))) := ((Below.refl _ w).alloc (Nat.le_refl _) _).alloc (by simp) _
  have HBo : Hid (((w.alloc (.cells #[.bool b.nm, .int .i64 b.tx, .int .i64 b.fd, .int .i64 b.d, .int .i64 b.c, .int .i64 b.s, .int .i64 b.e, .int .i64 b.t, .bool b.o, .int .i64 b.fi, .int .i64 b.i, .int .i64 b.fz, .int .i64 b.z] 74)).alloc (.cells #[.int .i64 n.k, .string n.n, .string n.x, .string n.d, .int .i64 n.c, .int .i64 n.s, .int .i64 n.e, .int .i64 n.t, .bool n.o, .slice ai n.l.length ci, .slice az n.z.length cz] 46)).heap[w.heap.size]? = some (.cells #[.bool b.nm, .int .i64 b.tx, .int .i64 b.fd, .int .i64 b.d, .int .i64 b.c, .int .i64 b.s, .int .i64 b.e, .int .i64 b.t, .bool b.o, .int .i64 b.fi, .int .i64 b.i, .int .i64 b.fz, .int .i64 b.z] 74 (0, 0))) := (Below.heap_alloc (w.alloc (.cells #[.bool b.nm, .int .i64 b.tx, .int .i64 b.fd, .int .i64 b.d, .int .i64 b.c, .int .i64 b.s, .int .i64 b.e, .int .i64 b.t, .bool b.o, .int .i64 b.fi, .int .i64 b.i, .int .i64 b.fz, .int .i64 b.z] 74)) _ _ (by simp)).trans (box_new w _ _)
  have HNo : Hid (((w.alloc (.cells #[.bool b.nm, .int .i64 b.tx, .int .i64 b.fd, .int .i64 b.d, .int .i64 b.c, .int .i64 b.s, .int .i64 b.e, .int .i64 b.t, .bool b.o, .int .i64 b.fi, .int .i64 b.i, .int .i64 b.fz, .int .i64 b.z] 74)).alloc (.cells #[.int .i64 n.k, .string n.n, .string n.x, .string n.d, .int .i64 n.c, .int .i64 n.s, .int .i64 n.e, .int .i64 n.t, .bool n.o, .slice ai n.l.length ci, .slice az n.z.length cz] 46)).heap[w.heap.size + 1]? = some (.cells #[.int .i64 n.k, .string n.n, .string n.x, .string n.d, .int .i64 n.c, .int .i64 n.s, .int .i64 n.e, .int .i64 n.t, .bool n.o, .slice ai n.l.length ci, .slice az n.z.length cz] 46 (0, 0))) := by
    have := box_new (w.alloc (.cells #[.bool b.nm, .int .i64 b.tx, .int .i64 b.fd, .int .i64 b.d, .int .i64 b.c, .int .i64 b.s, .int .i64 b.e, .int .i64 b.t, .bool b.o, .int .i64 b.fi, .int .i64 b.i, .int .i64 b.fz, .int .i64 b.z] 74)) #[.int .i64 n.k, .string n.n, .string n.x, .string n.d, .int .i64 n.c, .int .i64 n.s, .int .i64 n.e, .int .i64 n.t, .bool n.o, .slice ai n.l.length ci, .slice az n.z.length cz] 46
    show _ = _
    simpa using this
  have X1 : Hid (Xc ((w.alloc (.cells #[.bool b.nm, .int .i64 b.tx, .int .i64 b.fd, .int .i64 b.d, .int .i64 b.c, .int .i64 b.s, .int .i64 b.e, .int .i64 b.t, .bool b.o, .int .i64 b.fi, .int .i64 b.i, .int .i64 b.fz, .int .i64 b.z] 74)).alloc (.cells #[.int .i64 n.k, .string n.n, .string n.x, .string n.d, .int .i64 n.c, .int .i64 n.s, .int .i64 n.e, .int .i64 n.t, .bool n.o, .slice ai n.l.length ci, .slice az n.z.length cz] 46)) 56 #[.string n.n, .bool b.nm] (.bool true)) := fun y => by have := isName_any n.n b.nm y.to (Nat.le_trans h.hn (by decide)); rw [h1] at this; exact this
  have X2 : Hid (Xc ((w.alloc (.cells #[.bool b.nm, .int .i64 b.tx, .int .i64 b.fd, .int .i64 b.d, .int .i64 b.c, .int .i64 b.s, .int .i64 b.e, .int .i64 b.t, .bool b.o, .int .i64 b.fi, .int .i64 b.i, .int .i64 b.fz, .int .i64 b.z] 74)).alloc (.cells #[.int .i64 n.k, .string n.n, .string n.x, .string n.d, .int .i64 n.c, .int .i64 n.s, .int .i64 n.e, .int .i64 n.t, .bool n.o, .slice ai n.l.length ci, .slice az n.z.length cz] 46)) 57 #[.string n.x, .int .i64 b.tx] (.bool true)) := fun y => by have := isText_any n.x b.tx y.to (Nat.le_trans h.hx (by decide)); rw [h2] at this; exact this
  have X3 : Hid (Xc ((w.alloc (.cells #[.bool b.nm, .int .i64 b.tx, .int .i64 b.fd, .int .i64 b.d, .int .i64 b.c, .int .i64 b.s, .int .i64 b.e, .int .i64 b.t, .bool b.o, .int .i64 b.fi, .int .i64 b.i, .int .i64 b.fz, .int .i64 b.z] 74)).alloc (.cells #[.int .i64 n.k, .string n.n, .string n.x, .string n.d, .int .i64 n.c, .int .i64 n.s, .int .i64 n.e, .int .i64 n.t, .bool n.o, .slice ai n.l.length ci, .slice az n.z.length cz] 46)) 58 #[.int .i64 n.d.size, .int .i64 b.fd, .int .i64 b.d] (.bool true)) := xc_pure fun W => by have := isIn_any n.d.size b.fd b.d W; rw [h3] at this; exact this
  have X4 : Hid (Xc ((w.alloc (.cells #[.bool b.nm, .int .i64 b.tx, .int .i64 b.fd, .int .i64 b.d, .int .i64 b.c, .int .i64 b.s, .int .i64 b.e, .int .i64 b.t, .bool b.o, .int .i64 b.fi, .int .i64 b.i, .int .i64 b.fz, .int .i64 b.z] 74)).alloc (.cells #[.int .i64 n.k, .string n.n, .string n.x, .string n.d, .int .i64 n.c, .int .i64 n.s, .int .i64 n.e, .int .i64 n.t, .bool n.o, .slice ai n.l.length ci, .slice az n.z.length cz] 46)) 58 #[.int .i64 n.c, .int .i64 0, .int .i64 b.c] (.bool true)) := xc_pure fun W => by have := isIn_any n.c 0 b.c W; rw [h4] at this; exact this
  have X5 : Hid (Xc ((w.alloc (.cells #[.bool b.nm, .int .i64 b.tx, .int .i64 b.fd, .int .i64 b.d, .int .i64 b.c, .int .i64 b.s, .int .i64 b.e, .int .i64 b.t, .bool b.o, .int .i64 b.fi, .int .i64 b.i, .int .i64 b.fz, .int .i64 b.z] 74)).alloc (.cells #[.int .i64 n.k, .string n.n, .string n.x, .string n.d, .int .i64 n.c, .int .i64 n.s, .int .i64 n.e, .int .i64 n.t, .bool n.o, .slice ai n.l.length ci, .slice az n.z.length cz] 46)) 58 #[.int .i64 n.s, .int .i64 0, .int .i64 b.s] (.bool false)) := xc_pure fun W => by have := isIn_any n.s 0 b.s W; rw [h5] at this; exact this
  clear h h1 h2 h3 h4 h5
  obtain ⟨b0, b1, b2, b3, b4, b5, b6, b7, b8, b9, b10, b11, b12⟩ := bx13 HBo.out
  obtain ⟨m0, m1, m2, m3, m4, m5, m6, m7, m8, m9, m10⟩ := bx11 HNo.out
  go_enter Tryz.func38, Tryz.ntmps38
  go_upto_region 1 with fail
  generalize ((w.alloc (.cells #[.bool b.nm, .int .i64 b.tx, .int .i64 b.fd, .int .i64 b.d, .int .i64 b.c, .int .i64 b.s, .int .i64 b.e, .int .i64 b.t, .bool b.o, .int .i64 b.fi, .int .i64 b.i, .int .i64 b.fz, .int .i64 b.z] 74)).alloc (.cells #[.int .i64 n.k, .string n.n, .string n.x, .string n.d, .int .i64 n.c, .int .i64 n.s, .int .i64 n.e, .int .i64 n.t, .bool n.o, .slice ai n.l.length ci, .slice az n.z.length cz] 46)) = W at HB0 HBo HNo X1 X2 X3 X4 X5 b0 b1 b2 b3 b4 b5 b6 b7 b8 b9 b10 b11 b12 m0 m1 m2 m3 m4 m5 m6 m7 m8 m9 m10 ⊢
  have xb0 : ∀ y : Ext W, y.to.cell? _ = _ := fun y => ext_cell y b0
  have xb1 : ∀ y : Ext W, y.to.cell? _ = _ := fun y => ext_cell y b1
  have xb2 : ∀ y : Ext W, y.to.cell? _ = _ := fun y => ext_cell y b2
  have xb3 : ∀ y : Ext W, y.to.cell? _ = _ := fun y => ext_cell y b3
  have xb4 : ∀ y : Ext W, y.to.cell? _ = _ := fun y => ext_cell y b4
  have xb5 : ∀ y : Ext W, y.to.cell? _ = _ := fun y => ext_cell y b5
  have xb6 : ∀ y : Ext W, y.to.cell? _ = _ := fun y => ext_cell y b6
  have xb7 : ∀ y : Ext W, y.to.cell? _ = _ := fun y => ext_cell y b7
  have xb8 : ∀ y : Ext W, y.to.cell? _ = _ := fun y => ext_cell y b8
  have xb9 : ∀ y : Ext W, y.to.cell? _ = _ := fun y => ext_cell y b9
  have xb10 : ∀ y : Ext W, y.to.cell? _ = _ := fun y => ext_cell y b10
  have xb11 : ∀ y : Ext W, y.to.cell? _ = _ := fun y => ext_cell y b11
  have xb12 : ∀ y : Ext W, y.to.cell? _ = _ := fun y => ext_cell y b12
  have xm0 : ∀ y : Ext W, y.to.cell? _ = _ := fun y => ext_cell y m0
  have xm1 : ∀ y : Ext W, y.to.cell? _ = _ := fun y => ext_cell y m1
  have xm2 : ∀ y : Ext W, y.to.cell? _ = _ := fun y => ext_cell y m2
  have xm3 : ∀ y : Ext W, y.to.cell? _ = _ := fun y => ext_cell y m3
  have xm4 : ∀ y : Ext W, y.to.cell? _ = _ := fun y => ext_cell y m4
  have xm5 : ∀ y : Ext W, y.to.cell? _ = _ := fun y => ext_cell y m5
  have xm6 : ∀ y : Ext W, y.to.cell? _ = _ := fun y => ext_cell y m6
  have xm7 : ∀ y : Ext W, y.to.cell? _ = _ := fun y => ext_cell y m7
  have xm8 : ∀ y : Ext W, y.to.cell? _ = _ := fun y => ext_cell y m8
  have xm9 : ∀ y : Ext W, y.to.cell? _ = _ := fun y => ext_cell y m9
  have xm10 : ∀ y : Ext W, y.to.cell? _ = _ := fun y => ext_cell y m10
  have hsome := extSome W
  clear HBo HNo b0 b1 b2 b3 b4 b5 b6 b7 b8 b9 b10 b11 b12 m0 m1 m2 m3 m4 m5 m6 m7 m8 m9 m10
  refine plain_quiet ?_
  dsimp only [List.append]
  repeat (go_big_quiet_step ((first | (go_at_call 56; with_reducible exact ext_call _ (X1.out _)) | (go_at_call 57; with_reducible exact ext_call _ (X2.out _)) | (go_at_call 58; with_reducible exact ext_call _ (X3.out _)) | (go_at_call 58; with_reducible exact ext_call _ (X4.out _)) | (go_at_call 58; with_reducible exact ext_call _ (X5.out _)))))
  refine wpQuiet_nil ?_
  rintro _ ⟨y, hy⟩
  subst hy
  have HB1 := Lib.hid (HB0.out.trans (y.below.mono HB0.out.size))
  clear xb0 xb1 xb2 xb3 xb4 xb5 xb6 xb7 xb8 xb9 xb10 xb11 xb12 xm0 xm1 xm2 xm3 xm4 xm5 xm6 xm7 xm8 xm9 xm10
  go_wp2_with fail
  go_ret
  exact ⟨rfl, HB1.out⟩
set_option maxRecDepth 100000 in
set_option maxHeartbeats 8000000 in
theorem hold_6 (b : Bn) (n : Nt) (ai az : Option Addr) (ci cz : Nat) (w : World) (h : NtL w ai az n) (h1 : (nmB n.n b.nm) = true) (h2 : (txB n.x b.tx) = true) (h3 : (inB n.d.size b.fd b.d) = true) (h4 : (inB n.c 0 b.c) = true) (h5 : (inB n.s 0 b.s) = true) (h6 : (inB n.e 0 b.e) = false) : Calls Tryz.prog 38 #[.agg #[.bool b.nm, .int .i64 b.tx, .int .i64 b.fd, .int .i64 b.d, .int .i64 b.c, .int .i64 b.s, .int .i64 b.e, .int .i64 b.t, .bool b.o, .int .i64 b.fi, .int .i64 b.i, .int .i64 b.fz, .int .i64 b.z], .agg #[.int .i64 n.k, .string n.n, .string n.x, .string n.d, .int .i64 n.c, .int .i64 n.s, .int .i64 n.e, .int .i64 n.t, .bool n.o, .slice ai n.l.length ci, .slice az n.z.length cz]] w (Gives (.bool false) w) := by
  have HB0 : Hid (Below w.heap.size w ((w.alloc (.cells #[.bool b.nm, .int .i64 b.tx, .int .i64 b.fd, .int .i64 b.d, .int .i64 b.c, .int .i64 b.s, .int .i64 b.e, .int .i64 b.t, .bool b.o, .int .i64 b.fi, .int .i64 b.i, .int .i64 b.fz, .int .i64 b.z] 74)).alloc (.cells #[.int .i64 n.k, .string n.n, .string n.x, .string n.d, .int .i64 n.c, .int .i64 n.s, .int .i64 n.e, .int .i64 n.t, .bool n.o, .slice ai n.l.length ci, .slice az n.z.length cz] 46))) := ((Below.refl _ w).alloc (Nat.le_refl _) _).alloc (by simp) _
  have HBo : Hid (((w.alloc (.cells #[.bool b.nm, .int .i64 b.tx, .int .i64 b.fd, .int .i64 b.d, .int .i64 b.c, .int .i64 b.s, .int .i64 b.e, .int .i64 b.t, .bool b.o, .int .i64 b.fi, .int .i64 b.i, .int .i64 b.fz, .int .i64 b.z] 74)).alloc (.cells #[.int .i64 n.k, .string n.n, .string n.x, .string n.d, .int .i64 n.c, .int .i64 n.s, .int .i64 n.e, .int .i64 n.t, .bool n.o, .slice ai n.l.length ci, .slice az n.z.length cz] 46)).heap[w.heap.size]? = some (.cells #[.bool b.nm, .int .i64 b.tx, .int .i64 b.fd, .int .i64 b.d, .int .i64 b.c, .int .i64 b.s, .int .i64 b.e, .int .i64 b.t, .bool b.o, .int .i64 b.fi, .int .i64 b.i, .int .i64 b.fz, .int .i64 b.z] 74 (0, 0))) := (Below.heap_alloc (w.alloc (.cells #[.bool b.nm, .int .i64 b.tx, .int .i64 b.fd, .int .i64 b.d, .int .i64 b.c, .int .i64 b.s, .int .i64 b.e, .int .i64 b.t, .bool b.o, .int .i64 b.fi, .int .i64 b.i, .int .i64 b.fz, .int .i64 b.z] 74)) _ _ (by simp)).trans (box_new w _ _)
  have HNo : Hid (((w.alloc (.cells #[.bool b.nm, .int .i64 b.tx, .int .i64 b.fd, .int .i64 b.d, .int .i64 b.c, .int .i64 b.s, .int .i64 b.e, .int .i64 b.t, .bool b.o, .int .i64 b.fi, .int .i64 b.i, .int .i64 b.fz, .int .i64 b.z] 74)).alloc (.cells #[.int .i64 n.k, .string n.n, .string n.x, .string n.d, .int .i64 n.c, .int .i64 n.s, .int .i64 n.e, .int .i64 n.t, .bool n.o, .slice ai n.l.length ci, .slice az n.z.length cz] 46)).heap[w.heap.size + 1]? = some (.cells #[.int .i64 n.k, .string n.n, .string n.x, .string n.d, .int .i64 n.c, .int .i64 n.s, .int .i64 n.e, .int .i64 n.t, .bool n.o, .slice ai n.l.length ci, .slice az n.z.length cz] 46 (0, 0))) := by
    have := box_new (w.alloc (.cells #[.bool b.nm, .int .i64 b.tx, .int .i64 b.fd, .int .i64 b.d, .int .i64 b.c, .int .i64 b.s, .int .i64 b.e, .int .i64 b.t, .bool b.o, .int .i64 b.fi, .int .i64 b.i, .int .i64 b.fz, .int .i64 b.z] 74)) #[.int .i64 n.k, .string n.n, .string n.x, .string n.d, .int .i64 n.c, .int .i64 n.s, .int .i64 n.e, .int .i64 n.t, .bool n.o, .slice ai n.l.length ci, .slice az n.z.length cz] 46
    show _ = _
    simpa using this
  have X1 : Hid (Xc ((w.alloc (.cells #[.bool b.nm, .int .i64 b.tx, .int .i64 b.fd, .int .i64 b.d, .int .i64 b.c, .int .i64 b.s, .int .i64 b.e, .int .i64 b.t, .bool b.o, .int .i64 b.fi, .int .i64 b.i, .int .i64 b.fz, .int .i64 b.z] 74)).alloc (.cells #[.int .i64 n.k, .string n.n, .string n.x, .string n.d, .int .i64 n.c, .int .i64 n.s, .int .i64 n.e, .int .i64 n.t, .bool n.o, .slice ai n.l.length ci, .slice az n.z.length cz] 46)) 56 #[.string n.n, .bool b.nm] (.bool true)) := fun y => by have := isName_any n.n b.nm y.to (Nat.le_trans h.hn (by decide)); rw [h1] at this; exact this
  have X2 : Hid (Xc ((w.alloc (.cells #[.bool b.nm, .int .i64 b.tx, .int .i64 b.fd, .int .i64 b.d, .int .i64 b.c, .int .i64 b.s, .int .i64 b.e, .int .i64 b.t, .bool b.o, .int .i64 b.fi, .int .i64 b.i, .int .i64 b.fz, .int .i64 b.z] 74)).alloc (.cells #[.int .i64 n.k, .string n.n, .string n.x, .string n.d, .int .i64 n.c, .int .i64 n.s, .int .i64 n.e, .int .i64 n.t, .bool n.o, .slice ai n.l.length ci, .slice az n.z.length cz] 46)) 57 #[.string n.x, .int .i64 b.tx] (.bool true)) := fun y => by have := isText_any n.x b.tx y.to (Nat.le_trans h.hx (by decide)); rw [h2] at this; exact this
  have X3 : Hid (Xc ((w.alloc (.cells #[.bool b.nm, .int .i64 b.tx, .int .i64 b.fd, .int .i64 b.d, .int .i64 b.c, .int .i64 b.s, .int .i64 b.e, .int .i64 b.t, .bool b.o, .int .i64 b.fi, .int .i64 b.i, .int .i64 b.fz, .int .i64 b.z] 74)).alloc (.cells #[.int .i64 n.k, .string n.n, .string n.x, .string n.d, .int .i64 n.c, .int .i64 n.s, .int .i64 n.e, .int .i64 n.t, .bool n.o, .slice ai n.l.length ci, .slice az n.z.length cz] 46)) 58 #[.int .i64 n.d.size, .int .i64 b.fd, .int .i64 b.d] (.bool true)) := xc_pure fun W => by have := isIn_any n.d.size b.fd b.d W; rw [h3] at this; exact this
  have X4 : Hid (Xc ((w.alloc (.cells #[.bool b.nm, .int .i64 b.tx, .int .i64 b.fd, .int .i64 b.d, .int .i64 b.c, .int .i64 b.s, .int .i64 b.e, .int .i64 b.t, .bool b.o, .int .i64 b.fi, .int .i64 b.i, .int .i64 b.fz, .int .i64 b.z] 74)).alloc (.cells #[.int .i64 n.k, .string n.n, .string n.x, .string n.d, .int .i64 n.c, .int .i64 n.s, .int .i64 n.e, .int .i64 n.t, .bool n.o, .slice ai n.l.length ci, .slice az n.z.length cz] 46)) 58 #[.int .i64 n.c, .int .i64 0, .int .i64 b.c] (.bool true)) := xc_pure fun W => by have := isIn_any n.c 0 b.c W; rw [h4] at this; exact this
  have X5 : Hid (Xc ((w.alloc (.cells #[.bool b.nm, .int .i64 b.tx, .int .i64 b.fd, .int .i64 b.d, .int .i64 b.c, .int .i64 b.s, .int .i64 b.e, .int .i64 b.t, .bool b.o, .int .i64 b.fi, .int .i64 b.i, .int .i64 b.fz, .int .i64 b.z] 74)).alloc (.cells #[.int .i64 n.k, .string n.n, .string n.x, .string n.d, .int .i64 n.c, .int .i64 n.s, .int .i64 n.e, .int .i64 n.t, .bool n.o, .slice ai n.l.length ci, .slice az n.z.length cz] 46)) 58 #[.int .i64 n.s, .int .i64 0, .int .i64 b.s] (.bool true)) := xc_pure fun W => by have := isIn_any n.s 0 b.s W; rw [h5] at this; exact this
  have X6 : Hid (Xc ((w.alloc (.cells #[.bool b.nm, .int .i64 b.tx, .int .i64 b.fd, .int .i64 b.d, .int .i64 b.c, .int .i64 b.s, .int .i64 b.e, .int .i64 b.t, .bool b.o, .int .i64 b.fi, .int .i64 b.i, .int .i64 b.fz, .int .i64 b.z] 74)).alloc (.cells #[.int .i64 n.k, .string n.n, .string n.x, .string n.d, .int .i64 n.c, .int .i64 n.s, .int .i64 n.e, .int .i64 n.t, .bool n.o, .slice ai n.l.length ci, .slice az n.z.length cz] 46)) 59 #[.int .i64 n.e, .int .i64 0, .int .i64 b.e] (.bool false)) := xc_pure fun W => by have := isIn64_any n.e 0 b.e W; rw [h6] at this; exact this
  clear h h1 h2 h3 h4 h5 h6
  obtain ⟨b0, b1, b2, b3, b4, b5, b6, b7, b8, b9, b10, b11, b12⟩ := bx13 HBo.out
  obtain ⟨m0, m1, m2, m3, m4, m5, m6, m7, m8, m9, m10⟩ := bx11 HNo.out
  go_enter Tryz.func38, Tryz.ntmps38
  go_upto_region 1 with fail
  generalize ((w.alloc (.cells #[.bool b.nm, .int .i64 b.tx, .int .i64 b.fd, .int .i64 b.d, .int .i64 b.c, .int .i64 b.s, .int .i64 b.e, .int .i64 b.t, .bool b.o, .int .i64 b.fi, .int .i64 b.i, .int .i64 b.fz, .int .i64 b.z] 74)).alloc (.cells #[.int .i64 n.k, .string n.n, .string n.x, .string n.d, .int .i64 n.c, .int .i64 n.s, .int .i64 n.e, .int .i64 n.t, .bool n.o, .slice ai n.l.length ci, .slice az n.z.length cz] 46)) = W at HB0 HBo HNo X1 X2 X3 X4 X5 X6 b0 b1 b2 b3 b4 b5 b6 b7 b8 b9 b10 b11 b12 m0 m1 m2 m3 m4 m5 m6 m7 m8 m9 m10 ⊢
  have xb0 : ∀ y : Ext W, y.to.cell? _ = _ := fun y => ext_cell y b0
  have xb1 : ∀ y : Ext W, y.to.cell? _ = _ := fun y => ext_cell y b1
  have xb2 : ∀ y : Ext W, y.to.cell? _ = _ := fun y => ext_cell y b2
  have xb3 : ∀ y : Ext W, y.to.cell? _ = _ := fun y => ext_cell y b3
  have xb4 : ∀ y : Ext W, y.to.cell? _ = _ := fun y => ext_cell y b4
  have xb5 : ∀ y : Ext W, y.to.cell? _ = _ := fun y => ext_cell y b5
  have xb6 : ∀ y : Ext W, y.to.cell? _ = _ := fun y => ext_cell y b6
  have xb7 : ∀ y : Ext W, y.to.cell? _ = _ := fun y => ext_cell y b7
  have xb8 : ∀ y : Ext W, y.to.cell? _ = _ := fun y => ext_cell y b8
  have xb9 : ∀ y : Ext W, y.to.cell? _ = _ := fun y => ext_cell y b9
  have xb10 : ∀ y : Ext W, y.to.cell? _ = _ := fun y => ext_cell y b10
  have xb11 : ∀ y : Ext W, y.to.cell? _ = _ := fun y => ext_cell y b11
  have xb12 : ∀ y : Ext W, y.to.cell? _ = _ := fun y => ext_cell y b12
  have xm0 : ∀ y : Ext W, y.to.cell? _ = _ := fun y => ext_cell y m0
  have xm1 : ∀ y : Ext W, y.to.cell? _ = _ := fun y => ext_cell y m1
  have xm2 : ∀ y : Ext W, y.to.cell? _ = _ := fun y => ext_cell y m2
  have xm3 : ∀ y : Ext W, y.to.cell? _ = _ := fun y => ext_cell y m3
  have xm4 : ∀ y : Ext W, y.to.cell? _ = _ := fun y => ext_cell y m4
  have xm5 : ∀ y : Ext W, y.to.cell? _ = _ := fun y => ext_cell y m5
  have xm6 : ∀ y : Ext W, y.to.cell? _ = _ := fun y => ext_cell y m6
  have xm7 : ∀ y : Ext W, y.to.cell? _ = _ := fun y => ext_cell y m7
  have xm8 : ∀ y : Ext W, y.to.cell? _ = _ := fun y => ext_cell y m8
  have xm9 : ∀ y : Ext W, y.to.cell? _ = _ := fun y => ext_cell y m9
  have xm10 : ∀ y : Ext W, y.to.cell? _ = _ := fun y => ext_cell y m10
  have hsome := extSome W
  clear HBo HNo b0 b1 b2 b3 b4 b5 b6 b7 b8 b9 b10 b11 b12 m0 m1 m2 m3 m4 m5 m6 m7 m8 m9 m10
  refine plain_quiet ?_
  dsimp only [List.append]
  repeat (go_big_quiet_step ((first | (go_at_call 56; with_reducible exact ext_call _ (X1.out _)) | (go_at_call 57; with_reducible exact ext_call _ (X2.out _)) | (go_at_call 58; with_reducible exact ext_call _ (X3.out _)) | (go_at_call 58; with_reducible exact ext_call _ (X4.out _)) | (go_at_call 58; with_reducible exact ext_call _ (X5.out _)) | (go_at_call 59; with_reducible exact ext_call _ (X6.out _)))))
  refine wpQuiet_nil ?_
  rintro _ ⟨y, hy⟩
  subst hy
  have HB1 := Lib.hid (HB0.out.trans (y.below.mono HB0.out.size))
  clear xb0 xb1 xb2 xb3 xb4 xb5 xb6 xb7 xb8 xb9 xb10 xb11 xb12 xm0 xm1 xm2 xm3 xm4 xm5 xm6 xm7 xm8 xm9 xm10
  go_wp2_with fail
  go_ret
  exact ⟨rfl, HB1.out⟩
set_option maxRecDepth 100000 in
set_option maxHeartbeats 8000000 in
theorem hold_7 (b : Bn) (n : Nt) (ai az : Option Addr) (ci cz : Nat) (w : World) (h : NtL w ai az n) (h1 : (nmB n.n b.nm) = true) (h2 : (txB n.x b.tx) = true) (h3 : (inB n.d.size b.fd b.d) = true) (h4 : (inB n.c 0 b.c) = true) (h5 : (inB n.s 0 b.s) = true) (h6 : (inB n.e 0 b.e) = true) (h7 : (inB n.t 0 b.t) = false) : Calls Tryz.prog 38 #[.agg #[.bool b.nm, .int .i64 b.tx, .int .i64 b.fd, .int .i64 b.d, .int .i64 b.c, .int .i64 b.s, .int .i64 b.e, .int .i64 b.t, .bool b.o, .int .i64 b.fi, .int .i64 b.i, .int .i64 b.fz, .int .i64 b.z], .agg #[.int .i64 n.k, .string n.n, .string n.x, .string n.d, .int .i64 n.c, .int .i64 n.s, .int .i64 n.e, .int .i64 n.t, .bool n.o, .slice ai n.l.length ci, .slice az n.z.length cz]] w (Gives (.bool false) w) := by
  have HB0 : Hid (Below w.heap.size w ((w.alloc (.cells #[.bool b.nm, .int .i64 b.tx, .int .i64 b.fd, .int .i64 b.d, .int .i64 b.c, .int .i64 b.s, .int .i64 b.e, .int .i64 b.t, .bool b.o, .int .i64 b.fi, .int .i64 b.i, .int .i64 b.fz, .int .i64 b.z] 74)).alloc (.cells #[.int .i64 n.k, .string n.n, .string n.x, .string n.d, .int .i64 n.c, .int .i64 n.s, .int .i64 n.e, .int .i64 n.t, .bool n.o, .slice ai n.l.length ci, .slice az n.z.length cz] 46))) := ((Below.refl _ w).alloc (Nat.le_refl _) _).alloc (by simp) _
  have HBo : Hid (((w.alloc (.cells #[.bool b.nm, .int .i64 b.tx, .int .i64 b.fd, .int .i64 b.d, .int .i64 b.c, .int .i64 b.s, .int .i64 b.e, .int .i64 b.t, .bool b.o, .int .i64 b.fi, .int .i64 b.i, .int .i64 b.fz, .int .i64 b.z] 74)).alloc (.cells #[.int .i64 n.k, .string n.n, .string n.x, .string n.d, .int .i64 n.c, .int .i64 n.s, .int .i64 n.e, .int .i64 n.t, .bool n.o, .slice ai n.l.length ci, .slice az n.z.length cz] 46)).heap[w.heap.size]? = some (.cells #[.bool b.nm, .int .i64 b.tx, .int .i64 b.fd, .int .i64 b.d, .int .i64 b.c, .int .i64 b.s, .int .i64 b.e, .int .i64 b.t, .bool b.o, .int .i64 b.fi, .int .i64 b.i, .int .i64 b.fz, .int .i64 b.z] 74 (0, 0))) := (Below.heap_alloc (w.alloc (.cells #[.bool b.nm, .int .i64 b.tx, .int .i64 b.fd, .int .i64 b.d, .int .i64 b.c, .int .i64 b.s, .int .i64 b.e, .int .i64 b.t, .bool b.o, .int .i64 b.fi, .int .i64 b.i, .int .i64 b.fz, .int .i64 b.z] 74)) _ _ (by simp)).trans (box_new w _ _)
  have HNo : Hid (((w.alloc (.cells #[.bool b.nm, .int .i64 b.tx, .int .i64 b.fd, .int .i64 b.d, .int .i64 b.c, .int .i64 b.s, .int .i64 b.e, .int .i64 b.t, .bool b.o, .int .i64 b.fi, .int .i64 b.i, .int .i64 b.fz, .int .i64 b.z] 74)).alloc (.cells #[.int .i64 n.k, .string n.n, .string n.x, .string n.d, .int .i64 n.c, .int .i64 n.s, .int .i64 n.e, .int .i64 n.t, .bool n.o, .slice ai n.l.length ci, .slice az n.z.length cz] 46)).heap[w.heap.size + 1]? = some (.cells #[.int .i64 n.k, .string n.n, .string n.x, .string n.d, .int .i64 n.c, .int .i64 n.s, .int .i64 n.e, .int .i64 n.t, .bool n.o, .slice ai n.l.length ci, .slice az n.z.length cz] 46 (0, 0))) := by
    have := box_new (w.alloc (.cells #[.bool b.nm, .int .i64 b.tx, .int .i64 b.fd, .int .i64 b.d, .int .i64 b.c, .int .i64 b.s, .int .i64 b.e, .int .i64 b.t, .bool b.o, .int .i64 b.fi, .int .i64 b.i, .int .i64 b.fz, .int .i64 b.z] 74)) #[.int .i64 n.k, .string n.n, .string n.x, .string n.d, .int .i64 n.c, .int .i64 n.s, .int .i64 n.e, .int .i64 n.t, .bool n.o, .slice ai n.l.length ci, .slice az n.z.length cz] 46
    show _ = _
    simpa using this
  have X1 : Hid (Xc ((w.alloc (.cells #[.bool b.nm, .int .i64 b.tx, .int .i64 b.fd, .int .i64 b.d, .int .i64 b.c, .int .i64 b.s, .int .i64 b.e, .int .i64 b.t, .bool b.o, .int .i64 b.fi, .int .i64 b.i, .int .i64 b.fz, .int .i64 b.z] 74)).alloc (.cells #[.int .i64 n.k, .string n.n, .string n.x, .string n.d, .int .i64 n.c, .int .i64 n.s, .int .i64 n.e, .int .i64 n.t, .bool n.o, .slice ai n.l.length ci, .slice az n.z.length cz] 46)) 56 #[.string n.n, .bool b.nm] (.bool true)) := fun y => by have := isName_any n.n b.nm y.to (Nat.le_trans h.hn (by decide)); rw [h1] at this; exact this
  have X2 : Hid (Xc ((w.alloc (.cells #[.bool b.nm, .int .i64 b.tx, .int .i64 b.fd, .int .i64 b.d, .int .i64 b.c, .int .i64 b.s, .int .i64 b.e, .int .i64 b.t, .bool b.o, .int .i64 b.fi, .int .i64 b.i, .int .i64 b.fz, .int .i64 b.z] 74)).alloc (.cells #[.int .i64 n.k, .string n.n, .string n.x, .string n.d, .int .i64 n.c, .int .i64 n.s, .int .i64 n.e, .int .i64 n.t, .bool n.o, .slice ai n.l.length ci, .slice az n.z.length cz] 46)) 57 #[.string n.x, .int .i64 b.tx] (.bool true)) := fun y => by have := isText_any n.x b.tx y.to (Nat.le_trans h.hx (by decide)); rw [h2] at this; exact this
  have X3 : Hid (Xc ((w.alloc (.cells #[.bool b.nm, .int .i64 b.tx, .int .i64 b.fd, .int .i64 b.d, .int .i64 b.c, .int .i64 b.s, .int .i64 b.e, .int .i64 b.t, .bool b.o, .int .i64 b.fi, .int .i64 b.i, .int .i64 b.fz, .int .i64 b.z] 74)).alloc (.cells #[.int .i64 n.k, .string n.n, .string n.x, .string n.d, .int .i64 n.c, .int .i64 n.s, .int .i64 n.e, .int .i64 n.t, .bool n.o, .slice ai n.l.length ci, .slice az n.z.length cz] 46)) 58 #[.int .i64 n.d.size, .int .i64 b.fd, .int .i64 b.d] (.bool true)) := xc_pure fun W => by have := isIn_any n.d.size b.fd b.d W; rw [h3] at this; exact this
  have X4 : Hid (Xc ((w.alloc (.cells #[.bool b.nm, .int .i64 b.tx, .int .i64 b.fd, .int .i64 b.d, .int .i64 b.c, .int .i64 b.s, .int .i64 b.e, .int .i64 b.t, .bool b.o, .int .i64 b.fi, .int .i64 b.i, .int .i64 b.fz, .int .i64 b.z] 74)).alloc (.cells #[.int .i64 n.k, .string n.n, .string n.x, .string n.d, .int .i64 n.c, .int .i64 n.s, .int .i64 n.e, .int .i64 n.t, .bool n.o, .slice ai n.l.length ci, .slice az n.z.length cz] 46)) 58 #[.int .i64 n.c, .int .i64 0, .int .i64 b.c] (.bool true)) := xc_pure fun W => by have := isIn_any n.c 0 b.c W; rw [h4] at this; exact this
  have X5 : Hid (Xc ((w.alloc (.cells #[.bool b.nm, .int .i64 b.tx, .int .i64 b.fd, .int .i64 b.d, .int .i64 b.c, .int .i64 b.s, .int .i64 b.e, .int .i64 b.t, .bool b.o, .int .i64 b.fi, .int .i64 b.i, .int .i64 b.fz, .int .i64 b.z] 74)).alloc (.cells #[.int .i64 n.k, .string n.n, .string n.x, .string n.d, .int .i64 n.c, .int .i64 n.s, .int .i64 n.e, .int .i64 n.t, .bool n.o, .slice ai n.l.length ci, .slice az n.z.length cz] 46)) 58 #[.int .i64 n.s, .int .i64 0, .int .i64 b.s] (.bool true)) := xc_pure fun W => by have := isIn_any n.s 0 b.s W; rw [h5] at this; exact this
  have X6 : Hid (Xc ((w.alloc (.cells #[.bool b.nm, .int .i64 b.tx, .int .i64 b.fd, .int .i64 b.d, .int .i64 b.c, .int .i64 b.s, .int .i64 b.e, .int .i64 b.t, .bool b.o, .int .i64 b.fi, .int .i64 b.i, .int .i64 b.fz, .int .i64 b.z] 74)).alloc (.cells #[.int .i64 n.k, .string n.n, .string n.x, .string n.d, .int .i64 n.c, .int .i64 n.s, .int .i64 n.e, .int .i64 n.t, .bool n.o, .slice ai n.l.length ci, .slice az n.z.length cz] 46)) 59 #[.int .i64 n.e, .int .i64 0, .int .i64 b.e] (.bool true)) := xc_pure fun W => by have := isIn64_any n.e 0 b.e W; rw [h6] at this; exact this
  have X7 : Hid (Xc ((w.alloc (.cells #[.bool b.nm, .int .i64 b.tx, .int .i64 b.fd, .int .i64 b.d, .int .i64 b.c, .int .i64 b.s, .int .i64 b.e, .int .i64 b.t, .bool b.o, .int .i64 b.fi, .int .i64 b.i, .int .i64 b.fz, .int .i64 b.z] 74)).alloc (.cells #[.int .i64 n.k, .string n.n, .string n.x, .string n.d, .int .i64 n.c, .int .i64 n.s, .int .i64 n.e, .int .i64 n.t, .bool n.o, .slice ai n.l.length ci, .slice az n.z.length cz] 46)) 59 #[.int .i64 n.t, .int .i64 0, .int .i64 b.t] (.bool false)) := xc_pure fun W => by have := isIn64_any n.t 0 b.t W; rw [h7] at this; exact this
  clear h h1 h2 h3 h4 h5 h6 h7
  obtain ⟨b0, b1, b2, b3, b4, b5, b6, b7, b8, b9, b10, b11, b12⟩ := bx13 HBo.out
  obtain ⟨m0, m1, m2, m3, m4, m5, m6, m7, m8, m9, m10⟩ := bx11 HNo.out
  go_enter Tryz.func38, Tryz.ntmps38
  go_upto_region 1 with fail
  generalize ((w.alloc (.cells #[.bool b.nm, .int .i64 b.tx, .int .i64 b.fd, .int .i64 b.d, .int .i64 b.c, .int .i64 b.s, .int .i64 b.e, .int .i64 b.t, .bool b.o, .int .i64 b.fi, .int .i64 b.i, .int .i64 b.fz, .int .i64 b.z] 74)).alloc (.cells #[.int .i64 n.k, .string n.n, .string n.x, .string n.d, .int .i64 n.c, .int .i64 n.s, .int .i64 n.e, .int .i64 n.t, .bool n.o, .slice ai n.l.length ci, .slice az n.z.length cz] 46)) = W at HB0 HBo HNo X1 X2 X3 X4 X5 X6 X7 b0 b1 b2 b3 b4 b5 b6 b7 b8 b9 b10 b11 b12 m0 m1 m2 m3 m4 m5 m6 m7 m8 m9 m10 ⊢
  have xb0 : ∀ y : Ext W, y.to.cell? _ = _ := fun y => ext_cell y b0
  have xb1 : ∀ y : Ext W, y.to.cell? _ = _ := fun y => ext_cell y b1
  have xb2 : ∀ y : Ext W, y.to.cell? _ = _ := fun y => ext_cell y b2
  have xb3 : ∀ y : Ext W, y.to.cell? _ = _ := fun y => ext_cell y b3
  have xb4 : ∀ y : Ext W, y.to.cell? _ = _ := fun y => ext_cell y b4
  have xb5 : ∀ y : Ext W, y.to.cell? _ = _ := fun y => ext_cell y b5
  have xb6 : ∀ y : Ext W, y.to.cell? _ = _ := fun y => ext_cell y b6
  have xb7 : ∀ y : Ext W, y.to.cell? _ = _ := fun y => ext_cell y b7
  have xb8 : ∀ y : Ext W, y.to.cell? _ = _ := fun y => ext_cell y b8
  have xb9 : ∀ y : Ext W, y.to.cell? _ = _ := fun y => ext_cell y b9
  have xb10 : ∀ y : Ext W, y.to.cell? _ = _ := fun y => ext_cell y b10
  have xb11 : ∀ y : Ext W, y.to.cell? _ = _ := fun y => ext_cell y b11
  have xb12 : ∀ y : Ext W, y.to.cell? _ = _ := fun y => ext_cell y b12
  have xm0 : ∀ y : Ext W, y.to.cell? _ = _ := fun y => ext_cell y m0
  have xm1 : ∀ y : Ext W, y.to.cell? _ = _ := fun y => ext_cell y m1
  have xm2 : ∀ y : Ext W, y.to.cell? _ = _ := fun y => ext_cell y m2
  have xm3 : ∀ y : Ext W, y.to.cell? _ = _ := fun y => ext_cell y m3
  have xm4 : ∀ y : Ext W, y.to.cell? _ = _ := fun y => ext_cell y m4
  have xm5 : ∀ y : Ext W, y.to.cell? _ = _ := fun y => ext_cell y m5
  have xm6 : ∀ y : Ext W, y.to.cell? _ = _ := fun y => ext_cell y m6
  have xm7 : ∀ y : Ext W, y.to.cell? _ = _ := fun y => ext_cell y m7
  have xm8 : ∀ y : Ext W, y.to.cell? _ = _ := fun y => ext_cell y m8
  have xm9 : ∀ y : Ext W, y.to.cell? _ = _ := fun y => ext_cell y m9
  have xm10 : ∀ y : Ext W, y.to.cell? _ = _ := fun y => ext_cell y m10
  have hsome := extSome W
  clear HBo HNo b0 b1 b2 b3 b4 b5 b6 b7 b8 b9 b10 b11 b12 m0 m1 m2 m3 m4 m5 m6 m7 m8 m9 m10
  refine plain_quiet ?_
  dsimp only [List.append]
  repeat (go_big_quiet_step ((first | (go_at_call 56; with_reducible exact ext_call _ (X1.out _)) | (go_at_call 57; with_reducible exact ext_call _ (X2.out _)) | (go_at_call 58; with_reducible exact ext_call _ (X3.out _)) | (go_at_call 58; with_reducible exact ext_call _ (X4.out _)) | (go_at_call 58; with_reducible exact ext_call _ (X5.out _)) | (go_at_call 59; with_reducible exact ext_call _ (X6.out _)) | (go_at_call 59; with_reducible exact ext_call _ (X7.out _)))))
  refine wpQuiet_nil ?_
  rintro _ ⟨y, hy⟩
  subst hy
  have HB1 := Lib.hid (HB0.out.trans (y.below.mono HB0.out.size))
  clear xb0 xb1 xb2 xb3 xb4 xb5 xb6 xb7 xb8 xb9 xb10 xb11 xb12 xm0 xm1 xm2 xm3 xm4 xm5 xm6 xm7 xm8 xm9 xm10
  go_wp2_with fail
  go_ret
  exact ⟨rfl, HB1.out⟩
set_option maxRecDepth 100000 in
set_option maxHeartbeats 8000000 in
theorem hold_8_01 (b : Bn) (n : Nt) (ai az : Option Addr) (ci cz : Nat) (w : World) (h : NtL w ai az n) (h1 : (nmB n.n b.nm) = true) (h2 : (txB n.x b.tx) = true) (h3 : (inB n.d.size b.fd b.d) = true) (h4 : (inB n.c 0 b.c) = true) (h5 : (inB n.s 0 b.s) = true) (h6 : (inB n.e 0 b.e) = true) (h7 : (inB n.t 0 b.t) = true) : Calls Tryz.prog 38 #[.agg #[.bool b.nm, .int .i64 b.tx, .int .i64 b.fd, .int .i64 b.d, .int .i64 b.c, .int .i64 b.s, .int .i64 b.e, .int .i64 b.t, .bool false, .int .i64 b.fi, .int .i64 b.i, .int .i64 b.fz, .int .i64 b.z], .agg #[.int .i64 n.k, .string n.n, .string n.x, .string n.d, .int .i64 n.c, .int .i64 n.s, .int .i64 n.e, .int .i64 n.t, .bool true, .slice ai n.l.length ci, .slice az n.z.length cz]] w (Gives (.bool false) w) := by
  have HB0 : Hid (Below w.heap.size w ((w.alloc (.cells #[.bool b.nm, .int .i64 b.tx, .int .i64 b.fd, .int .i64 b.d, .int .i64 b.c, .int .i64 b.s, .int .i64 b.e, .int .i64 b.t, .bool false, .int .i64 b.fi, .int .i64 b.i, .int .i64 b.fz, .int .i64 b.z] 74)).alloc (.cells #[.int .i64 n.k, .string n.n, .string n.x, .string n.d, .int .i64 n.c, .int .i64 n.s, .int .i64 n.e, .int .i64 n.t, .bool true, .slice ai n.l.length ci, .slice az n.z.length cz] 46))) := ((Below.refl _ w).alloc (Nat.le_refl _) _).alloc (by simp) _
  have HBo : Hid (((w.alloc (.cells #[.bool b.nm, .int .i64 b.tx, .int .i64 b.fd, .int .i64 b.d, .int .i64 b.c, .int .i64 b.s, .int .i64 b.e, .int .i64 b.t, .bool false, .int .i64 b.fi, .int .i64 b.i, .int .i64 b.fz, .int .i64 b.z] 74)).alloc (.cells #[.int .i64 n.k, .string n.n, .string n.x, .string n.d, .int .i64 n.c, .int .i64 n.s, .int .i64 n.e, .int .i64 n.t, .bool true, .slice ai n.l.length ci, .slice az n.z.length cz] 46)).heap[w.heap.size]? = some (.cells #[.bool b.nm, .int .i64 b.tx, .int .i64 b.fd, .int .i64 b.d, .int .i64 b.c, .int .i64 b.s, .int .i64 b.e, .int .i64 b.t, .bool false, .int .i64 b.fi, .int .i64 b.i, .int .i64 b.fz, .int .i64 b.z] 74 (0, 0))) := (Below.heap_alloc (w.alloc (.cells #[.bool b.nm, .int .i64 b.tx, .int .i64 b.fd, .int .i64 b.d, .int .i64 b.c, .int .i64 b.s, .int .i64 b.e, .int .i64 b.t, .bool false, .int .i64 b.fi, .int .i64 b.i, .int .i64 b.fz, .int .i64 b.z] 74)) _ _ (by simp)).trans (box_new w _ _)
  have HNo : Hid (((w.alloc (.cells #[.bool b.nm, .int .i64 b.tx, .int .i64 b.fd, .int .i64 b.d, .int .i64 b.c, .int .i64 b.s, .int .i64 b.e, .int .i64 b.t, .bool false, .int .i64 b.fi, .int .i64 b.i, .int .i64 b.fz, .int .i64 b.z] 74)).alloc (.cells #[.int .i64 n.k, .string n.n, .string n.x, .string n.d, .int .i64 n.c, .int .i64 n.s, .int .i64 n.e, .int .i64 n.t, .bool true, .slice ai n.l.length ci, .slice az n.z.length cz] 46)).heap[w.heap.size + 1]? = some (.cells #[.int .i64 n.k, .string n.n, .string n.x, .string n.d, .int .i64 n.c, .int .i64 n.s, .int .i64 n.e, .int .i64 n.t, .bool true, .slice ai n.l.length ci, .slice az n.z.length cz] 46 (0, 0))) := by
    have := box_new (w.alloc (.cells #[.bool b.nm, .int .i64 b.tx, .int .i64 b.fd, .int .i64 b.d, .int .i64 b.c, .int .i64 b.s, .int .i64 b.e, .int .i64 b.t, .bool false, .int .i64 b.fi, .int .i64 b.i, .int .i64 b.fz, .int .i64 b.z] 74)) #[.int .i64 n.k, .string n.n, .string n.x, .string n.d, .int .i64 n.c, .int .i64 n.s, .int .i64 n.e, .int .i64 n.t, .bool true, .slice ai n.l.length ci, .slice az n.z.length cz] 46
    show _ = _
    simpa using this
  have X1 : Hid (Xc ((w.alloc (.cells #[.bool b.nm, .int .i64 b.tx, .int .i64 b.fd, .int .i64 b.d, .int .i64 b.c, .int .i64 b.s, .int .i64 b.e, .int .i64 b.t, .bool false, .int .i64 b.fi, .int .i64 b.i, .int .i64 b.fz, .int .i64 b.z] 74)).alloc (.cells #[.int .i64 n.k, .string n.n, .string n.x, .string n.d, .int .i64 n.c, .int .i64 n.s, .int .i64 n.e, .int .i64 n.t, .bool true, .slice ai n.l.length ci, .slice az n.z.length cz] 46)) 56 #[.string n.n, .bool b.nm] (.bool true)) := fun y => by have := isName_any n.n b.nm y.to (Nat.le_trans h.hn (by decide)); rw [h1] at this; exact this
  have X2 : Hid (Xc ((w.alloc (.cells #[.bool b.nm, .int .i64 b.tx, .int .i64 b.fd, .int .i64 b.d, .int .i64 b.c, .int .i64 b.s, .int .i64 b.e, .int .i64 b.t, .bool false, .int .i64 b.fi, .int .i64 b.i, .int .i64 b.fz, .int .i64 b.z] 74)).alloc (.cells #[.int .i64 n.k, .string n.n, .string n.x, .string n.d, .int .i64 n.c, .int .i64 n.s, .int .i64 n.e, .int .i64 n.t, .bool true, .slice ai n.l.length ci, .slice az n.z.length cz] 46)) 57 #[.string n.x, .int .i64 b.tx] (.bool true)) := fun y => by have := isText_any n.x b.tx y.to (Nat.le_trans h.hx (by decide)); rw [h2] at this; exact this
  have X3 : Hid (Xc ((w.alloc (.cells #[.bool b.nm, .int .i64 b.tx, .int .i64 b.fd, .int .i64 b.d, .int .i64 b.c, .int .i64 b.s, .int .i64 b.e, .int .i64 b.t, .bool false, .int .i64 b.fi, .int .i64 b.i, .int .i64 b.fz, .int .i64 b.z] 74)).alloc (.cells #[.int .i64 n.k, .string n.n, .string n.x, .string n.d, .int .i64 n.c, .int .i64 n.s, .int .i64 n.e, .int .i64 n.t, .bool true, .slice ai n.l.length ci, .slice az n.z.length cz] 46)) 58 #[.int .i64 n.d.size, .int .i64 b.fd, .int .i64 b.d] (.bool true)) := xc_pure fun W => by have := isIn_any n.d.size b.fd b.d W; rw [h3] at this; exact this
  have X4 : Hid (Xc ((w.alloc (.cells #[.bool b.nm, .int .i64 b.tx, .int .i64 b.fd, .int .i64 b.d, .int .i64 b.c, .int .i64 b.s, .int .i64 b.e, .int .i64 b.t, .bool false, .int .i64 b.fi, .int .i64 b.i, .int .i64 b.fz, .int .i64 b.z] 74)).alloc (.cells #[.int .i64 n.k, .string n.n, .string n.x, .string n.d, .int .i64 n.c, .int .i64 n.s, .int .i64 n.e, .int .i64 n.t, .bool true, .slice ai n.l.length ci, .slice az n.z.length cz] 46)) 58 #[.int .i64 n.c, .int .i64 0, .int .i64 b.c] (.bool true)) := xc_pure fun W => by have := isIn_any n.c 0 b.c W; rw [h4] at this; exact this
  have X5 : Hid (Xc ((w.alloc (.cells #[.bool b.nm, .int .i64 b.tx, .int .i64 b.fd, .int .i64 b.d, .int .i64 b.c, .int .i64 b.s, .int .i64 b.e, .int .i64 b.t, .bool false, .int .i64 b.fi, .int .i64 b.i, .int .i64 b.fz, .int .i64 b.z] 74)).alloc (.cells #[.int .i64 n.k, .string n.n, .string n.x, .string n.d, .int .i64 n.c, .int .i64 n.s, .int .i64 n.e, .int .i64 n.t, .bool true, .slice ai n.l.length ci, .slice az n.z.length cz] 46)) 58 #[.int .i64 n.s, .int .i64 0, .int .i64 b.s] (.bool true)) := xc_pure fun W => by have := isIn_any n.s 0 b.s W; rw [h5] at this; exact this
  have X6 : Hid (Xc ((w.alloc (.cells #[.bool b.nm, .int .i64 b.tx, .int .i64 b.fd, .int .i64 b.d, .int .i64 b.c, .int .i64 b.s, .int .i64 b.e, .int .i64 b.t, .bool false, .int .i64 b.fi, .int .i64 b.i, .int .i64 b.fz, .int .i64 b.z] 74)).alloc (.cells #[.int .i64 n.k, .string n.n, .string n.x, .string n.d, .int .i64 n.c, .int .i64 n.s, .int .i64 n.e, .int .i64 n.t, .bool true, .slice ai n.l.length ci, .slice az n.z.length cz] 46)) 59 #[.int .i64 n.e, .int .i64 0, .int .i64 b.e] (.bool true)) := xc_pure fun W => by have := isIn64_any n.e 0 b.e W; rw [h6] at this; exact this
  have X7 : Hid (Xc ((w.alloc (.cells #[.bool b.nm, .int .i64 b.tx, .int .i64 b.fd, .int .i64 b.d, .int .i64 b.c, .int .i64 b.s, .int .i64 b.e, .int .i64 b.t, .bool false, .int .i64 b.fi, .int .i64 b.i, .int .i64 b.fz, .int .i64 b.z] 74)).alloc (.cells #[.int .i64 n.k, .string n.n, .string n.x, .string n.d, .int .i64 n.c, .int .i64 n.s, .int .i64 n.e, .int .i64 n.t, .bool true, .slice ai n.l.length ci, .slice az n.z.length cz] 46)) 59 #[.int .i64 n.t, .int .i64 0, .int .i64 b.t] (.bool true)) := xc_pure fun W => by have := isIn64_any n.t 0 b.t W; rw [h7] at this; exact this
  clear h h1 h2 h3 h4 h5 h6 h7
  obtain ⟨b0, b1, b2, b3, b4, b5, b6, b7, b8, b9, b10, b11, b12⟩ := bx13 HBo.out
  obtain ⟨m0, m1, m2, m3, m4, m5, m6, m7, m8, m9, m10⟩ := bx11 HNo.out
  go_enter Tryz.func38, Tryz.ntmps38
  go_upto_region 1 with fail
  generalize ((w.alloc (.cells #[.bool b.nm, .int .i64 b.tx, .int .i64 b.fd, .int .i64 b.d, .int .i64 b.c, .int .i64 b.s, .int .i64 b.e, .int .i64 b.t, .bool false, .int .i64 b.fi, .int .i64 b.i, .int .i64 b.fz, .int .i64 b.z] 74)).alloc (.cells #[.int .i64 n.k, .string n.n, .string n.x, .string n.d, .int .i64 n.c, .int .i64 n.s, .int .i64 n.e, .int .i64 n.t, .bool true, .slice ai n.l.length ci, .slice az n.z.length cz] 46)) = W at HB0 HBo HNo X1 X2 X3 X4 X5 X6 X7 b0 b1 b2 b3 b4 b5 b6 b7 b8 b9 b10 b11 b12 m0 m1 m2 m3 m4 m5 m6 m7 m8 m9 m10 ⊢
  have xb0 : ∀ y : Ext W, y.to.cell? _ = _ := fun y => ext_cell y b0
  have xb1 : ∀ y : Ext W, y.to.cell? _ = _ := fun y => ext_cell y b1
  have xb2 : ∀ y : Ext W, y.to.cell? _ = _ := fun y => ext_cell y b2
  have xb3 : ∀ y : Ext W, y.to.cell? _ = _ := fun y => ext_cell y b3
  have xb4 : ∀ y : Ext W, y.to.cell? _ = _ := fun y => ext_cell y b4
  have xb5 : ∀ y : Ext W, y.to.cell? _ = _ := fun y => ext_cell y b5
  have xb6 : ∀ y : Ext W, y.to.cell? _ = _ := fun y => ext_cell y b6
  have xb7 : ∀ y : Ext W, y.to.cell? _ = _ := fun y => ext_cell y b7
  have xb8 : ∀ y : Ext W, y.to.cell? _ = _ := fun y => ext_cell y b8
  have xb9 : ∀ y : Ext W, y.to.cell? _ = _ := fun y => ext_cell y b9
  have xb10 : ∀ y : Ext W, y.to.cell? _ = _ := fun y => ext_cell y b10
  have xb11 : ∀ y : Ext W, y.to.cell? _ = _ := fun y => ext_cell y b11
  have xb12 : ∀ y : Ext W, y.to.cell? _ = _ := fun y => ext_cell y b12
  have xm0 : ∀ y : Ext W, y.to.cell? _ = _ := fun y => ext_cell y m0
  have xm1 : ∀ y : Ext W, y.to.cell? _ = _ := fun y => ext_cell y m1
  have xm2 : ∀ y : Ext W, y.to.cell? _ = _ := fun y => ext_cell y m2
  have xm3 : ∀ y : Ext W, y.to.cell? _ = _ := fun y => ext_cell y m3
  have xm4 : ∀ y : Ext W, y.to.cell? _ = _ := fun y => ext_cell y m4
  have xm5 : ∀ y : Ext W, y.to.cell? _ = _ := fun y => ext_cell y m5
  have xm6 : ∀ y : Ext W, y.to.cell? _ = _ := fun y => ext_cell y m6
  have xm7 : ∀ y : Ext W, y.to.cell? _ = _ := fun y => ext_cell y m7
  have xm8 : ∀ y : Ext W, y.to.cell? _ = _ := fun y => ext_cell y m8
  have xm9 : ∀ y : Ext W, y.to.cell? _ = _ := fun y => ext_cell y m9
  have xm10 : ∀ y : Ext W, y.to.cell? _ = _ := fun y => ext_cell y m10
  have hsome := extSome W
  clear HBo HNo b0 b1 b2 b3 b4 b5 b6 b7 b8 b9 b10 b11 b12 m0 m1 m2 m3 m4 m5 m6 m7 m8 m9 m10
  refine plain_quiet ?_
  dsimp only [List.append]
  repeat (go_big_quiet_step ((first | (go_at_call 56; with_reducible exact ext_call _ (X1.out _)) | (go_at_call 57; with_reducible exact ext_call _ (X2.out _)) | (go_at_call 58; with_reducible exact ext_call _ (X3.out _)) | (go_at_call 58; with_reducible exact ext_call _ (X4.out _)) | (go_at_call 58; with_reducible exact ext_call _ (X5.out _)) | (go_at_call 59; with_reducible exact ext_call _ (X6.out _)) | (go_at_call 59; with_reducible exact ext_call _ (X7.out _)))))
  refine wpQuiet_nil ?_
  rintro _ ⟨y, hy⟩
  subst hy
  have HB1 := Lib.hid (HB0.out.trans (y.below.mono HB0.out.size))
  clear xb0 xb1 xb2 xb3 xb4 xb5 xb6 xb7 xb8 xb9 xb10 xb11 xb12 xm0 xm1 xm2 xm3 xm4 xm5 xm6 xm7 xm8 xm9 xm10
  go_wp2_with fail
  go_ret
  exact ⟨rfl, HB1.out⟩
set_option maxRecDepth 100000 in
set_option maxHeartbeats 8000000 in
theorem hold_9_10 (b : Bn) (n : Nt) (ai az : Option Addr) (ci cz : Nat) (w : World) (h : NtL w ai az n) (h1 : (nmB n.n b.nm) = true) (h2 : (txB n.x b.tx) = true) (h3 : (inB n.d.size b.fd b.d) = true) (h4 : (inB n.c 0 b.c) = true) (h5 : (inB n.s 0 b.s) = true) (h6 : (inB n.e 0 b.e) = true) (h7 : (inB n.t 0 b.t) = true) (h9 : (inB n.l.length b.fi b.i) = false) : Calls Tryz.prog 38 #[.agg #[.bool b.nm, .int .i64 b.tx, .int .i64 b.fd, .int .i64 b.d, .int .i64 b.c, .int .i64 b.s, .int .i64 b.e, .int .i64 b.t, .bool true, .int .i64 b.fi, .int .i64 b.i, .int .i64 b.fz, .int .i64 b.z], .agg #[.int .i64 n.k, .string n.n, .string n.x, .string n.d, .int .i64 n.c, .int .i64 n.s, .int .i64 n.e, .int .i64 n.t, .bool n.o, .slice ai n.l.length ci, .slice az n.z.length cz]] w (Gives (.bool false) w) := by
  have HB0 : Hid (Below w.heap.size w ((w.alloc (.cells #[.bool b.nm, .int .i64 b.tx, .int .i64 b.fd, .int .i64 b.d, .int .i64 b.c, .int .i64 b.s, .int .i64 b.e, .int .i64 b.t, .bool true, .int .i64 b.fi, .int .i64 b.i, .int .i64 b.fz, .int .i64 b.z] 74)).alloc (.cells #[.int .i64 n.k, .string n.n, .string n.x, .string n.d, .int .i64 n.c, .int .i64 n.s, .int .i64 n.e, .int .i64 n.t, .bool n.o, .slice ai n.l.length ci, .slice az n.z.length cz] 46))) := ((Below.refl _ w).alloc (Nat.le_refl _) _).alloc (by simp) _
  have HBo : Hid (((w.alloc (.cells #[.bool b.nm, .int .i64 b.tx, .int .i64 b.fd, .int .i64 b.d, .int .i64 b.c, .int .i64 b.s, .int .i64 b.e, .int .i64 b.t, .bool true, .int .i64 b.fi, .int .i64 b.i, .int .i64 b.fz, .int .i64 b.z] 74)).alloc (.cells #[.int .i64 n.k, .string n.n, .string n.x, .string n.d, .int .i64 n.c, .int .i64 n.s, .int .i64 n.e, .int .i64 n.t, .bool n.o, .slice ai n.l.length ci, .slice az n.z.length cz] 46)).heap[w.heap.size]? = some (.cells #[.bool b.nm, .int .i64 b.tx, .int .i64 b.fd, .int .i64 b.d, .int .i64 b.c, .int .i64 b.s, .int .i64 b.e, .int .i64 b.t, .bool true, .int .i64 b.fi, .int .i64 b.i, .int .i64 b.fz, .int .i64 b.z] 74 (0, 0))) := (Below.heap_alloc (w.alloc (.cells #[.bool b.nm, .int .i64 b.tx, .int .i64 b.fd, .int .i64 b.d, .int .i64 b.c, .int .i64 b.s, .int .i64 b.e, .int .i64 b.t, .bool true, .int .i64 b.fi, .int .i64 b.i, .int .i64 b.fz, .int .i64 b.z] 74)) _ _ (by simp)).trans (box_new w _ _)
  have HNo : Hid (((w.alloc (.cells #[.bool b.nm, .int .i64 b.tx, .int .i64 b.fd, .int .i64 b.d, .int .i64 b.c, .int .i64 b.s, .int .i64 b.e, .int .i64 b.t, .bool true, .int .i64 b.fi, .int .i64 b.i, .int .i64 b.fz, .int .i64 b.z] 74)).alloc (.cells #[.int .i64 n.k, .string n.n, .string n.x, .string n.d, .int .i64 n.c, .int .i64 n.s, .int .i64 n.e, .int .i64 n.t, .bool n.o, .slice ai n.l.length ci, .slice az n.z.length cz] 46)).heap[w.heap.size + 1]? = some (.cells #[.int .i64 n.k, .string n.n, .string n.x, .string n.d, .int .i64 n.c, .int .i64 n.s, .int .i64 n.e, .int .i64 n.t, .bool n.o, .slice ai n.l.length ci, .slice az n.z.length cz] 46 (0, 0))) := by
    have := box_new (w.alloc (.cells #[.bool b.nm, .int .i64 b.tx, .int .i64 b.fd, .int .i64 b.d, .int .i64 b.c, .int .i64 b.s, .int .i64 b.e, .int .i64 b.t, .bool true, .int .i64 b.fi, .int .i64 b.i, .int .i64 b.fz, .int .i64 b.z] 74)) #[.int .i64 n.k, .string n.n, .string n.x, .string n.d, .int .i64 n.c, .int .i64 n.s, .int .i64 n.e, .int .i64 n.t, .bool n.o, .slice ai n.l.length ci, .slice az n.z.length cz] 46
    show _ = _
    simpa using this
  have X1 : Hid (Xc ((w.alloc (.cells #[.bool b.nm, .int .i64 b.tx, .int .i64 b.fd, .int .i64 b.d, .int .i64 b.c, .int .i64 b.s, .int .i64 b.e, .int .i64 b.t, .bool true, .int .i64 b.fi, .int .i64 b.i, .int .i64 b.fz, .int .i64 b.z] 74)).alloc (.cells #[.int .i64 n.k, .string n.n, .string n.x, .string n.d, .int .i64 n.c, .int .i64 n.s, .int .i64 n.e, .int .i64 n.t, .bool n.o, .slice ai n.l.length ci, .slice az n.z.length cz] 46)) 56 #[.string n.n, .bool b.nm] (.bool true)) := fun y => by have := isName_any n.n b.nm y.to (Nat.le_trans h.hn (by decide)); rw [h1] at this; exact this
  have X2 : Hid (Xc ((w.alloc (.cells #[.bool b.nm, .int .i64 b.tx, .int .i64 b.fd, .int .i64 b.d, .int .i64 b.c, .int .i64 b.s, .int .i64 b.e, .int .i64 b.t, .bool true, .int .i64 b.fi, .int .i64 b.i, .int .i64 b.fz, .int .i64 b.z] 74)).alloc (.cells #[.int .i64 n.k, .string n.n, .string n.x, .string n.d, .int .i64 n.c, .int .i64 n.s, .int .i64 n.e, .int .i64 n.t, .bool n.o, .slice ai n.l.length ci, .slice az n.z.length cz] 46)) 57 #[.string n.x, .int .i64 b.tx] (.bool true)) := fun y => by have := isText_any n.x b.tx y.to (Nat.le_trans h.hx (by decide)); rw [h2] at this; exact this
  have X3 : Hid (Xc ((w.alloc (.cells #[.bool b.nm, .int .i64 b.tx, .int .i64 b.fd, .int .i64 b.d, .int .i64 b.c, .int .i64 b.s, .int .i64 b.e, .int .i64 b.t, .bool true, .int .i64 b.fi, .int .i64 b.i, .int .i64 b.fz, .int .i64 b.z] 74)).alloc (.cells #[.int .i64 n.k, .string n.n, .string n.x, .string n.d, .int .i64 n.c, .int .i64 n.s, .int .i64 n.e, .int .i64 n.t, .bool n.o, .slice ai n.l.length ci, .slice az n.z.length cz] 46)) 58 #[.int .i64 n.d.size, .int .i64 b.fd, .int .i64 b.d] (.bool true)) := xc_pure fun W => by have := isIn_any n.d.size b.fd b.d W; rw [h3] at this; exact this
  have X4 : Hid (Xc ((w.alloc (.cells #[.bool b.nm, .int .i64 b.tx, .int .i64 b.fd, .int .i64 b.d, .int .i64 b.c, .int .i64 b.s, .int .i64 b.e, .int .i64 b.t, .bool true, .int .i64 b.fi, .int .i64 b.i, .int .i64 b.fz, .int .i64 b.z] 74)).alloc (.cells #[.int .i64 n.k, .string n.n, .string n.x, .string n.d, .int .i64 n.c, .int .i64 n.s, .int .i64 n.e, .int .i64 n.t, .bool n.o, .slice ai n.l.length ci, .slice az n.z.length cz] 46)) 58 #[.int .i64 n.c, .int .i64 0, .int .i64 b.c] (.bool true)) := xc_pure fun W => by have := isIn_any n.c 0 b.c W; rw [h4] at this; exact this
  have X5 : Hid (Xc ((w.alloc (.cells #[.bool b.nm, .int .i64 b.tx, .int .i64 b.fd, .int .i64 b.d, .int .i64 b.c, .int .i64 b.s, .int .i64 b.e, .int .i64 b.t, .bool true, .int .i64 b.fi, .int .i64 b.i, .int .i64 b.fz, .int .i64 b.z] 74)).alloc (.cells #[.int .i64 n.k, .string n.n, .string n.x, .string n.d, .int .i64 n.c, .int .i64 n.s, .int .i64 n.e, .int .i64 n.t, .bool n.o, .slice ai n.l.length ci, .slice az n.z.length cz] 46)) 58 #[.int .i64 n.s, .int .i64 0, .int .i64 b.s] (.bool true)) := xc_pure fun W => by have := isIn_any n.s 0 b.s W; rw [h5] at this; exact this
  have X6 : Hid (Xc ((w.alloc (.cells #[.bool b.nm, .int .i64 b.tx, .int .i64 b.fd, .int .i64 b.d, .int .i64 b.c, .int .i64 b.s, .int .i64 b.e, .int .i64 b.t, .bool true, .int .i64 b.fi, .int .i64 b.i, .int .i64 b.fz, .int .i64 b.z] 74)).alloc (.cells #[.int .i64 n.k, .string n.n, .string n.x, .string n.d, .int .i64 n.c, .int .i64 n.s, .int .i64 n.e, .int .i64 n.t, .bool n.o, .slice ai n.l.length ci, .slice az n.z.length cz] 46)) 59 #[.int .i64 n.e, .int .i64 0, .int .i64 b.e] (.bool true)) := xc_pure fun W => by have := isIn64_any n.e 0 b.e W; rw [h6] at this; exact this
  have X7 : Hid (Xc ((w.alloc (.cells #[.bool b.nm, .int .i64 b.tx, .int .i64 b.fd, .int .i64 b.d, .int .i64 b.c, .int .i64 b.s, .int .i64 b.e, .int .i64 b.t, .bool true, .int .i64 b.fi, .int .i64 b.i, .int .i64 b.fz, .int .i64 b.z] 74)).alloc (.cells #[.int .i64 n.k, .string n.n, .string n.x, .string n.d, .int .i64 n.c, .int .i64 n.s, .int .i64 n.e, .int .i64 n.t, .bool n.o, .slice ai n.l.length ci, .slice az n.z.length cz] 46)) 59 #[.int .i64 n.t, .int .i64 0, .int .i64 b.t] (.bool true)) := xc_pure fun W => by have := isIn64_any n.t 0 b.t W; rw [h7] at this; exact this
  have X9 : Hid (Xc ((w.alloc (.cells #[.bool b.nm, .int .i64 b.tx, .int .i64 b.fd, .int .i64 b.d, .int .i64 b.c, .int .i64 b.s, .int .i64 b.e, .int .i64 b.t, .bool true, .int .i64 b.fi, .int .i64 b.i, .int .i64 b.fz, .int .i64 b.z] 74)).alloc (.cells #[.int .i64 n.k, .string n.n, .string n.x, .string n.d, .int .i64 n.c, .int .i64 n.s, .int .i64 n.e, .int .i64 n.t, .bool n.o, .slice ai n.l.length ci, .slice az n.z.length cz] 46)) 58 #[.int .i64 n.l.length, .int .i64 b.fi, .int .i64 b.i] (.bool false)) := xc_pure fun W => by have := isIn_any n.l.length b.fi b.i W; rw [h9] at this; exact this
  clear h h1 h2 h3 h4 h5 h6 h7 h9
  obtain ⟨b0, b1, b2, b3, b4, b5, b6, b7, b8, b9, b10, b11, b12⟩ := bx13 HBo.out
  obtain ⟨m0, m1, m2, m3, m4, m5, m6, m7, m8, m9, m10⟩ := bx11 HNo.out
  go_enter Tryz.func38, Tryz.ntmps38
  go_upto_region 1 with fail
  generalize ((w.alloc (.cells #[.bool b.nm, .int .i64 b.tx, .int .i64 b.fd, .int .i64 b.d, .int .i64 b.c, .int .i64 b.s, .int .i64 b.e, .int .i64 b.t, .bool true, .int .i64 b.fi, .int .i64 b.i, .int .i64 b.fz, .int .i64 b.z] 74)).alloc (.cells #[.int .i64 n.k, .string n.n, .string n.x, .string n.d, .int .i64 n.c, .int .i64 n.s, .int .i64 n.e, .int .i64 n.t, .bool n.o, .slice ai n.l.length ci, .slice az n.z.length cz] 46)) = W at HB0 HBo HNo X1 X2 X3 X4 X5 X6 X7 X9 b0 b1 b2 b3 b4 b5 b6 b7 b8 b9 b10 b11 b12 m0 m1 m2 m3 m4 m5 m6 m7 m8 m9 m10 ⊢
  have xb0 : ∀ y : Ext W, y.to.cell? _ = _ := fun y => ext_cell y b0
  have xb1 : ∀ y : Ext W, y.to.cell? _ = _ := fun y => ext_cell y b1
  have xb2 : ∀ y : Ext W, y.to.cell? _ = _ := fun y => ext_cell y b2
  have xb3 : ∀ y : Ext W, y.to.cell? _ = _ := fun y => ext_cell y b3
  have xb4 : ∀ y : Ext W, y.to.cell? _ = _ := fun y => ext_cell y b4
  have xb5 : ∀ y : Ext W, y.to.cell? _ = _ := fun y => ext_cell y b5
  have xb6 : ∀ y : Ext W, y.to.cell? _ = _ := fun y => ext_cell y b6
  have xb7 : ∀ y : Ext W, y.to.cell? _ = _ := fun y => ext_cell y b7
  have xb8 : ∀ y : Ext W, y.to.cell? _ = _ := fun y => ext_cell y b8
  have xb9 : ∀ y : Ext W, y.to.cell? _ = _ := fun y => ext_cell y b9
  have xb10 : ∀ y : Ext W, y.to.cell? _ = _ := fun y => ext_cell y b10
  have xb11 : ∀ y : Ext W, y.to.cell? _ = _ := fun y => ext_cell y b11
  have xb12 : ∀ y : Ext W, y.to.cell? _ = _ := fun y => ext_cell y b12
  have xm0 : ∀ y : Ext W, y.to.cell? _ = _ := fun y => ext_cell y m0
  have xm1 : ∀ y : Ext W, y.to.cell? _ = _ := fun y => ext_cell y m1
  have xm2 : ∀ y : Ext W, y.to.cell? _ = _ := fun y => ext_cell y m2
  have xm3 : ∀ y : Ext W, y.to.cell? _ = _ := fun y => ext_cell y m3
  have xm4 : ∀ y : Ext W, y.to.cell? _ = _ := fun y => ext_cell y m4
  have xm5 : ∀ y : Ext W, y.to.cell? _ = _ := fun y => ext_cell y m5
  have xm6 : ∀ y : Ext W, y.to.cell? _ = _ := fun y => ext_cell y m6
  have xm7 : ∀ y : Ext W, y.to.cell? _ = _ := fun y => ext_cell y m7
  have xm8 : ∀ y : Ext W, y.to.cell? _ = _ := fun y => ext_cell y m8
  have xm9 : ∀ y : Ext W, y.to.cell? _ = _ := fun y => ext_cell y m9
  have xm10 : ∀ y : Ext W, y.to.cell? _ = _ := fun y => ext_cell y m10
  have hsome := extSome W
  clear HBo HNo b0 b1 b2 b3 b4 b5 b6 b7 b8 b9 b10 b11 b12 m0 m1 m2 m3 m4 m5 m6 m7 m8 m9 m10
  refine plain_quiet ?_
  dsimp only [List.append]
  repeat (go_big_quiet_step ((first | (go_at_call 56; with_reducible exact ext_call _ (X1.out _)) | (go_at_call 57; with_reducible exact ext_call _ (X2.out _)) | (go_at_call 58; with_reducible exact ext_call _ (X3.out _)) | (go_at_call 58; with_reducible exact ext_call _ (X4.out _)) | (go_at_call 58; with_reducible exact ext_call _ (X5.out _)) | (go_at_call 59; with_reducible exact ext_call _ (X6.out _)) | (go_at_call 59; with_reducible exact ext_call _ (X7.out _)) | (go_at_call 58; with_reducible exact ext_call _ (X9.out _)))))
  refine wpQuiet_nil ?_
  rintro _ ⟨y, hy⟩
  subst hy
  have HB1 := Lib.hid (HB0.out.trans (y.below.mono HB0.out.size))
  clear xb0 xb1 xb2 xb3 xb4 xb5 xb6 xb7 xb8 xb9 xb10 xb11 xb12 xm0 xm1 xm2 xm3 xm4 xm5 xm6 xm7 xm8 xm9 xm10
  go_wp2_with fail
  go_ret
  exact ⟨rfl, HB1.out⟩
set_option maxRecDepth 100000 in
set_option maxHeartbeats 8000000 in
theorem hold_9_00 (b : Bn) (n : Nt) (ai az : Option Addr) (ci cz : Nat) (w : World) (h : NtL w ai az n) (h1 : (nmB n.n b.nm) = true) (h2 : (txB n.x b.tx) = true) (h3 : (inB n.d.size b.fd b.d) = true) (h4 : (inB n.c 0 b.c) = true) (h5 : (inB n.s 0 b.s) = true) (h6 : (inB n.e 0 b.e) = true) (h7 : (inB n.t 0 b.t) = true) (h9 : (inB n.l.length b.fi b.i) = false) : Calls Tryz.prog 38 #[.agg #[.bool b.nm, .int .i64 b.tx, .int .i64 b.fd, .int .i64 b.d, .int .i64 b.c, .int .i64 b.s, .int .i64 b.e, .int .i64 b.t, .bool false, .int .i64 b.fi, .int .i64 b.i, .int .i64 b.fz, .int .i64 b.z], .agg #[.int .i64 n.k, .string n.n, .string n.x, .string n.d, .int .i64 n.c, .int .i64 n.s, .int .i64 n.e, .int .i64 n.t, .bool false, .slice ai n.l.length ci, .slice az n.z.length cz]] w (Gives (.bool false) w) := by
  have HB0 : Hid (Below w.heap.size w ((w.alloc (.cells #[.bool b.nm, .int .i64 b.tx, .int .i64 b.fd, .int .i64 b.d, .int .i64 b.c, .int .i64 b.s, .int .i64 b.e, .int .i64 b.t, .bool false, .int .i64 b.fi, .int .i64 b.i, .int .i64 b.fz, .int .i64 b.z] 74)).alloc (.cells #[.int .i64 n.k, .string n.n, .string n.x, .string n.d, .int .i64 n.c, .int .i64 n.s, .int .i64 n.e, .int .i64 n.t, .bool false, .slice ai n.l.length ci, .slice az n.z.length cz] 46))) := ((Below.refl _ w).alloc (Nat.le_refl _) _).alloc (by simp) _
  have HBo : Hid (((w.alloc (.cells #[.bool b.nm, .int .i64 b.tx, .int .i64 b.fd, .int .i64 b.d, .int .i64 b.c, .int .i64 b.s, .int .i64 b.e, .int .i64 b.t, .bool false, .int .i64 b.fi, .int .i64 b.i, .int .i64 b.fz, .int .i64 b.z] 74)).alloc (.cells #[.int .i64 n.k, .string n.n, .string n.x, .string n.d, .int .i64 n.c, .int .i64 n.s, .int .i64 n.e, .int .i64 n.t, .bool false, .slice ai n.l.length ci, .slice az n.z.length cz] 46)).heap[w.heap.size]? = some (.cells #[.bool b.nm, .int .i64 b.tx, .int .i64 b.fd, .int .i64 b.d, .int .i64 b.c, .int .i64 b.s, .int .i64 b.e, .int .i64 b.t, .bool false, .int .i64 b.fi, .int .i64 b.i, .int .i64 b.fz, .int .i64 b.z] 74 (0, 0))) := (Below.heap_alloc (w.alloc (.cells #[.bool b.nm, .int .i64 b.tx, .int .i64 b.fd, .int .i64 b.d, .int .i64 b.c, .int .i64 b.s, .int .i64 b.e, .int .i64 b.t, .bool false, .int .i64 b.fi, .int .i64 b.i, .int .i64 b.fz, .int .i64 b.z] 74)) _ _ (by simp)).trans (box_new w _ _)
  have HNo : Hid (((w.alloc (.cells #[.bool b.nm, .int .i64 b.tx, .int .i64 b.fd, .int .i64 b.d, .int .i64 b.c, .int .i64 b.s, .int .i64 b.e, .int .i64 b.t, .bool false, .int .i64 b.fi, .int .i64 b.i, .int .i64 b.fz, .int .i64 b.z] 74)).alloc (.cells #[.int .i64 n.k, .string n.n, .string n.x, .string n.d, .int .i64 n.c, .int .i64 n.s, .int .i64 n.e, .int .i64 n.t, .bool false, .slice ai n.l.length ci, .slice az n.z.length cz] 46)).heap[w.heap.size + 1]? = some (.cells #[.int .i64 n.k, .string n.n, .string n.x, .string n.d, .int .i64 n.c, .int .i64 n.s, .int .i64 n.e, .int .i64 n.t, .bool false, .slice ai n.l.length ci, .slice az n.z.length cz] 46 (0, 0))) := by
    have := box_new (w.alloc (.cells #[.bool b.nm, .int .i64 b.tx, .int .i64 b.fd, .int .i64 b.d, .int .i64 b.c, .int .i64 b.s, .int .i64 b.e, .int .i64 b.t, .bool false, .int .i64 b.fi, .int .i64 b.i, .int .i64 b.fz, .int .i64 b.z] 74)) #[.int .i64 n.k, .string n.n, .string n.x, .string n.d, .int .i64 n.c, .int .i64 n.s, .int .i64 n.e, .int .i64 n.t, .bool false, .slice ai n.l.length ci, .slice az n.z.length cz] 46
    show _ = _
    simpa using this
  have X1 : Hid (Xc ((w.alloc (.cells #[.bool b.nm, .int .i64 b.tx, .int .i64 b.fd, .int .i64 b.d, .int .i64 b.c, .int .i64 b.s, .int .i64 b.e, .int .i64 b.t, .bool false, .int .i64 b.fi, .int .i64 b.i, .int .i64 b.fz, .int .i64 b.z] 74)).alloc (.cells #[.int .i64 n.k, .string n.n, .string n.x, .string n.d, .int .i64 n.c, .int .i64 n.s, .int .i64 n.e, .int .i64 n.t, .bool false, .slice ai n.l.length ci, .slice az n.z.length cz] 46)) 56 #[.string n.n, .bool b.nm] (.bool true)) := fun y => by have := isName_any n.n b.nm y.to (Nat.le_trans h.hn (by decide)); rw [h1] at this; exact this
  have X2 : Hid (Xc ((w.alloc (.cells #[.bool b.nm, .int .i64 b.tx, .int .i64 b.fd, .int .i64 b.d, .int .i64 b.c, .int .i64 b.s, .int .i64 b.e, .int .i64 b.t, .bool false, .int .i64 b.fi, .int .i64 b.i, .int .i64 b.fz, .int .i64 b.z] 74)).alloc (.cells #[.int .i64 n.k, .string n.n, .string n.x, .string n.d, .int .i64 n.c, .int .i64 n.s, .int .i64 n.e, .int .i64 n.t, .bool false, .slice ai n.l.length ci, .slice az n.z.length cz] 46)) 57 #[.string n.x, .int .i64 b.tx] (.bool true)) := fun y => by have := isText_any n.x b.tx y.to (Nat.le_trans h.hx (by decide)); rw [h2] at this; exact this
  have X3 : Hid (Xc ((w.alloc (.cells #[.bool b.nm, .int .i64 b.tx, .int .i64 b.fd, .int .i64 b.d, .int .i64 b.c, .int .i64 b.s, .int .i64 b.e, .int .i64 b.t, .bool false, .int .i64 b.fi, .int .i64 b.i, .int .i64 b.fz, .int .i64 b.z] 74)).alloc (.cells #[.int .i64 n.k, .string n.n, .string n.x, .string n.d, .int .i64 n.c, .int .i64 n.s, .int .i64 n.e, .int .i64 n.t, .bool false, .slice ai n.l.length ci, .slice az n.z.length cz] 46)) 58 #[.int .i64 n.d.size, .int .i64 b.fd, .int .i64 b.d] (.bool true)) := xc_pure fun W => by have := isIn_any n.d.size b.fd b.d W; rw [h3] at this; exact this
  have X4 : Hid (Xc ((w.alloc (.cells #[.bool b.nm, .int .i64 b.tx, .int .i64 b.fd, .int .i64 b.d, .int .i64 b.c, .int .i64 b.s, .int .i64 b.e, .int .i64 b.t, .bool false, .int .i64 b.fi, .int .i64 b.i, .int .i64 b.fz, .int .i64 b.z] 74)).alloc (.cells #[.int .i64 n.k, .string n.n, .string n.x, .string n.d, .int .i64 n.c, .int .i64 n.s, .int .i64 n.e, .int .i64 n.t, .bool false, .slice ai n.l.length ci, .slice az n.z.length cz] 46)) 58 #[.int .i64 n.c, .int .i64 0, .int .i64 b.c] (.bool true)) := xc_pure fun W => by have := isIn_any n.c 0 b.c W; rw [h4] at this; exact this
  have X5 : Hid (Xc ((w.alloc (.cells #[.bool b.nm, .int .i64 b.tx, .int .i64 b.fd, .int .i64 b.d, .int .i64 b.c, .int .i64 b.s, .int .i64 b.e, .int .i64 b.t, .bool false, .int .i64 b.fi, .int .i64 b.i, .int .i64 b.fz, .int .i64 b.z] 74)).alloc (.cells #[.int .i64 n.k, .string n.n, .string n.x, .string n.d, .int .i64 n.c, .int .i64 n.s, .int .i64 n.e, .int .i64 n.t, .bool false, .slice ai n.l.length ci, .slice az n.z.length cz] 46)) 58 #[.int .i64 n.s, .int .i64 0, .int .i64 b.s] (.bool true)) := xc_pure fun W => by have := isIn_any n.s 0 b.s W; rw [h5] at this; exact this
  have X6 : Hid (Xc ((w.alloc (.cells #[.bool b.nm, .int .i64 b.tx, .int .i64 b.fd, .int .i64 b.d, .int .i64 b.c, .int .i64 b.s, .int .i64 b.e, .int .i64 b.t, .bool false, .int .i64 b.fi, .int .i64 b.i, .int .i64 b.fz, .int .i64 b.z] 74)).alloc (.cells #[.int .i64 n.k, .string n.n, .string n.x, .string n.d, .int .i64 n.c, .int .i64 n.s, .int .i64 n.e, .int .i64 n.t, .bool false, .slice ai n.l.length ci, .slice az n.z.length cz] 46)) 59 #[.int .i64 n.e, .int .i64 0, .int .i64 b.e] (.bool true)) := xc_pure fun W => by have := isIn64_any n.e 0 b.e W; rw [h6] at this; exact this
  have X7 : Hid (Xc ((w.alloc (.cells #[.bool b.nm, .int .i64 b.tx, .int .i64 b.fd, .int .i64 b.d, .int .i64 b.c, .int .i64 b.s, .int .i64 b.e, .int .i64 b.t, .bool false, .int .i64 b.fi, .int .i64 b.i, .int .i64 b.fz, .int .i64 b.z] 74)).alloc (.cells #[.int .i64 n.k, .string n.n, .string n.x, .string n.d, .int .i64 n.c, .int .i64 n.s, .int .i64 n.e, .int .i64 n.t, .bool false, .slice ai n.l.length ci, .slice az n.z.length cz] 46)) 59 #[.int .i64 n.t, .int .i64 0, .int .i64 b.t] (.bool true)) := xc_pure fun W => by have := isIn64_any n.t 0 b.t W; rw [h7] at this; exact this
  have X9 : Hid (Xc ((w.alloc (.cells #[.bool b.nm, .int .i64 b.tx, .int .i64 b.fd, .int .i64 b.d, .int .i64 b.c, .int .i64 b.s, .int .i64 b.e, .int .i64 b.t, .bool false, .int .i64 b.fi, .int .i64 b.i, .int .i64 b.fz, .int .i64 b.z] 74)).alloc (.cells #[.int .i64 n.k, .string n.n, .string n.x, .string n.d, .int .i64 n.c, .int .i64 n.s, .int .i64 n.e, .int .i64 n.t, .bool false, .slice ai n.l.length ci, .slice az n.z.length cz] 46)) 58 #[.int .i64 n.l.length, .int .i64 b.fi, .int .i64 b.i] (.bool false)) := xc_pure fun W => by have := isIn_any n.l.length b.fi b.i W; rw [h9] at this; exact this
  clear h h1 h2 h3 h4 h5 h6 h7 h9
  obtain ⟨b0, b1, b2, b3, b4, b5, b6, b7, b8, b9, b10, b11, b12⟩ := bx13 HBo.out
  obtain ⟨m0, m1, m2, m3, m4, m5, m6, m7, m8, m9, m10⟩ := bx11 HNo.out
  go_enter Tryz.func38, Tryz.ntmps38
  go_upto_region 1 with fail
  generalize ((w.alloc (.cells #[.bool b.nm, .int .i64 b.tx, .int .i64 b.fd, .int .i64 b.d, .int .i64 b.c, .int .i64 b.s, .int .i64 b.e, .int .i64 b.t, .bool false, .int .i64 b.fi, .int .i64 b.i, .int .i64 b.fz, .int .i64 b.z] 74)).alloc (.cells #[.int .i64 n.k, .string n.n, .string n.x, .string n.d, .int .i64 n.c, .int .i64 n.s, .int .i64 n.e, .int .i64 n.t, .bool false, .slice ai n.l.length ci, .slice az n.z.length cz] 46)) = W at HB0 HBo HNo X1 X2 X3 X4 X5 X6 X7 X9 b0 b1 b2 b3 b4 b5 b6 b7 b8 b9 b10 b11 b12 m0 m1 m2 m3 m4 m5 m6 m7 m8 m9 m10 ⊢
  have xb0 : ∀ y : Ext W, y.to.cell? _ = _ := fun y => ext_cell y b0
  have xb1 : ∀ y : Ext W, y.to.cell? _ = _ := fun y => ext_cell y b1
  have xb2 : ∀ y : Ext W, y.to.cell? _ = _ := fun y => ext_cell y b2
  have xb3 : ∀ y : Ext W, y.to.cell? _ = _ := fun y => ext_cell y b3
  have xb4 : ∀ y : Ext W, y.to.cell? _ = _ := fun y => ext_cell y b4
  have xb5 : ∀ y : Ext W, y.to.cell? _ = _ := fun y => ext_cell y b5
  have xb6 : ∀ y : Ext W, y.to.cell? _ = _ := fun y => ext_cell y b6
  have xb7 : ∀ y : Ext W, y.to.cell? _ = _ := fun y => ext_cell y b7
  have xb8 : ∀ y : Ext W, y.to.cell? _ = _ := fun y => ext_cell y b8
  have xb9 : ∀ y : Ext W, y.to.cell? _ = _ := fun y => ext_cell y b9
  have xb10 : ∀ y : Ext W, y.to.cell? _ = _ := fun y => ext_cell y b10
  have xb11 : ∀ y : Ext W, y.to.cell? _ = _ := fun y => ext_cell y b11
  have xb12 : ∀ y : Ext W, y.to.cell? _ = _ := fun y => ext_cell y b12
  have xm0 : ∀ y : Ext W, y.to.cell? _ = _ := fun y => ext_cell y m0
  have xm1 : ∀ y : Ext W, y.to.cell? _ = _ := fun y => ext_cell y m1
  have xm2 : ∀ y : Ext W, y.to.cell? _ = _ := fun y => ext_cell y m2
  have xm3 : ∀ y : Ext W, y.to.cell? _ = _ := fun y => ext_cell y m3
  have xm4 : ∀ y : Ext W, y.to.cell? _ = _ := fun y => ext_cell y m4
  have xm5 : ∀ y : Ext W, y.to.cell? _ = _ := fun y => ext_cell y m5
  have xm6 : ∀ y : Ext W, y.to.cell? _ = _ := fun y => ext_cell y m6
  have xm7 : ∀ y : Ext W, y.to.cell? _ = _ := fun y => ext_cell y m7
  have xm8 : ∀ y : Ext W, y.to.cell? _ = _ := fun y => ext_cell y m8
  have xm9 : ∀ y : Ext W, y.to.cell? _ = _ := fun y => ext_cell y m9
  have xm10 : ∀ y : Ext W, y.to.cell? _ = _ := fun y => ext_cell y m10
  have hsome := extSome W
  clear HBo HNo b0 b1 b2 b3 b4 b5 b6 b7 b8 b9 b10 b11 b12 m0 m1 m2 m3 m4 m5 m6 m7 m8 m9 m10
  refine plain_quiet ?_
  dsimp only [List.append]
  repeat (go_big_quiet_step ((first | (go_at_call 56; with_reducible exact ext_call _ (X1.out _)) | (go_at_call 57; with_reducible exact ext_call _ (X2.out _)) | (go_at_call 58; with_reducible exact ext_call _ (X3.out _)) | (go_at_call 58; with_reducible exact ext_call _ (X4.out _)) | (go_at_call 58; with_reducible exact ext_call _ (X5.out _)) | (go_at_call 59; with_reducible exact ext_call _ (X6.out _)) | (go_at_call 59; with_reducible exact ext_call _ (X7.out _)) | (go_at_call 58; with_reducible exact ext_call _ (X9.out _)))))
  refine wpQuiet_nil ?_
  rintro _ ⟨y, hy⟩
  subst hy
  have HB1 := Lib.hid (HB0.out.trans (y.below.mono HB0.out.size))
  clear xb0 xb1 xb2 xb3 xb4 xb5 xb6 xb7 xb8 xb9 xb10 xb11 xb12 xm0 xm1 xm2 xm3 xm4 xm5 xm6 xm7 xm8 xm9 xm10
  go_wp2_with fail
  go_ret
  exact ⟨rfl, HB1.out⟩
set_option maxRecDepth 100000 in
set_option maxHeartbeats 8000000 in
theorem hold_10_10 (b : Bn) (n : Nt) (ai az : Option Addr) (ci cz : Nat) (w : World) (h : NtL w ai az n) (h1 : (nmB n.n b.nm) = true) (h2 : (txB n.x b.tx) = true) (h3 : (inB n.d.size b.fd b.d) = true) (h4 : (inB n.c 0 b.c) = true) (h5 : (inB n.s 0 b.s) = true) (h6 : (inB n.e 0 b.e) = true) (h7 : (inB n.t 0 b.t) = true) (h9 : (inB n.l.length b.fi b.i) = true) (h10 : (n.l.all itB) = false) : Calls Tryz.prog 38 #[.agg #[.bool b.nm, .int .i64 b.tx, .int .i64 b.fd, .int .i64 b.d, .int .i64 b.c, .int .i64 b.s, .int .i64 b.e, .int .i64 b.t, .bool true, .int .i64 b.fi, .int .i64 b.i, .int .i64 b.fz, .int .i64 b.z], .agg #[.int .i64 n.k, .string n.n, .string n.x, .string n.d, .int .i64 n.c, .int .i64 n.s, .int .i64 n.e, .int .i64 n.t, .bool n.o, .slice ai n.l.length ci, .slice az n.z.length cz]] w (Gives (.bool false) w) := by
  have HB0 : Hid (Below w.heap.size w ((w.alloc (.cells #[.bool b.nm, .int .i64 b.tx, .int .i64 b.fd, .int .i64 b.d, .int .i64 b.c, .int .i64 b.s, .int .i64 b.e, .int .i64 b.t, .bool true, .int .i64 b.fi, .int .i64 b.i, .int .i64 b.fz, .int .i64 b.z] 74)).alloc (.cells #[.int .i64 n.k, .string n.n, .string n.x, .string n.d, .int .i64 n.c, .int .i64 n.s, .int .i64 n.e, .int .i64 n.t, .bool n.o, .slice ai n.l.length ci, .slice az n.z.length cz] 46))) := ((Below.refl _ w).alloc (Nat.le_refl _) _).alloc (by simp) _
  have HBo : Hid (((w.alloc (.cells #[.bool b.nm, .int .i64 b.tx, .int .i64 b.fd, .int .i64 b.d, .int .i64 b.c, .int .i64 b.s, .int .i64 b.e, .int .i64 b.t, .bool true, .int .i64 b.fi, .int .i64 b.i, .int .i64 b.fz, .int .i64 b.z] 74)).alloc (.cells #[.int .i64 n.k, .string n.n, .string n.x, .string n.d, .int .i64 n.c, .int .i64 n.s, .int .i64 n.e, .int .i64 n.t, .bool n.o, .slice ai n.l.length ci, .slice az n.z.length cz] 46)).heap[w.heap.size]? = some (.cells #[.bool b.nm, .int .i64 b.tx, .int .i64 b.fd, .int .i64 b.d, .int .i64 b.c, .int .i64 b.s, .int .i64 b.e, .int .i64 b.t, .bool true, .int .i64 b.fi, .int .i64 b.i, .int .i64 b.fz, .int .i64 b.z] 74 (0, 0))) := (Below.heap_alloc (w.alloc (.cells #[.bool b.nm, .int .i64 b.tx, .int .i64 b.fd, .int .i64 b.d, .int .i64 b.c, .int .i64 b.s, .int .i64 b.e, .int .i64 b.t, .bool true, .int .i64 b.fi, .int .i64 b.i, .int .i64 b.fz, .int .i64 b.z] 74)) _ _ (by simp)).trans (box_new w _ _)
  have HNo : Hid (((w.alloc (.cells #[.bool b.nm, .int .i64 b.tx, .int .i64 b.fd, .int .i64 b.d, .int .i64 b.c, .int .i64 b.s, .int .i64 b.e, .int .i64 b.t, .bool true, .int .i64 b.fi, .int .i64 b.i, .int .i64 b.fz, .int .i64 b.z] 74)).alloc (.cells #[.int .i64 n.k, .string n.n, .string n.x, .string n.d, .int .i64 n.c, .int .i64 n.s, .int .i64 n.e, .int .i64 n.t, .bool n.o, .slice ai n.l.length ci, .slice az n.z.length cz] 46)).heap[w.heap.size + 1]? = some (.cells #[.int .i64 n.k, .string n.n, .string n.x, .string n.d, .int .i64 n.c, .int .i64 n.s, .int .i64 n.e, .int .i64 n.t, .bool n.o, .slice ai n.l.length ci, .slice az n.z.length cz] 46 (0, 0))) := by
    have := box_new (w.alloc (.cells #[.bool b.nm, .int .i64 b.tx, .int .i64 b.fd, .int .i64 b.d, .int .i64 b.c, .int .i64 b.s, .int .i64 b.e, .int .i64 b.t, .bool true, .int .i64 b.fi, .int .i64 b.i, .int .i64 b.fz, .int .i64 b.z] 74)) #[.int .i64 n.k, .string n.n, .string n.x, .string n.d, .int .i64 n.c, .int .i64 n.s, .int .i64 n.e, .int .i64 n.t, .bool n.o, .slice ai n.l.length ci, .slice az n.z.length cz] 46
    show _ = _
    simpa using this
  have X1 : Hid (Xc ((w.alloc (.cells #[.bool b.nm, .int .i64 b.tx, .int .i64 b.fd, .int .i64 b.d, .int .i64 b.c, .int .i64 b.s, .int .i64 b.e, .int .i64 b.t, .bool true, .int .i64 b.fi, .int .i64 b.i, .int .i64 b.fz, .int .i64 b.z] 74)).alloc (.cells #[.int .i64 n.k, .string n.n, .string n.x, .string n.d, .int .i64 n.c, .int .i64 n.s, .int .i64 n.e, .int .i64 n.t, .bool n.o, .slice ai n.l.length ci, .slice az n.z.length cz] 46)) 56 #[.string n.n, .bool b.nm] (.bool true)) := fun y => by have := isName_any n.n b.nm y.to (Nat.le_trans h.hn (by decide)); rw [h1] at this; exact this
  have X2 : Hid (Xc ((w.alloc (.cells #[.bool b.nm, .int .i64 b.tx, .int .i64 b.fd, .int .i64 b.d, .int .i64 b.c, .int .i64 b.s, .int .i64 b.e, .int .i64 b.t, .bool true, .int .i64 b.fi, .int .i64 b.i, .int .i64 b.fz, .int .i64 b.z] 74)).alloc (.cells #[.int .i64 n.k, .string n.n, .string n.x, .string n.d, .int .i64 n.c, .int .i64 n.s, .int .i64 n.e, .int .i64 n.t, .bool n.o, .slice ai n.l.length ci, .slice az n.z.length cz] 46)) 57 #[.string n.x, .int .i64 b.tx] (.bool true)) := fun y => by have := isText_any n.x b.tx y.to (Nat.le_trans h.hx (by decide)); rw [h2] at this; exact this
  have X3 : Hid (Xc ((w.alloc (.cells #[.bool b.nm, .int .i64 b.tx, .int .i64 b.fd, .int .i64 b.d, .int .i64 b.c, .int .i64 b.s, .int .i64 b.e, .int .i64 b.t, .bool true, .int .i64 b.fi, .int .i64 b.i, .int .i64 b.fz, .int .i64 b.z] 74)).alloc (.cells #[.int .i64 n.k, .string n.n, .string n.x, .string n.d, .int .i64 n.c, .int .i64 n.s, .int .i64 n.e, .int .i64 n.t, .bool n.o, .slice ai n.l.length ci, .slice az n.z.length cz] 46)) 58 #[.int .i64 n.d.size, .int .i64 b.fd, .int .i64 b.d] (.bool true)) := xc_pure fun W => by have := isIn_any n.d.size b.fd b.d W; rw [h3] at this; exact this
  have X4 : Hid (Xc ((w.alloc (.cells #[.bool b.nm, .int .i64 b.tx, .int .i64 b.fd, .int .i64 b.d, .int .i64 b.c, .int .i64 b.s, .int .i64 b.e, .int .i64 b.t, .bool true, .int .i64 b.fi, .int .i64 b.i, .int .i64 b.fz, .int .i64 b.z] 74)).alloc (.cells #[.int .i64 n.k, .string n.n, .string n.x, .string n.d, .int .i64 n.c, .int .i64 n.s, .int .i64 n.e, .int .i64 n.t, .bool n.o, .slice ai n.l.length ci, .slice az n.z.length cz] 46)) 58 #[.int .i64 n.c, .int .i64 0, .int .i64 b.c] (.bool true)) := xc_pure fun W => by have := isIn_any n.c 0 b.c W; rw [h4] at this; exact this
  have X5 : Hid (Xc ((w.alloc (.cells #[.bool b.nm, .int .i64 b.tx, .int .i64 b.fd, .int .i64 b.d, .int .i64 b.c, .int .i64 b.s, .int .i64 b.e, .int .i64 b.t, .bool true, .int .i64 b.fi, .int .i64 b.i, .int .i64 b.fz, .int .i64 b.z] 74)).alloc (.cells #[.int .i64 n.k, .string n.n, .string n.x, .string n.d, .int .i64 n.c, .int .i64 n.s, .int .i64 n.e, .int .i64 n.t, .bool n.o, .slice ai n.l.length ci, .slice az n.z.length cz] 46)) 58 #[.int .i64 n.s, .int .i64 0, .int .i64 b.s] (.bool true)) := xc_pure fun W => by have := isIn_any n.s 0 b.s W; rw [h5] at this; exact this
  have X6 : Hid (Xc ((w.alloc (.cells #[.bool b.nm, .int .i64 b.tx, .int .i64 b.fd, .int .i64 b.d, .int .i64 b.c, .int .i64 b.s, .int .i64 b.e, .int .i64 b.t, .bool true, .int .i64 b.fi, .int .i64 b.i, .int .i64 b.fz, .int .i64 b.z] 74)).alloc (.cells #[.int .i64 n.k, .string n.n, .string n.x, .string n.d, .int .i64 n.c, .int .i64 n.s, .int .i64 n.e, .int .i64 n.t, .bool n.o, .slice ai n.l.length ci, .slice az n.z.length cz] 46)) 59 #[.int .i64 n.e, .int .i64 0, .int .i64 b.e] (.bool true)) := xc_pure fun W => by have := isIn64_any n.e 0 b.e W; rw [h6] at this; exact this
  have X7 : Hid (Xc ((w.alloc (.cells #[.bool b.nm, .int .i64 b.tx, .int .i64 b.fd, .int .i64 b.d, .int .i64 b.c, .int .i64 b.s, .int .i64 b.e, .int .i64 b.t, .bool true, .int .i64 b.fi, .int .i64 b.i, .int .i64 b.fz, .int .i64 b.z] 74)).alloc (.cells #[.int .i64 n.k, .string n.n, .string n.x, .string n.d, .int .i64 n.c, .int .i64 n.s, .int .i64 n.e, .int .i64 n.t, .bool n.o, .slice ai n.l.length ci, .slice az n.z.length cz] 46)) 59 #[.int .i64 n.t, .int .i64 0, .int .i64 b.t] (.bool true)) := xc_pure fun W => by have := isIn64_any n.t 0 b.t W; rw [h7] at this; exact this
  have X9 : Hid (Xc ((w.alloc (.cells #[.bool b.nm, .int .i64 b.tx, .int .i64 b.fd, .int .i64 b.d, .int .i64 b.c, .int .i64 b.s, .int .i64 b.e, .int .i64 b.t, .bool true, .int .i64 b.fi, .int .i64 b.i, .int .i64 b.fz, .int .i64 b.z] 74)).alloc (.cells #[.int .i64 n.k, .string n.n, .string n.x, .string n.d, .int .i64 n.c, .int .i64 n.s, .int .i64 n.e, .int .i64 n.t, .bool n.o, .slice ai n.l.length ci, .slice az n.z.length cz] 46)) 58 #[.int .i64 n.l.length, .int .i64 b.fi, .int .i64 b.i] (.bool true)) := xc_pure fun W => by have := isIn_any n.l.length b.fi b.i W; rw [h9] at this; exact this
  have X10 : Hid (Xc ((w.alloc (.cells #[.bool b.nm, .int .i64 b.tx, .int .i64 b.fd, .int .i64 b.d, .int .i64 b.c, .int .i64 b.s, .int .i64 b.e, .int .i64 b.t, .bool true, .int .i64 b.fi, .int .i64 b.i, .int .i64 b.fz, .int .i64 b.z] 74)).alloc (.cells #[.int .i64 n.k, .string n.n, .string n.x, .string n.d, .int .i64 n.c, .int .i64 n.s, .int .i64 n.e, .int .i64 n.t, .bool n.o, .slice ai n.l.length ci, .slice az n.z.length cz] 46)) 60 #[.slice ai n.l.length ci] (.bool false)) := fun y => by have := areItems_any n.l ai ci y.to (h.hI.below (HB0.out.trans (y.below.mono HB0.out.size))) h.hin (fun z hz => ⟨Nat.le_trans (h.hiz z hz).1 (by decide), Nat.le_trans (h.hiz z hz).2 (by decide)⟩); rw [h10] at this; exact this
  clear h h1 h2 h3 h4 h5 h6 h7 h9 h10
  obtain ⟨b0, b1, b2, b3, b4, b5, b6, b7, b8, b9, b10, b11, b12⟩ := bx13 HBo.out
  obtain ⟨m0, m1, m2, m3, m4, m5, m6, m7, m8, m9, m10⟩ := bx11 HNo.out
  go_enter Tryz.func38, Tryz.ntmps38
  go_upto_region 1 with fail
  generalize ((w.alloc (.cells #[.bool b.nm, .int .i64 b.tx, .int .i64 b.fd, .int .i64 b.d, .int .i64 b.c, .int .i64 b.s, .int .i64 b.e, .int .i64 b.t, .bool true, .int .i64 b.fi, .int .i64 b.i, .int .i64 b.fz, .int .i64 b.z] 74)).alloc (.cells #[.int .i64 n.k, .string n.n, .string n.x, .string n.d, .int .i64 n.c, .int .i64 n.s, .int .i64 n.e, .int .i64 n.t, .bool n.o, .slice ai n.l.length ci, .slice az n.z.length cz] 46)) = W at HB0 HBo HNo X1 X2 X3 X4 X5 X6 X7 X9 X10 b0 b1 b2 b3 b4 b5 b6 b7 b8 b9 b10 b11 b12 m0 m1 m2 m3 m4 m5 m6 m7 m8 m9 m10 ⊢
  have xb0 : ∀ y : Ext W, y.to.cell? _ = _ := fun y => ext_cell y b0
  have xb1 : ∀ y : Ext W, y.to.cell? _ = _ := fun y => ext_cell y b1
  have xb2 : ∀ y : Ext W, y.to.cell? _ = _ := fun y => ext_cell y b2
  have xb3 : ∀ y : Ext W, y.to.cell? _ = _ := fun y => ext_cell y b3
  have xb4 : ∀ y : Ext W, y.to.cell? _ = _ := fun y => ext_cell y b4
  have xb5 : ∀ y : Ext W, y.to.cell? _ = _ := fun y => ext_cell y b5
  have xb6 : ∀ y : Ext W, y.to.cell? _ = _ := fun y => ext_cell y b6
  have xb7 : ∀ y : Ext W, y.to.cell? _ = _ := fun y => ext_cell y b7
  have xb8 : ∀ y : Ext W, y.to.cell? _ = _ := fun y => ext_cell y b8
  have xb9 : ∀ y : Ext W, y.to.cell? _ = _ := fun y => ext_cell y b9
  have xb10 : ∀ y : Ext W, y.to.cell? _ = _ := fun y => ext_cell y b10
  have xb11 : ∀ y : Ext W, y.to.cell? _ = _ := fun y => ext_cell y b11
  have xb12 : ∀ y : Ext W, y.to.cell? _ = _ := fun y => ext_cell y b12
  have xm0 : ∀ y : Ext W, y.to.cell? _ = _ := fun y => ext_cell y m0
  have xm1 : ∀ y : Ext W, y.to.cell? _ = _ := fun y => ext_cell y m1
  have xm2 : ∀ y : Ext W, y.to.cell? _ = _ := fun y => ext_cell y m2
  have xm3 : ∀ y : Ext W, y.to.cell? _ = _ := fun y => ext_cell y m3
  have xm4 : ∀ y : Ext W, y.to.cell? _ = _ := fun y => ext_cell y m4
  have xm5 : ∀ y : Ext W, y.to.cell? _ = _ := fun y => ext_cell y m5
  have xm6 : ∀ y : Ext W, y.to.cell? _ = _ := fun y => ext_cell y m6
  have xm7 : ∀ y : Ext W, y.to.cell? _ = _ := fun y => ext_cell y m7
  have xm8 : ∀ y : Ext W, y.to.cell? _ = _ := fun y => ext_cell y m8
  have xm9 : ∀ y : Ext W, y.to.cell? _ = _ := fun y => ext_cell y m9
  have xm10 : ∀ y : Ext W, y.to.cell? _ = _ := fun y => ext_cell y m10
  have hsome := extSome W
  clear HBo HNo b0 b1 b2 b3 b4 b5 b6 b7 b8 b9 b10 b11 b12 m0 m1 m2 m3 m4 m5 m6 m7 m8 m9 m10
  refine plain_quiet ?_
  dsimp only [List.append]
  repeat (go_big_quiet_step ((first | (go_at_call 56; with_reducible exact ext_call _ (X1.out _)) | (go_at_call 57; with_reducible exact ext_call _ (X2.out _)) | (go_at_call 58; with_reducible exact ext_call _ (X3.out _)) | (go_at_call 58; with_reducible exact ext_call _ (X4.out _)) | (go_at_call 58; with_reducible exact ext_call _ (X5.out _)) | (go_at_call 59; with_reducible exact ext_call _ (X6.out _)) | (go_at_call 59; with_reducible exact ext_call _ (X7.out _)) | (go_at_call 58; with_reducible exact ext_call _ (X9.out _)) | (go_at_call 60; with_reducible exact ext_call _ (X10.out _)))))
  refine wpQuiet_nil ?_
  rintro _ ⟨y, hy⟩
  subst hy
  have HB1 := Lib.hid (HB0.out.trans (y.below.mono HB0.out.size))
  clear xb0 xb1 xb2 xb3 xb4 xb5 xb6 xb7 xb8 xb9 xb10 xb11 xb12 xm0 xm1 xm2 xm3 xm4 xm5 xm6 xm7 xm8 xm9 xm10
  go_wp2_with fail
  go_ret
  exact ⟨rfl, HB1.out⟩
set_option maxRecDepth 100000 in
set_option maxHeartbeats 8000000 in
theorem hold_10_00 (b : Bn) (n : Nt) (ai az : Option Addr) (ci cz : Nat) (w : World) (h : NtL w ai az n) (h1 : (nmB n.n b.nm) = true) (h2 : (txB n.x b.tx) = true) (h3 : (inB n.d.size b.fd b.d) = true) (h4 : (inB n.c 0 b.c) = true) (h5 : (inB n.s 0 b.s) = true) (h6 : (inB n.e 0 b.e) = true) (h7 : (inB n.t 0 b.t) = true) (h9 : (inB n.l.length b.fi b.i) = true) (h10 : (n.l.all itB) = false) : Calls Tryz.prog 38 #[.agg #[.bool b.nm, .int .i64 b.tx, .int .i64 b.fd, .int .i64 b.d, .int .i64 b.c, .int .i64 b.s, .int .i64 b.e, .int .i64 b.t, .bool false, .int .i64 b.fi, .int .i64 b.i, .int .i64 b.fz, .int .i64 b.z], .agg #[.int .i64 n.k, .string n.n, .string n.x, .string n.d, .int .i64 n.c, .int .i64 n.s, .int .i64 n.e, .int .i64 n.t, .bool false, .slice ai n.l.length ci, .slice az n.z.length cz]] w (Gives (.bool false) w) := by
  have HB0 : Hid (Below w.heap.size w ((w.alloc (.cells #[.bool b.nm, .int .i64 b.tx, .int .i64 b.fd, .int .i64 b.d, .int .i64 b.c, .int .i64 b.s, .int .i64 b.e, .int .i64 b.t, .bool false, .int .i64 b.fi, .int .i64 b.i, .int .i64 b.fz, .int .i64 b.z] 74)).alloc (.cells #[.int .i64 n.k, .string n.n, .string n.x, .string n.d, .int .i64 n.c, .int .i64 n.s, .int .i64 n.e, .int .i64 n.t, .bool false, .slice ai n.l.length ci, .slice az n.z.length cz] 46))) := ((Below.refl _ w).alloc (Nat.le_refl _) _).alloc (by simp) _
  have HBo : Hid (((w.alloc (.cells #[.bool b.nm, .int .i64 b.tx, .int .i64 b.fd, .int .i64 b.d, .int .i64 b.c, .int .i64 b.s, .int .i64 b.e, .int .i64 b.t, .bool false, .int .i64 b.fi, .int .i64 b.i, .int .i64 b.fz, .int .i64 b.z] 74)).alloc (.cells #[.int .i64 n.k, .string n.n, .string n.x, .string n.d, .int .i64 n.c, .int .i64 n.s, .int .i64 n.e, .int .i64 n.t, .bool false, .slice ai n.l.length ci, .slice az n.z.length cz] 46)).heap[w.heap.size]? = some (.cells #[.bool b.nm, .int .i64 b.tx, .int .i64 b.fd, .int .i64 b.d, .int .i64 b.c, .int .i64 b.s, .int .i64 b.e, .int .i64 b.t, .bool false, .int .i64 b.fi, .int .i64 b.i, .int .i64 b.fz, .int .i64 b.z] 74 (0, 0))) := (Below.heap_alloc (w.alloc (.cells #[.bool b.nm, .int .i64 b.tx, .int .i64 b.fd, .int .i64 b.d, .int .i64 b.c, .int .i64 b.s, .int .i64 b.e, .int .i64 b.t, .bool false, .int .i64 b.fi, .int .i64 b.i, .int .i64 b.fz, .int .i64 b.z] 74)) _ _ (by simp)).trans (box_new w _ _)
  have HNo : Hid (((w.alloc (.cells #[.bool b.nm, .int .i64 b.tx, .int .i64 b.fd, .int .i64 b.d, .int .i64 b.c, .int .i64 b.s, .int .i64 b.e, .int .i64 b.t, .bool false, .int .i64 b.fi, .int .i64 b.i, .int .i64 b.fz, .int .i64 b.z] 74)).alloc (.cells #[.int .i64 n.k, .string n.n, .string n.x, .string n.d, .int .i64 n.c, .int .i64 n.s, .int .i64 n.e, .int .i64 n.t, .bool false, .slice ai n.l.length ci, .slice az n.z.length cz] 46)).heap[w.heap.size + 1]? = some (.cells #[.int .i64 n.k, .string n.n, .string n.x, .string n.d, .int .i64 n.c, .int .i64 n.s, .int .i64 n.e, .int .i64 n.t, .bool false, .slice ai n.l.length ci, .slice az n.z.length cz] 46 (0, 0))) := by
    have := box_new (w.alloc (.cells #[.bool b.nm, .int .i64 b.tx, .int .i64 b.fd, .int .i64 b.d, .int .i64 b.c, .int .i64 b.s, .int .i64 b.e, .int .i64 b.t, .bool false, .int .i64 b.fi, .int .i64 b.i, .int .i64 b.fz, .int .i64 b.z] 74)) #[.int .i64 n.k, .string n.n, .string n.x, .string n.d, .int .i64 n.c, .int .i64 n.s, .int .i64 n.e, .int .i64 n.t, .bool false, .slice ai n.l.length ci, .slice az n.z.length cz] 46
    show _ = _
    simpa using this
  have X1 : Hid (Xc ((w.alloc (.cells #[.bool b.nm, .int .i64 b.tx, .int .i64 b.fd, .int .i64 b.d, .int .i64 b.c, .int .i64 b.s, .int .i64 b.e, .int .i64 b.t, .bool false, .int .i64 b.fi, .int .i64 b.i, .int .i64 b.fz, .int .i64 b.z] 74)).alloc (.cells #[.int .i64 n.k, .string n.n, .string n.x, .string n.d, .int .i64 n.c, .int .i64 n.s, .int .i64 n.e, .int .i64 n.t, .bool false, .slice ai n.l.length ci, .slice az n.z.length cz] 46)) 56 #[.string n.n, .bool b.nm] (.bool true)) := fun y => by have := isName_any n.n b.nm y.to (Nat.le_trans h.hn (by decide)); rw [h1] at this; exact this
  have X2 : Hid (Xc ((w.alloc (.cells #[.bool b.nm, .int .i64 b.tx, .int .i64 b.fd, .int .i64 b.d, .int .i64 b.c, .int .i64 b.s, .int .i64 b.e, .int .i64 b.t, .bool false, .int .i64 b.fi, .int .i64 b.i, .int .i64 b.fz, .int .i64 b.z] 74)).alloc (.cells #[.int .i64 n.k, .string n.n, .string n.x, .string n.d, .int .i64 n.c, .int .i64 n.s, .int .i64 n.e, .int .i64 n.t, .bool false, .slice ai n.l.length ci, .slice az n.z.length cz] 46)) 57 #[.string n.x, .int .i64 b.tx] (.bool true)) := fun y => by have := isText_any n.x b.tx y.to (Nat.le_trans h.hx (by decide)); rw [h2] at this; exact this
  have X3 : Hid (Xc ((w.alloc (.cells #[.bool b.nm, .int .i64 b.tx, .int .i64 b.fd, .int .i64 b.d, .int .i64 b.c, .int .i64 b.s, .int .i64 b.e, .int .i64 b.t, .bool false, .int .i64 b.fi, .int .i64 b.i, .int .i64 b.fz, .int .i64 b.z] 74)).alloc (.cells #[.int .i64 n.k, .string n.n, .string n.x, .string n.d, .int .i64 n.c, .int .i64 n.s, .int .i64 n.e, .int .i64 n.t, .bool false, .slice ai n.l.length ci, .slice az n.z.length cz] 46)) 58 #[.int .i64 n.d.size, .int .i64 b.fd, .int .i64 b.d] (.bool true)) := xc_pure fun W => by have := isIn_any n.d.size b.fd b.d W; rw [h3] at this; exact this
  have X4 : Hid (Xc ((w.alloc (.cells #[.bool b.nm, .int .i64 b.tx, .int .i64 b.fd, .int .i64 b.d, .int .i64 b.c, .int .i64 b.s, .int .i64 b.e, .int .i64 b.t, .bool false, .int .i64 b.fi, .int .i64 b.i, .int .i64 b.fz, .int .i64 b.z] 74)).alloc (.cells #[.int .i64 n.k, .string n.n, .string n.x, .string n.d, .int .i64 n.c, .int .i64 n.s, .int .i64 n.e, .int .i64 n.t, .bool false, .slice ai n.l.length ci, .slice az n.z.length cz] 46)) 58 #[.int .i64 n.c, .int .i64 0, .int .i64 b.c] (.bool true)) := xc_pure fun W => by have := isIn_any n.c 0 b.c W; rw [h4] at this; exact this
  have X5 : Hid (Xc ((w.alloc (.cells #[.bool b.nm, .int .i64 b.tx, .int .i64 b.fd, .int .i64 b.d, .int .i64 b.c, .int .i64 b.s, .int .i64 b.e, .int .i64 b.t, .bool false, .int .i64 b.fi, .int .i64 b.i, .int .i64 b.fz, .int .i64 b.z] 74)).alloc (.cells #[.int .i64 n.k, .string n.n, .string n.x, .string n.d, .int .i64 n.c, .int .i64 n.s, .int .i64 n.e, .int .i64 n.t, .bool false, .slice ai n.l.length ci, .slice az n.z.length cz] 46)) 58 #[.int .i64 n.s, .int .i64 0, .int .i64 b.s] (.bool true)) := xc_pure fun W => by have := isIn_any n.s 0 b.s W; rw [h5] at this; exact this
  have X6 : Hid (Xc ((w.alloc (.cells #[.bool b.nm, .int .i64 b.tx, .int .i64 b.fd, .int .i64 b.d, .int .i64 b.c, .int .i64 b.s, .int .i64 b.e, .int .i64 b.t, .bool false, .int .i64 b.fi, .int .i64 b.i, .int .i64 b.fz, .int .i64 b.z] 74)).alloc (.cells #[.int .i64 n.k, .string n.n, .string n.x, .string n.d, .int .i64 n.c, .int .i64 n.s, .int .i64 n.e, .int .i64 n.t, .bool false, .slice ai n.l.length ci, .slice az n.z.length cz] 46)) 59 #[.int .i64 n.e, .int .i64 0, .int .i64 b.e] (.bool true)) := xc_pure fun W => by have := isIn64_any n.e 0 b.e W; rw [h6] at this; exact this
  have X7 : Hid (Xc ((w.alloc (.cells #[.bool b.nm, .int .i64 b.tx, .int .i64 b.fd, .int .i64 b.d, .int .i64 b.c, .int .i64 b.s, .int .i64 b.e, .int .i64 b.t, .bool false, .int .i64 b.fi, .int .i64 b.i, .int .i64 b.fz, .int .i64 b.z] 74)).alloc (.cells #[.int .i64 n.k, .string n.n, .string n.x, .string n.d, .int .i64 n.c, .int .i64 n.s, .int .i64 n.e, .int .i64 n.t, .bool false, .slice ai n.l.length ci, .slice az n.z.length cz] 46)) 59 #[.int .i64 n.t, .int .i64 0, .int .i64 b.t] (.bool true)) := xc_pure fun W => by have := isIn64_any n.t 0 b.t W; rw [h7] at this; exact this
  have X9 : Hid (Xc ((w.alloc (.cells #[.bool b.nm, .int .i64 b.tx, .int .i64 b.fd, .int .i64 b.d, .int .i64 b.c, .int .i64 b.s, .int .i64 b.e, .int .i64 b.t, .bool false, .int .i64 b.fi, .int .i64 b.i, .int .i64 b.fz, .int .i64 b.z] 74)).alloc (.cells #[.int .i64 n.k, .string n.n, .string n.x, .string n.d, .int .i64 n.c, .int .i64 n.s, .int .i64 n.e, .int .i64 n.t, .bool false, .slice ai n.l.length ci, .slice az n.z.length cz] 46)) 58 #[.int .i64 n.l.length, .int .i64 b.fi, .int .i64 b.i] (.bool true)) := xc_pure fun W => by have := isIn_any n.l.length b.fi b.i W; rw [h9] at this; exact this
  have X10 : Hid (Xc ((w.alloc (.cells #[.bool b.nm, .int .i64 b.tx, .int .i64 b.fd, .int .i64 b.d, .int .i64 b.c, .int .i64 b.s, .int .i64 b.e, .int .i64 b.t, .bool false, .int .i64 b.fi, .int .i64 b.i, .int .i64 b.fz, .int .i64 b.z] 74)).alloc (.cells #[.int .i64 n.k, .string n.n, .string n.x, .string n.d, .int .i64 n.c, .int .i64 n.s, .int .i64 n.e, .int .i64 n.t, .bool false, .slice ai n.l.length ci, .slice az n.z.length cz] 46)) 60 #[.slice ai n.l.length ci] (.bool false)) := fun y => by have := areItems_any n.l ai ci y.to (h.hI.below (HB0.out.trans (y.below.mono HB0.out.size))) h.hin (fun z hz => ⟨Nat.le_trans (h.hiz z hz).1 (by decide), Nat.le_trans (h.hiz z hz).2 (by decide)⟩); rw [h10] at this; exact this
  clear h h1 h2 h3 h4 h5 h6 h7 h9 h10
  obtain ⟨b0, b1, b2, b3, b4, b5, b6, b7, b8, b9, b10, b11, b12⟩ := bx13 HBo.out
  obtain ⟨m0, m1, m2, m3, m4, m5, m6, m7, m8, m9, m10⟩ := bx11 HNo.out
  go_enter Tryz.func38, Tryz.ntmps38
  go_upto_region 1 with fail
  generalize ((w.alloc (.cells #[.bool b.nm, .int .i64 b.tx, .int .i64 b.fd, .int .i64 b.d, .int .i64 b.c, .int .i64 b.s, .int .i64 b.e, .int .i64 b.t, .bool false, .int .i64 b.fi, .int .i64 b.i, .int .i64 b.fz, .int .i64 b.z] 74)).alloc (.cells #[.int .i64 n.k, .string n.n, .string n.x, .string n.d, .int .i64 n.c, .int .i64 n.s, .int .i64 n.e, .int .i64 n.t, .bool false, .slice ai n.l.length ci, .slice az n.z.length cz] 46)) = W at HB0 HBo HNo X1 X2 X3 X4 X5 X6 X7 X9 X10 b0 b1 b2 b3 b4 b5 b6 b7 b8 b9 b10 b11 b12 m0 m1 m2 m3 m4 m5 m6 m7 m8 m9 m10 ⊢
  have xb0 : ∀ y : Ext W, y.to.cell? _ = _ := fun y => ext_cell y b0
  have xb1 : ∀ y : Ext W, y.to.cell? _ = _ := fun y => ext_cell y b1
  have xb2 : ∀ y : Ext W, y.to.cell? _ = _ := fun y => ext_cell y b2
  have xb3 : ∀ y : Ext W, y.to.cell? _ = _ := fun y => ext_cell y b3
  have xb4 : ∀ y : Ext W, y.to.cell? _ = _ := fun y => ext_cell y b4
  have xb5 : ∀ y : Ext W, y.to.cell? _ = _ := fun y => ext_cell y b5
  have xb6 : ∀ y : Ext W, y.to.cell? _ = _ := fun y => ext_cell y b6
  have xb7 : ∀ y : Ext W, y.to.cell? _ = _ := fun y => ext_cell y b7
  have xb8 : ∀ y : Ext W, y.to.cell? _ = _ := fun y => ext_cell y b8
  have xb9 : ∀ y : Ext W, y.to.cell? _ = _ := fun y => ext_cell y b9
  have xb10 : ∀ y : Ext W, y.to.cell? _ = _ := fun y => ext_cell y b10
  have xb11 : ∀ y : Ext W, y.to.cell? _ = _ := fun y => ext_cell y b11
  have xb12 : ∀ y : Ext W, y.to.cell? _ = _ := fun y => ext_cell y b12
  have xm0 : ∀ y : Ext W, y.to.cell? _ = _ := fun y => ext_cell y m0
  have xm1 : ∀ y : Ext W, y.to.cell? _ = _ := fun y => ext_cell y m1
  have xm2 : ∀ y : Ext W, y.to.cell? _ = _ := fun y => ext_cell y m2
  have xm3 : ∀ y : Ext W, y.to.cell? _ = _ := fun y => ext_cell y m3
  have xm4 : ∀ y : Ext W, y.to.cell? _ = _ := fun y => ext_cell y m4
  have xm5 : ∀ y : Ext W, y.to.cell? _ = _ := fun y => ext_cell y m5
  have xm6 : ∀ y : Ext W, y.to.cell? _ = _ := fun y => ext_cell y m6
  have xm7 : ∀ y : Ext W, y.to.cell? _ = _ := fun y => ext_cell y m7
  have xm8 : ∀ y : Ext W, y.to.cell? _ = _ := fun y => ext_cell y m8
  have xm9 : ∀ y : Ext W, y.to.cell? _ = _ := fun y => ext_cell y m9
  have xm10 : ∀ y : Ext W, y.to.cell? _ = _ := fun y => ext_cell y m10
  have hsome := extSome W
  clear HBo HNo b0 b1 b2 b3 b4 b5 b6 b7 b8 b9 b10 b11 b12 m0 m1 m2 m3 m4 m5 m6 m7 m8 m9 m10
  refine plain_quiet ?_
  dsimp only [List.append]
  repeat (go_big_quiet_step ((first | (go_at_call 56; with_reducible exact ext_call _ (X1.out _)) | (go_at_call 57; with_reducible exact ext_call _ (X2.out _)) | (go_at_call 58; with_reducible exact ext_call _ (X3.out _)) | (go_at_call 58; with_reducible exact ext_call _ (X4.out _)) | (go_at_call 58; with_reducible exact ext_call _ (X5.out _)) | (go_at_call 59; with_reducible exact ext_call _ (X6.out _)) | (go_at_call 59; with_reducible exact ext_call _ (X7.out _)) | (go_at_call 58; with_reducible exact ext_call _ (X9.out _)) | (go_at_call 60; with_reducible exact ext_call _ (X10.out _)))))
  refine wpQuiet_nil ?_
  rintro _ ⟨y, hy⟩
  subst hy
  have HB1 := Lib.hid (HB0.out.trans (y.below.mono HB0.out.size))
  clear xb0 xb1 xb2 xb3 xb4 xb5 xb6 xb7 xb8 xb9 xb10 xb11 xb12 xm0 xm1 xm2 xm3 xm4 xm5 xm6 xm7 xm8 xm9 xm10
  go_wp2_with fail
  go_ret
  exact ⟨rfl, HB1.out⟩
set_option maxRecDepth 100000 in
set_option maxHeartbeats 8000000 in
theorem hold_11_10 (b : Bn) (n : Nt) (ai az : Option Addr) (ci cz : Nat) (w : World) (h : NtL w ai az n) (h1 : (nmB n.n b.nm) = true) (h2 : (txB n.x b.tx) = true) (h3 : (inB n.d.size b.fd b.d) = true) (h4 : (inB n.c 0 b.c) = true) (h5 : (inB n.s 0 b.s) = true) (h6 : (inB n.e 0 b.e) = true) (h7 : (inB n.t 0 b.t) = true) (h9 : (inB n.l.length b.fi b.i) = true) (h10 : (n.l.all itB) = true) (h11 : (inB n.z.length b.fz b.z) = false) : Calls Tryz.prog 38 #[.agg #[.bool b.nm, .int .i64 b.tx, .int .i64 b.fd, .int .i64 b.d, .int .i64 b.c, .int .i64 b.s, .int .i64 b.e, .int .i64 b.t, .bool true, .int .i64 b.fi, .int .i64 b.i, .int .i64 b.fz, .int .i64 b.z], .agg #[.int .i64 n.k, .string n.n, .string n.x, .string n.d, .int .i64 n.c, .int .i64 n.s, .int .i64 n.e, .int .i64 n.t, .bool n.o, .slice ai n.l.length ci, .slice az n.z.length cz]] w (Gives (.bool false) w) := by
  have HB0 : Hid (Below w.heap.size w ((w.alloc (.cells #[.bool b.nm, .int .i64 b.tx, .int .i64 b.fd, .int .i64 b.d, .int .i64 b.c, .int .i64 b.s, .int .i64 b.e, .int .i64 b.t, .bool true, .int .i64 b.fi, .int .i64 b.i, .int .i64 b.fz, .int .i64 b.z] 74)).alloc (.cells #[.int .i64 n.k, .string n.n, .string n.x, .string n.d, .int .i64 n.c, .int .i64 n.s, .int .i64 n.e, .int .i64 n.t, .bool n.o, .slice ai n.l.length ci, .slice az n.z.length cz] 46))) := ((Below.refl _ w).alloc (Nat.le_refl _) _).alloc (by simp) _
  have HBo : Hid (((w.alloc (.cells #[.bool b.nm, .int .i64 b.tx, .int .i64 b.fd, .int .i64 b.d, .int .i64 b.c, .int .i64 b.s, .int .i64 b.e, .int .i64 b.t, .bool true, .int .i64 b.fi, .int .i64 b.i, .int .i64 b.fz, .int .i64 b.z] 74)).alloc (.cells #[.int .i64 n.k, .string n.n, .string n.x, .string n.d, .int .i64 n.c, .int .i64 n.s, .int .i64 n.e, .int .i64 n.t, .bool n.o, .slice ai n.l.length ci, .slice az n.z.length cz] 46)).heap[w.heap.size]? = some (.cells #[.bool b.nm, .int .i64 b.tx, .int .i64 b.fd, .int .i64 b.d, .int .i64 b.c, .int .i64 b.s, .int .i64 b.e, .int .i64 b.t, .bool true, .int .i64 b.fi, .int .i64 b.i, .int .i64 b.fz, .int .i64 b.z] 74 (0, 0))) := (Below.heap_alloc (w.alloc (.cells #[.bool b.nm, .int .i64 b.tx, .int .i64 b.fd, .int .i64 b.d, .int .i64 b.c, .int .i64 b.s, .int .i64 b.e, .int .i64 b.t, .bool true, .int .i64 b.fi, .int .i64 b.i, .int .i64 b.fz, .int .i64 b.z] 74)) _ _ (by simp)).trans (box_new w _ _)
  have HNo : Hid (((w.alloc (.cells #[.bool b.nm, .int .i64 b.tx, .int .i64 b.fd, .int .i64 b.d, .int .i64 b.c, .int .i64 b.s, .int .i64 b.e, .int .i64 b.t, .bool true, .int .i64 b.fi, .int .i64 b.i, .int .i64 b.fz, .int .i64 b.z] 74)).alloc (.cells #[.int .i64 n.k, .string n.n, .string n.x, .string n.d, .int .i64 n.c, .int .i64 n.s, .int .i64 n.e, .int .i64 n.t, .bool n.o, .slice ai n.l.length ci, .slice az n.z.length cz] 46)).heap[w.heap.size + 1]? = some (.cells #[.int .i64 n.k, .string n.n, .string n.x, .string n.d, .int .i64 n.c, .int .i64 n.s, .int .i64 n.e, .int .i64 n.t, .bool n.o, .slice ai n.l.length ci, .slice az n.z.length cz] 46 (0, 0))) := by
    have := box_new (w.alloc (.cells #[.bool b.nm, .int .i64 b.tx, .int .i64 b.fd, .int .i64 b.d, .int .i64 b.c, .int .i64 b.s, .int .i64 b.e, .int .i64 b.t, .bool true, .int .i64 b.fi, .int .i64 b.i, .int .i64 b.fz, .int .i64 b.z] 74)) #[.int .i64 n.k, .string n.n, .string n.x, .string n.d, .int .i64 n.c, .int .i64 n.s, .int .i64 n.e, .int .i64 n.t, .bool n.o, .slice ai n.l.length ci, .slice az n.z.length cz] 46
    show _ = _
    simpa using this
  have X1 : Hid (Xc ((w.alloc (.cells #[.bool b.nm, .int .i64 b.tx, .int .i64 b.fd, .int .i64 b.d, .int .i64 b.c, .int .i64 b.s, .int .i64 b.e, .int .i64 b.t, .bool true, .int .i64 b.fi, .int .i64 b.i, .int .i64 b.fz, .int .i64 b.z] 74)).alloc (.cells #[.int .i64 n.k, .string n.n, .string n.x, .string n.d, .int .i64 n.c, .int .i64 n.s, .int .i64 n.e, .int .i64 n.t, .bool n.o, .slice ai n.l.length ci, .slice az n.z.length cz] 46)) 56 #[.string n.n, .bool b.nm] (.bool true)) := fun y => by have := isName_any n.n b.nm y.to (Nat.le_trans h.hn (by decide)); rw [h1] at this; exact this
  have X2 : Hid (Xc ((w.alloc (.cells #[.bool b.nm, .int .i64 b.tx, .int .i64 b.fd, .int .i64 b.d, .int .i64 b.c, .int .i64 b.s, .int .i64 b.e, .int .i64 b.t, .bool true, .int .i64 b.fi, .int .i64 b.i, .int .i64 b.fz, .int .i64 b.z] 74)).alloc (.cells #[.int .i64 n.k, .string n.n, .string n.x, .string n.d, .int .i64 n.c, .int .i64 n.s, .int .i64 n.e, .int .i64 n.t, .bool n.o, .slice ai n.l.length ci, .slice az n.z.length cz] 46)) 57 #[.string n.x, .int .i64 b.tx] (.bool true)) := fun y => by have := isText_any n.x b.tx y.to (Nat.le_trans h.hx (by decide)); rw [h2] at this; exact this
  have X3 : Hid (Xc ((w.alloc (.cells #[.bool b.nm, .int .i64 b.tx, .int .i64 b.fd, .int .i64 b.d, .int .i64 b.c, .int .i64 b.s, .int .i64 b.e, .int .i64 b.t, .bool true, .int .i64 b.fi, .int .i64 b.i, .int .i64 b.fz, .int .i64 b.z] 74)).alloc (.cells #[.int .i64 n.k, .string n.n, .string n.x, .string n.d, .int .i64 n.c, .int .i64 n.s, .int .i64 n.e, .int .i64 n.t, .bool n.o, .slice ai n.l.length ci, .slice az n.z.length cz] 46)) 58 #[.int .i64 n.d.size, .int .i64 b.fd, .int .i64 b.d] (.bool true)) := xc_pure fun W => by have := isIn_any n.d.size b.fd b.d W; rw [h3] at this; exact this
  have X4 : Hid (Xc ((w.alloc (.cells #[.bool b.nm, .int .i64 b.tx, .int .i64 b.fd, .int .i64 b.d, .int .i64 b.c, .int .i64 b.s, .int .i64 b.e, .int .i64 b.t, .bool true, .int .i64 b.fi, .int .i64 b.i, .int .i64 b.fz, .int .i64 b.z] 74)).alloc (.cells #[.int .i64 n.k, .string n.n, .string n.x, .string n.d, .int .i64 n.c, .int .i64 n.s, .int .i64 n.e, .int .i64 n.t, .bool n.o, .slice ai n.l.length ci, .slice az n.z.length cz] 46)) 58 #[.int .i64 n.c, .int .i64 0, .int .i64 b.c] (.bool true)) := xc_pure fun W => by have := isIn_any n.c 0 b.c W; rw [h4] at this; exact this
  have X5 : Hid (Xc ((w.alloc (.cells #[.bool b.nm, .int .i64 b.tx, .int .i64 b.fd, .int .i64 b.d, .int .i64 b.c, .int .i64 b.s, .int .i64 b.e, .int .i64 b.t, .bool true, .int .i64 b.fi, .int .i64 b.i, .int .i64 b.fz, .int .i64 b.z] 74)).alloc (.cells #[.int .i64 n.k, .string n.n, .string n.x, .string n.d, .int .i64 n.c, .int .i64 n.s, .int .i64 n.e, .int .i64 n.t, .bool n.o, .slice ai n.l.length ci, .slice az n.z.length cz] 46)) 58 #[.int .i64 n.s, .int .i64 0, .int .i64 b.s] (.bool true)) := xc_pure fun W => by have := isIn_any n.s 0 b.s W; rw [h5] at this; exact this
  have X6 : Hid (Xc ((w.alloc (.cells #[.bool b.nm, .int .i64 b.tx, .int .i64 b.fd, .int .i64 b.d, .int .i64 b.c, .int .i64 b.s, .int .i64 b.e, .int .i64 b.t, .bool true, .int .i64 b.fi, .int .i64 b.i, .int .i64 b.fz, .int .i64 b.z] 74)).alloc (.cells #[.int .i64 n.k, .string n.n, .string n.x, .string n.d, .int .i64 n.c, .int .i64 n.s, .int .i64 n.e, .int .i64 n.t, .bool n.o, .slice ai n.l.length ci, .slice az n.z.length cz] 46)) 59 #[.int .i64 n.e, .int .i64 0, .int .i64 b.e] (.bool true)) := xc_pure fun W => by have := isIn64_any n.e 0 b.e W; rw [h6] at this; exact this
  have X7 : Hid (Xc ((w.alloc (.cells #[.bool b.nm, .int .i64 b.tx, .int .i64 b.fd, .int .i64 b.d, .int .i64 b.c, .int .i64 b.s, .int .i64 b.e, .int .i64 b.t, .bool true, .int .i64 b.fi, .int .i64 b.i, .int .i64 b.fz, .int .i64 b.z] 74)).alloc (.cells #[.int .i64 n.k, .string n.n, .string n.x, .string n.d, .int .i64 n.c, .int .i64 n.s, .int .i64 n.e, .int .i64 n.t, .bool n.o, .slice ai n.l.length ci, .slice az n.z.length cz] 46)) 59 #[.int .i64 n.t, .int .i64 0, .int .i64 b.t] (.bool true)) := xc_pure fun W => by have := isIn64_any n.t 0 b.t W; rw [h7] at this; exact this
  have X9 : Hid (Xc ((w.alloc (.cells #[.bool b.nm, .int .i64 b.tx, .int .i64 b.fd, .int .i64 b.d, .int .i64 b.c, .int .i64 b.s, .int .i64 b.e, .int .i64 b.t, .bool true, .int .i64 b.fi, .int .i64 b.i, .int .i64 b.fz, .int .i64 b.z] 74)).alloc (.cells #[.int .i64 n.k, .string n.n, .string n.x, .string n.d, .int .i64 n.c, .int .i64 n.s, .int .i64 n.e, .int .i64 n.t, .bool n.o, .slice ai n.l.length ci, .slice az n.z.length cz] 46)) 58 #[.int .i64 n.l.length, .int .i64 b.fi, .int .i64 b.i] (.bool true)) := xc_pure fun W => by have := isIn_any n.l.length b.fi b.i W; rw [h9] at this; exact this
  have X10 : Hid (Xc ((w.alloc (.cells #[.bool b.nm, .int .i64 b.tx, .int .i64 b.fd, .int .i64 b.d, .int .i64 b.c, .int .i64 b.s, .int .i64 b.e, .int .i64 b.t, .bool true, .int .i64 b.fi, .int .i64 b.i, .int .i64 b.fz, .int .i64 b.z] 74)).alloc (.cells #[.int .i64 n.k, .string n.n, .string n.x, .string n.d, .int .i64 n.c, .int .i64 n.s, .int .i64 n.e, .int .i64 n.t, .bool n.o, .slice ai n.l.length ci, .slice az n.z.length cz] 46)) 60 #[.slice ai n.l.length ci] (.bool true)) := fun y => by have := areItems_any n.l ai ci y.to (h.hI.below (HB0.out.trans (y.below.mono HB0.out.size))) h.hin (fun z hz => ⟨Nat.le_trans (h.hiz z hz).1 (by decide), Nat.le_trans (h.hiz z hz).2 (by decide)⟩); rw [h10] at this; exact this
  have X11 : Hid (Xc ((w.alloc (.cells #[.bool b.nm, .int .i64 b.tx, .int .i64 b.fd, .int .i64 b.d, .int .i64 b.c, .int .i64 b.s, .int .i64 b.e, .int .i64 b.t, .bool true, .int .i64 b.fi, .int .i64 b.i, .int .i64 b.fz, .int .i64 b.z] 74)).alloc (.cells #[.int .i64 n.k, .string n.n, .string n.x, .string n.d, .int .i64 n.c, .int .i64 n.s, .int .i64 n.e, .int .i64 n.t, .bool n.o, .slice ai n.l.length ci, .slice az n.z.length cz] 46)) 58 #[.int .i64 n.z.length, .int .i64 b.fz, .int .i64 b.z] (.bool false)) := xc_pure fun W => by have := isIn_any n.z.length b.fz b.z W; rw [h11] at this; exact this
  clear h h1 h2 h3 h4 h5 h6 h7 h9 h10 h11
  obtain ⟨b0, b1, b2, b3, b4, b5, b6, b7, b8, b9, b10, b11, b12⟩ := bx13 HBo.out
  obtain ⟨m0, m1, m2, m3, m4, m5, m6, m7, m8, m9, m10⟩ := bx11 HNo.out
  go_enter Tryz.func38, Tryz.ntmps38
  go_upto_region 1 with fail
  generalize ((w.alloc (.cells #[.bool b.nm, .int .i64 b.tx, .int .i64 b.fd, .int .i64 b.d, .int .i64 b.c, .int .i64 b.s, .int .i64 b.e, .int .i64 b.t, .bool true, .int .i64 b.fi, .int .i64 b.i, .int .i64 b.fz, .int .i64 b.z] 74)).alloc (.cells #[.int .i64 n.k, .string n.n, .string n.x, .string n.d, .int .i64 n.c, .int .i64 n.s, .int .i64 n.e, .int .i64 n.t, .bool n.o, .slice ai n.l.length ci, .slice az n.z.length cz] 46)) = W at HB0 HBo HNo X1 X2 X3 X4 X5 X6 X7 X9 X10 X11 b0 b1 b2 b3 b4 b5 b6 b7 b8 b9 b10 b11 b12 m0 m1 m2 m3 m4 m5 m6 m7 m8 m9 m10 ⊢
  have xb0 : ∀ y : Ext W, y.to.cell? _ = _ := fun y => ext_cell y b0
  have xb1 : ∀ y : Ext W, y.to.cell? _ = _ := fun y => ext_cell y b1
  have xb2 : ∀ y : Ext W, y.to.cell? _ = _ := fun y => ext_cell y b2
  have xb3 : ∀ y : Ext W, y.to.cell? _ = _ := fun y => ext_cell y b3
  have xb4 : ∀ y : Ext W, y.to.cell? _ = _ := fun y => ext_cell y b4
  have xb5 : ∀ y : Ext W, y.to.cell? _ = _ := fun y => ext_cell y b5
  have xb6 : ∀ y : Ext W, y.to.cell? _ = _ := fun y => ext_cell y b6
  have xb7 : ∀ y : Ext W, y.to.cell? _ = _ := fun y => ext_cell y b7
  have xb8 : ∀ y : Ext W, y.to.cell? _ = _ := fun y => ext_cell y b8
  have xb9 : ∀ y : Ext W, y.to.cell? _ = _ := fun y => ext_cell y b9
  have xb10 : ∀ y : Ext W, y.to.cell? _ = _ := fun y => ext_cell y b10
  have xb11 : ∀ y : Ext W, y.to.cell? _ = _ := fun y => ext_cell y b11
  have xb12 : ∀ y : Ext W, y.to.cell? _ = _ := fun y => ext_cell y b12
  have xm0 : ∀ y : Ext W, y.to.cell? _ = _ := fun y => ext_cell y m0
  have xm1 : ∀ y : Ext W, y.to.cell? _ = _ := fun y => ext_cell y m1
  have xm2 : ∀ y : Ext W, y.to.cell? _ = _ := fun y => ext_cell y m2
  have xm3 : ∀ y : Ext W, y.to.cell? _ = _ := fun y => ext_cell y m3
  have xm4 : ∀ y : Ext W, y.to.cell? _ = _ := fun y => ext_cell y m4
  have xm5 : ∀ y : Ext W, y.to.cell? _ = _ := fun y => ext_cell y m5
  have xm6 : ∀ y : Ext W, y.to.cell? _ = _ := fun y => ext_cell y m6
  have xm7 : ∀ y : Ext W, y.to.cell? _ = _ := fun y => ext_cell y m7
  have xm8 : ∀ y : Ext W, y.to.cell? _ = _ := fun y => ext_cell y m8
  have xm9 : ∀ y : Ext W, y.to.cell? _ = _ := fun y => ext_cell y m9
  have xm10 : ∀ y : Ext W, y.to.cell? _ = _ := fun y => ext_cell y m10
  have hsome := extSome W
  clear HBo HNo b0 b1 b2 b3 b4 b5 b6 b7 b8 b9 b10 b11 b12 m0 m1 m2 m3 m4 m5 m6 m7 m8 m9 m10
  refine plain_quiet ?_
  dsimp only [List.append]
  repeat (go_big_quiet_step ((first | (go_at_call 56; with_reducible exact ext_call _ (X1.out _)) | (go_at_call 57; with_reducible exact ext_call _ (X2.out _)) | (go_at_call 58; with_reducible exact ext_call _ (X3.out _)) | (go_at_call 58; with_reducible exact ext_call _ (X4.out _)) | (go_at_call 58; with_reducible exact ext_call _ (X5.out _)) | (go_at_call 59; with_reducible exact ext_call _ (X6.out _)) | (go_at_call 59; with_reducible exact ext_call _ (X7.out _)) | (go_at_call 58; with_reducible exact ext_call _ (X9.out _)) | (go_at_call 60; with_reducible exact ext_call _ (X10.out _)) | (go_at_call 58; with_reducible exact ext_call _ (X11.out _)))))
  refine wpQuiet_nil ?_
  rintro _ ⟨y, hy⟩
  subst hy
  have HB1 := Lib.hid (HB0.out.trans (y.below.mono HB0.out.size))
  clear xb0 xb1 xb2 xb3 xb4 xb5 xb6 xb7 xb8 xb9 xb10 xb11 xb12 xm0 xm1 xm2 xm3 xm4 xm5 xm6 xm7 xm8 xm9 xm10
  go_wp2_with fail
  go_ret
  exact ⟨rfl, HB1.out⟩
set_option maxRecDepth 100000 in
set_option maxHeartbeats 8000000 in
theorem hold_11_00 (b : Bn) (n : Nt) (ai az : Option Addr) (ci cz : Nat) (w : World) (h : NtL w ai az n) (h1 : (nmB n.n b.nm) = true) (h2 : (txB n.x b.tx) = true) (h3 : (inB n.d.size b.fd b.d) = true) (h4 : (inB n.c 0 b.c) = true) (h5 : (inB n.s 0 b.s) = true) (h6 : (inB n.e 0 b.e) = true) (h7 : (inB n.t 0 b.t) = true) (h9 : (inB n.l.length b.fi b.i) = true) (h10 : (n.l.all itB) = true) (h11 : (inB n.z.length b.fz b.z) = false) : Calls Tryz.prog 38 #[.agg #[.bool b.nm, .int .i64 b.tx, .int .i64 b.fd, .int .i64 b.d, .int .i64 b.c, .int .i64 b.s, .int .i64 b.e, .int .i64 b.t, .bool false, .int .i64 b.fi, .int .i64 b.i, .int .i64 b.fz, .int .i64 b.z], .agg #[.int .i64 n.k, .string n.n, .string n.x, .string n.d, .int .i64 n.c, .int .i64 n.s, .int .i64 n.e, .int .i64 n.t, .bool false, .slice ai n.l.length ci, .slice az n.z.length cz]] w (Gives (.bool false) w) := by
  have HB0 : Hid (Below w.heap.size w ((w.alloc (.cells #[.bool b.nm, .int .i64 b.tx, .int .i64 b.fd, .int .i64 b.d, .int .i64 b.c, .int .i64 b.s, .int .i64 b.e, .int .i64 b.t, .bool false, .int .i64 b.fi, .int .i64 b.i, .int .i64 b.fz, .int .i64 b.z] 74)).alloc (.cells #[.int .i64 n.k, .string n.n, .string n.x, .string n.d, .int .i64 n.c, .int .i64 n.s, .int .i64 n.e, .int .i64 n.t, .bool false, .slice ai n.l.length ci, .slice az n.z.length cz] 46))) := ((Below.refl _ w).alloc (Nat.le_refl _) _).alloc (by simp) _
  have HBo : Hid (((w.alloc (.cells #[.bool b.nm, .int .i64 b.tx, .int .i64 b.fd, .int .i64 b.d, .int .i64 b.c, .int .i64 b.s, .int .i64 b.e, .int .i64 b.t, .bool false, .int .i64 b.fi, .int .i64 b.i, .int .i64 b.fz, .int .i64 b.z] 74)).alloc (.cells #[.int .i64 n.k, .string n.n, .string n.x, .string n.d, .int .i64 n.c, .int .i64 n.s, .int .i64 n.e, .int .i64 n.t, .bool false, .slice ai n.l.length ci, .slice az n.z.length cz] 46)).heap[w.heap.size]? = some (.cells #[.bool b.nm, .int .i64 b.tx, .int .i64 b.fd, .int .i64 b.d, .int .i64 b.c, .int .i64 b.s, .int .i64 b.e, .int .i64 b.t, .bool false, .int .i64 b.fi, .int .i64 b.i, .int .i64 b.fz, .int .i64 b.z] 74 (0, 0))) := (Below.heap_alloc (w.alloc (.cells #[.bool b.nm, .int .i64 b.tx, .int .i64 b.fd, .int .i64 b.d, .int .i64 b.c, .int .i64 b.s, .int .i64 b.e, .int .i64 b.t, .bool false, .int .i64 b.fi, .int .i64 b.i, .int .i64 b.fz, .int .i64 b.z] 74)) _ _ (by simp)).trans (box_new w _ _)
  have HNo : Hid (((w.alloc (.cells #[.bool b.nm, .int .i64 b.tx, .int .i64 b.fd, .int .i64 b.d, .int .i64 b.c, .int .i64 b.s, .int .i64 b.e, .int .i64 b.t, .bool false, .int .i64 b.fi, .int .i64 b.i, .int .i64 b.fz, .int .i64 b.z] 74)).alloc (.cells #[.int .i64 n.k, .string n.n, .string n.x, .string n.d, .int .i64 n.c, .int .i64 n.s, .int .i64 n.e, .int .i64 n.t, .bool false, .slice ai n.l.length ci, .slice az n.z.length cz] 46)).heap[w.heap.size + 1]? = some (.cells #[.int .i64 n.k, .string n.n, .string n.x, .string n.d, .int .i64 n.c, .int .i64 n.s, .int .i64 n.e, .int .i64 n.t, .bool false, .slice ai n.l.length ci, .slice az n.z.length cz] 46 (0, 0))) := by
    have := box_new (w.alloc (.cells #[.bool b.nm, .int .i64 b.tx, .int .i64 b.fd, .int .i64 b.d, .int .i64 b.c, .int .i64 b.s, .int .i64 b.e, .int .i64 b.t, .bool false, .int .i64 b.fi, .int .i64 b.i, .int .i64 b.fz, .int .i64 b.z] 74)) #[.int .i64 n.k, .string n.n, .string n.x, .string n.d, .int .i64 n.c, .int .i64 n.s, .int .i64 n.e, .int .i64 n.t, .bool false, .slice ai n.l.length ci, .slice az n.z.length cz] 46
    show _ = _
    simpa using this
  have X1 : Hid (Xc ((w.alloc (.cells #[.bool b.nm, .int .i64 b.tx, .int .i64 b.fd, .int .i64 b.d, .int .i64 b.c, .int .i64 b.s, .int .i64 b.e, .int .i64 b.t, .bool false, .int .i64 b.fi, .int .i64 b.i, .int .i64 b.fz, .int .i64 b.z] 74)).alloc (.cells #[.int .i64 n.k, .string n.n, .string n.x, .string n.d, .int .i64 n.c, .int .i64 n.s, .int .i64 n.e, .int .i64 n.t, .bool false, .slice ai n.l.length ci, .slice az n.z.length cz] 46)) 56 #[.string n.n, .bool b.nm] (.bool true)) := fun y => by have := isName_any n.n b.nm y.to (Nat.le_trans h.hn (by decide)); rw [h1] at this; exact this
  have X2 : Hid (Xc ((w.alloc (.cells #[.bool b.nm, .int .i64 b.tx, .int .i64 b.fd, .int .i64 b.d, .int .i64 b.c, .int .i64 b.s, .int .i64 b.e, .int .i64 b.t, .bool false, .int .i64 b.fi, .int .i64 b.i, .int .i64 b.fz, .int .i64 b.z] 74)).alloc (.cells #[.int .i64 n.k, .string n.n, .string n.x, .string n.d, .int .i64 n.c, .int .i64 n.s, .int .i64 n.e, .int .i64 n.t, .bool false, .slice ai n.l.length ci, .slice az n.z.length cz] 46)) 57 #[.string n.x, .int .i64 b.tx] (.bool true)) := fun y => by have := isText_any n.x b.tx y.to (Nat.le_trans h.hx (by decide)); rw [h2] at this; exact this
  have X3 : Hid (Xc ((w.alloc (.cells #[.bool b.nm, .int .i64 b.tx, .int .i64 b.fd, .int .i64 b.d, .int .i64 b.c, .int .i64 b.s, .int .i64 b.e, .int .i64 b.t, .bool false, .int .i64 b.fi, .int .i64 b.i, .int .i64 b.fz, .int .i64 b.z] 74)).alloc (.cells #[.int .i64 n.k, .string n.n, .string n.x, .string n.d, .int .i64 n.c, .int .i64 n.s, .int .i64 n.e, .int .i64 n.t, .bool false, .slice ai n.l.length ci, .slice az n.z.length cz] 46)) 58 #[.int .i64 n.d.size, .int .i64 b.fd, .int .i64 b.d] (.bool true)) := xc_pure fun W => by have := isIn_any n.d.size b.fd b.d W; rw [h3] at this; exact this
  have X4 : Hid (Xc ((w.alloc (.cells #[.bool b.nm, .int .i64 b.tx, .int .i64 b.fd, .int .i64 b.d, .int .i64 b.c, .int .i64 b.s, .int .i64 b.e, .int .i64 b.t, .bool false, .int .i64 b.fi, .int .i64 b.i, .int .i64 b.fz, .int .i64 b.z] 74)).alloc (.cells #[.int .i64 n.k, .string n.n, .string n.x, .string n.d, .int .i64 n.c, .int .i64 n.s, .int .i64 n.e, .int .i64 n.t, .bool false, .slice ai n.l.length ci, .slice az n.z.length cz] 46)) 58 #[.int .i64 n.c, .int .i64 0, .int .i64 b.c] (.bool true)) := xc_pure fun W => by have := isIn_any n.c 0 b.c W; rw [h4] at this; exact this
  have X5 : Hid (Xc ((w.alloc (.cells #[.bool b.nm, .int .i64 b.tx, .int .i64 b.fd, .int .i64 b.d, .int .i64 b.c, .int .i64 b.s, .int .i64 b.e, .int .i64 b.t, .bool false, .int .i64 b.fi, .int .i64 b.i, .int .i64 b.fz, .int .i64 b.z] 74)).alloc (.cells #[.int .i64 n.k, .string n.n, .string n.x, .string n.d, .int .i64 n.c, .int .i64 n.s, .int .i64 n.e, .int .i64 n.t, .bool false, .slice ai n.l.length ci, .slice az n.z.length cz] 46)) 58 #[.int .i64 n.s, .int .i64 0, .int .i64 b.s] (.bool true)) := xc_pure fun W => by have := isIn_any n.s 0 b.s W; rw [h5] at this; exact this
  have X6 : Hid (Xc ((w.alloc (.cells #[.bool b.nm, .int .i64 b.tx, .int .i64 b.fd, .int .i64 b.d, .int .i64 b.c, .int .i64 b.s, .int .i64 b.e, .int .i64 b.t, .bool false, .int .i64 b.fi, .int .i64 b.i, .int .i64 b.fz, .int .i64 b.z] 74)).alloc (.cells #[.int .i64 n.k, .string n.n, .string n.x, .string n.d, .int .i64 n.c, .int .i64 n.s, .int .i64 n.e, .int .i64 n.t, .bool false, .slice ai n.l.length ci, .slice az n.z.length cz] 46)) 59 #[.int .i64 n.e, .int .i64 0, .int .i64 b.e] (.bool true)) := xc_pure fun W => by have := isIn64_any n.e 0 b.e W; rw [h6] at this; exact this
  have X7 : Hid (Xc ((w.alloc (.cells #[.bool b.nm, .int .i64 b.tx, .int .i64 b.fd, .int .i64 b.d, .int .i64 b.c, .int .i64 b.s, .int .i64 b.e, .int .i64 b.t, .bool false, .int .i64 b.fi, .int .i64 b.i, .int .i64 b.fz, .int .i64 b.z] 74)).alloc (.cells #[.int .i64 n.k, .string n.n, .string n.x, .string n.d, .int .i64 n.c, .int .i64 n.s, .int .i64 n.e, .int .i64 n.t, .bool false, .slice ai n.l.length ci, .slice az n.z.length cz] 46)) 59 #[.int .i64 n.t, .int .i64 0, .int .i64 b.t] (.bool true)) := xc_pure fun W => by have := isIn64_any n.t 0 b.t W; rw [h7] at this; exact this
  have X9 : Hid (Xc ((w.alloc (.cells #[.bool b.nm, .int .i64 b.tx, .int .i64 b.fd, .int .i64 b.d, .int .i64 b.c, .int .i64 b.s, .int .i64 b.e, .int .i64 b.t, .bool false, .int .i64 b.fi, .int .i64 b.i, .int .i64 b.fz, .int .i64 b.z] 74)).alloc (.cells #[.int .i64 n.k, .string n.n, .string n.x, .string n.d, .int .i64 n.c, .int .i64 n.s, .int .i64 n.e, .int .i64 n.t, .bool false, .slice ai n.l.length ci, .slice az n.z.length cz] 46)) 58 #[.int .i64 n.l.length, .int .i64 b.fi, .int .i64 b.i] (.bool true)) := xc_pure fun W => by have := isIn_any n.l.length b.fi b.i W; rw [h9] at this; exact this
  have X10 : Hid (Xc ((w.alloc (.cells #[.bool b.nm, .int .i64 b.tx, .int .i64 b.fd, .int .i64 b.d, .int .i64 b.c, .int .i64 b.s, .int .i64 b.e, .int .i64 b.t, .bool false, .int .i64 b.fi, .int .i64 b.i, .int .i64 b.fz, .int .i64 b.z] 74)).alloc (.cells #[.int .i64 n.k, .string n.n, .string n.x, .string n.d, .int .i64 n.c, .int .i64 n.s, .int .i64 n.e, .int .i64 n.t, .bool false, .slice ai n.l.length ci, .slice az n.z.length cz] 46)) 60 #[.slice ai n.l.length ci] (.bool true)) := fun y => by have := areItems_any n.l ai ci y.to (h.hI.below (HB0.out.trans (y.below.mono HB0.out.size))) h.hin (fun z hz => ⟨Nat.le_trans (h.hiz z hz).1 (by decide), Nat.le_trans (h.hiz z hz).2 (by decide)⟩); rw [h10] at this; exact this
  have X11 : Hid (Xc ((w.alloc (.cells #[.bool b.nm, .int .i64 b.tx, .int .i64 b.fd, .int .i64 b.d, .int .i64 b.c, .int .i64 b.s, .int .i64 b.e, .int .i64 b.t, .bool false, .int .i64 b.fi, .int .i64 b.i, .int .i64 b.fz, .int .i64 b.z] 74)).alloc (.cells #[.int .i64 n.k, .string n.n, .string n.x, .string n.d, .int .i64 n.c, .int .i64 n.s, .int .i64 n.e, .int .i64 n.t, .bool false, .slice ai n.l.length ci, .slice az n.z.length cz] 46)) 58 #[.int .i64 n.z.length, .int .i64 b.fz, .int .i64 b.z] (.bool false)) := xc_pure fun W => by have := isIn_any n.z.length b.fz b.z W; rw [h11] at this; exact this
  clear h h1 h2 h3 h4 h5 h6 h7 h9 h10 h11
  obtain ⟨b0, b1, b2, b3, b4, b5, b6, b7, b8, b9, b10, b11, b12⟩ := bx13 HBo.out
  obtain ⟨m0, m1, m2, m3, m4, m5, m6, m7, m8, m9, m10⟩ := bx11 HNo.out
  go_enter Tryz.func38, Tryz.ntmps38
  go_upto_region 1 with fail
  generalize ((w.alloc (.cells #[.bool b.nm, .int .i64 b.tx, .int .i64 b.fd, .int .i64 b.d, .int .i64 b.c, .int .i64 b.s, .int .i64 b.e, .int .i64 b.t, .bool false, .int .i64 b.fi, .int .i64 b.i, .int .i64 b.fz, .int .i64 b.z] 74)).alloc (.cells #[.int .i64 n.k, .string n.n, .string n.x, .string n.d, .int .i64 n.c, .int .i64 n.s, .int .i64 n.e, .int .i64 n.t, .bool false, .slice ai n.l.length ci, .slice az n.z.length cz] 46)) = W at HB0 HBo HNo X1 X2 X3 X4 X5 X6 X7 X9 X10 X11 b0 b1 b2 b3 b4 b5 b6 b7 b8 b9 b10 b11 b12 m0 m1 m2 m3 m4 m5 m6 m7 m8 m9 m10 ⊢
  have xb0 : ∀ y : Ext W, y.to.cell? _ = _ := fun y => ext_cell y b0
  have xb1 : ∀ y : Ext W, y.to.cell? _ = _ := fun y => ext_cell y b1
  have xb2 : ∀ y : Ext W, y.to.cell? _ = _ := fun y => ext_cell y b2
  have xb3 : ∀ y : Ext W, y.to.cell? _ = _ := fun y => ext_cell y b3
  have xb4 : ∀ y : Ext W, y.to.cell? _ = _ := fun y => ext_cell y b4
  have xb5 : ∀ y : Ext W, y.to.cell? _ = _ := fun y => ext_cell y b5
  have xb6 : ∀ y : Ext W, y.to.cell? _ = _ := fun y => ext_cell y b6
  have xb7 : ∀ y : Ext W, y.to.cell? _ = _ := fun y => ext_cell y b7
  have xb8 : ∀ y : Ext W, y.to.cell? _ = _ := fun y => ext_cell y b8
  have xb9 : ∀ y : Ext W, y.to.cell? _ = _ := fun y => ext_cell y b9
  have xb10 : ∀ y : Ext W, y.to.cell? _ = _ := fun y => ext_cell y b10
  have xb11 : ∀ y : Ext W, y.to.cell? _ = _ := fun y => ext_cell y b11
  have xb12 : ∀ y : Ext W, y.to.cell? _ = _ := fun y => ext_cell y b12
  have xm0 : ∀ y : Ext W, y.to.cell? _ = _ := fun y => ext_cell y m0
  have xm1 : ∀ y : Ext W, y.to.cell? _ = _ := fun y => ext_cell y m1
  have xm2 : ∀ y : Ext W, y.to.cell? _ = _ := fun y => ext_cell y m2
  have xm3 : ∀ y : Ext W, y.to.cell? _ = _ := fun y => ext_cell y m3
  have xm4 : ∀ y : Ext W, y.to.cell? _ = _ := fun y => ext_cell y m4
  have xm5 : ∀ y : Ext W, y.to.cell? _ = _ := fun y => ext_cell y m5
  have xm6 : ∀ y : Ext W, y.to.cell? _ = _ := fun y => ext_cell y m6
  have xm7 : ∀ y : Ext W, y.to.cell? _ = _ := fun y => ext_cell y m7
  have xm8 : ∀ y : Ext W, y.to.cell? _ = _ := fun y => ext_cell y m8
  have xm9 : ∀ y : Ext W, y.to.cell? _ = _ := fun y => ext_cell y m9
  have xm10 : ∀ y : Ext W, y.to.cell? _ = _ := fun y => ext_cell y m10
  have hsome := extSome W
  clear HBo HNo b0 b1 b2 b3 b4 b5 b6 b7 b8 b9 b10 b11 b12 m0 m1 m2 m3 m4 m5 m6 m7 m8 m9 m10
  refine plain_quiet ?_
  dsimp only [List.append]
  repeat (go_big_quiet_step ((first | (go_at_call 56; with_reducible exact ext_call _ (X1.out _)) | (go_at_call 57; with_reducible exact ext_call _ (X2.out _)) | (go_at_call 58; with_reducible exact ext_call _ (X3.out _)) | (go_at_call 58; with_reducible exact ext_call _ (X4.out _)) | (go_at_call 58; with_reducible exact ext_call _ (X5.out _)) | (go_at_call 59; with_reducible exact ext_call _ (X6.out _)) | (go_at_call 59; with_reducible exact ext_call _ (X7.out _)) | (go_at_call 58; with_reducible exact ext_call _ (X9.out _)) | (go_at_call 60; with_reducible exact ext_call _ (X10.out _)) | (go_at_call 58; with_reducible exact ext_call _ (X11.out _)))))
  refine wpQuiet_nil ?_
  rintro _ ⟨y, hy⟩
  subst hy
  have HB1 := Lib.hid (HB0.out.trans (y.below.mono HB0.out.size))
  clear xb0 xb1 xb2 xb3 xb4 xb5 xb6 xb7 xb8 xb9 xb10 xb11 xb12 xm0 xm1 xm2 xm3 xm4 xm5 xm6 xm7 xm8 xm9 xm10
  go_wp2_with fail
  go_ret
  exact ⟨rfl, HB1.out⟩
set_option maxRecDepth 100000 in
set_option maxHeartbeats 8000000 in
theorem hold_12_10 (b : Bn) (n : Nt) (ai az : Option Addr) (ci cz : Nat) (w : World) (h : NtL w ai az n) (h1 : (nmB n.n b.nm) = true) (h2 : (txB n.x b.tx) = true) (h3 : (inB n.d.size b.fd b.d) = true) (h4 : (inB n.c 0 b.c) = true) (h5 : (inB n.s 0 b.s) = true) (h6 : (inB n.e 0 b.e) = true) (h7 : (inB n.t 0 b.t) = true) (h9 : (inB n.l.length b.fi b.i) = true) (h10 : (n.l.all itB) = true) (h11 : (inB n.z.length b.fz b.z) = true) (h12 : (n.z.all (fun c => inB c 0 65535)) = false) : Calls Tryz.prog 38 #[.agg #[.bool b.nm, .int .i64 b.tx, .int .i64 b.fd, .int .i64 b.d, .int .i64 b.c, .int .i64 b.s, .int .i64 b.e, .int .i64 b.t, .bool true, .int .i64 b.fi, .int .i64 b.i, .int .i64 b.fz, .int .i64 b.z], .agg #[.int .i64 n.k, .string n.n, .string n.x, .string n.d, .int .i64 n.c, .int .i64 n.s, .int .i64 n.e, .int .i64 n.t, .bool n.o, .slice ai n.l.length ci, .slice az n.z.length cz]] w (Gives (.bool false) w) := by
  have HB0 : Hid (Below w.heap.size w ((w.alloc (.cells #[.bool b.nm, .int .i64 b.tx, .int .i64 b.fd, .int .i64 b.d, .int .i64 b.c, .int .i64 b.s, .int .i64 b.e, .int .i64 b.t, .bool true, .int .i64 b.fi, .int .i64 b.i, .int .i64 b.fz, .int .i64 b.z] 74)).alloc (.cells #[.int .i64 n.k, .string n.n, .string n.x, .string n.d, .int .i64 n.c, .int .i64 n.s, .int .i64 n.e, .int .i64 n.t, .bool n.o, .slice ai n.l.length ci, .slice az n.z.length cz] 46))) := ((Below.refl _ w).alloc (Nat.le_refl _) _).alloc (by simp) _
  have HBo : Hid (((w.alloc (.cells #[.bool b.nm, .int .i64 b.tx, .int .i64 b.fd, .int .i64 b.d, .int .i64 b.c, .int .i64 b.s, .int .i64 b.e, .int .i64 b.t, .bool true, .int .i64 b.fi, .int .i64 b.i, .int .i64 b.fz, .int .i64 b.z] 74)).alloc (.cells #[.int .i64 n.k, .string n.n, .string n.x, .string n.d, .int .i64 n.c, .int .i64 n.s, .int .i64 n.e, .int .i64 n.t, .bool n.o, .slice ai n.l.length ci, .slice az n.z.length cz] 46)).heap[w.heap.size]? = some (.cells #[.bool b.nm, .int .i64 b.tx, .int .i64 b.fd, .int .i64 b.d, .int .i64 b.c, .int .i64 b.s, .int .i64 b.e, .int .i64 b.t, .bool true, .int .i64 b.fi, .int .i64 b.i, .int .i64 b.fz, .int .i64 b.z] 74 (0, 0))) := (Below.heap_alloc (w.alloc (.cells #[.bool b.nm, .int .i64 b.tx, .int .i64 b.fd, .int .i64 b.d, .int .i64 b.c, .int .i64 b.s, .int .i64 b.e, .int .i64 b.t, .bool true, .int .i64 b.fi, .int .i64 b.i, .int .i64 b.fz, .int .i64 b.z] 74)) _ _ (by simp)).trans (box_new w _ _)
  have HNo : Hid (((w.alloc (.cells #[.bool b.nm, .int .i64 b.tx, .int .i64 b.fd, .int .i64 b.d, .int .i64 b.c, .int .i64 b.s, .int .i64 b.e, .int .i64 b.t, .bool true, .int .i64 b.fi, .int .i64 b.i, .int .i64 b.fz, .int .i64 b.z] 74)).alloc (.cells #[.int .i64 n.k, .string n.n, .string n.x, .string n.d, .int .i64 n.c, .int .i64 n.s, .int .i64 n.e, .int .i64 n.t, .bool n.o, .slice ai n.l.length ci, .slice az n.z.length cz] 46)).heap[w.heap.size + 1]? = some (.cells #[.int .i64 n.k, .string n.n, .string n.x, .string n.d, .int .i64 n.c, .int .i64 n.s, .int .i64 n.e, .int .i64 n.t, .bool n.o, .slice ai n.l.length ci, .slice az n.z.length cz] 46 (0, 0))) := by
    have := box_new (w.alloc (.cells #[.bool b.nm, .int .i64 b.tx, .int .i64 b.fd, .int .i64 b.d, .int .i64 b.c, .int .i64 b.s, .int .i64 b.e, .int .i64 b.t, .bool true, .int .i64 b.fi, .int .i64 b.i, .int .i64 b.fz, .int .i64 b.z] 74)) #[.int .i64 n.k, .string n.n, .string n.x, .string n.d, .int .i64 n.c, .int .i64 n.s, .int .i64 n.e, .int .i64 n.t, .bool n.o, .slice ai n.l.length ci, .slice az n.z.length cz] 46
    show _ = _
    simpa using this
  have X1 : Hid (Xc ((w.alloc (.cells #[.bool b.nm, .int .i64 b.tx, .int .i64 b.fd, .int .i64 b.d, .int .i64 b.c, .int .i64 b.s, .int .i64 b.e, .int .i64 b.t, .bool true, .int .i64 b.fi, .int .i64 b.i, .int .i64 b.fz, .int .i64 b.z] 74)).alloc (.cells #[.int .i64 n.k, .string n.n, .string n.x, .string n.d, .int .i64 n.c, .int .i64 n.s, .int .i64 n.e, .int .i64 n.t, .bool n.o, .slice ai n.l.length ci, .slice az n.z.length cz] 46)) 56 #[.string n.n, .bool b.nm] (.bool true)) := fun y => by have := isName_any n.n b.nm y.to (Nat.le_trans h.hn (by decide)); rw [h1] at this; exact this
  have X2 : Hid (Xc ((w.alloc (.cells #[.bool b.nm, .int .i64 b.tx, .int .i64 b.fd, .int .i64 b.d, .int .i64 b.c, .int .i64 b.s, .int .i64 b.e, .int .i64 b.t, .bool true, .int .i64 b.fi, .int .i64 b.i, .int .i64 b.fz, .int .i64 b.z] 74)).alloc (.cells #[.int .i64 n.k, .string n.n, .string n.x, .string n.d, .int .i64 n.c, .int .i64 n.s, .int .i64 n.e, .int .i64 n.t, .bool n.o, .slice ai n.l.length ci, .slice az n.z.length cz] 46)) 57 #[.string n.x, .int .i64 b.tx] (.bool true)) := fun y => by have := isText_any n.x b.tx y.to (Nat.le_trans h.hx (by decide)); rw [h2] at this; exact this
  have X3 : Hid (Xc ((w.alloc (.cells #[.bool b.nm, .int .i64 b.tx, .int .i64 b.fd, .int .i64 b.d, .int .i64 b.c, .int .i64 b.s, .int .i64 b.e, .int .i64 b.t, .bool true, .int .i64 b.fi, .int .i64 b.i, .int .i64 b.fz, .int .i64 b.z] 74)).alloc (.cells #[.int .i64 n.k, .string n.n, .string n.x, .string n.d, .int .i64 n.c, .int .i64 n.s, .int .i64 n.e, .int .i64 n.t, .bool n.o, .slice ai n.l.length ci, .slice az n.z.length cz] 46)) 58 #[.int .i64 n.d.size, .int .i64 b.fd, .int .i64 b.d] (.bool true)) := xc_pure fun W => by have := isIn_any n.d.size b.fd b.d W; rw [h3] at this; exact this
  have X4 : Hid (Xc ((w.alloc (.cells #[.bool b.nm, .int .i64 b.tx, .int .i64 b.fd, .int .i64 b.d, .int .i64 b.c, .int .i64 b.s, .int .i64 b.e, .int .i64 b.t, .bool true, .int .i64 b.fi, .int .i64 b.i, .int .i64 b.fz, .int .i64 b.z] 74)).alloc (.cells #[.int .i64 n.k, .string n.n, .string n.x, .string n.d, .int .i64 n.c, .int .i64 n.s, .int .i64 n.e, .int .i64 n.t, .bool n.o, .slice ai n.l.length ci, .slice az n.z.length cz] 46)) 58 #[.int .i64 n.c, .int .i64 0, .int .i64 b.c] (.bool true)) := xc_pure fun W => by have := isIn_any n.c 0 b.c W; rw [h4] at this; exact this
  have X5 : Hid (Xc ((w.alloc (.cells #[.bool b.nm, .int .i64 b.tx, .int .i64 b.fd, .int .i64 b.d, .int .i64 b.c, .int .i64 b.s, .int .i64 b.e, .int .i64 b.t, .bool true, .int .i64 b.fi, .int .i64 b.i, .int .i64 b.fz, .int .i64 b.z] 74)).alloc (.cells #[.int .i64 n.k, .string n.n, .string n.x, .string n.d, .int .i64 n.c, .int .i64 n.s, .int .i64 n.e, .int .i64 n.t, .bool n.o, .slice ai n.l.length ci, .slice az n.z.length cz] 46)) 58 #[.int .i64 n.s, .int .i64 0, .int .i64 b.s] (.bool true)) := xc_pure fun W => by have := isIn_any n.s 0 b.s W; rw [h5] at this; exact this
  have X6 : Hid (Xc ((w.alloc (.cells #[.bool b.nm, .int .i64 b.tx, .int .i64 b.fd, .int .i64 b.d, .int .i64 b.c, .int .i64 b.s, .int .i64 b.e, .int .i64 b.t, .bool true, .int .i64 b.fi, .int .i64 b.i, .int .i64 b.fz, .int .i64 b.z] 74)).alloc (.cells #[.int .i64 n.k, .string n.n, .string n.x, .string n.d, .int .i64 n.c, .int .i64 n.s, .int .i64 n.e, .int .i64 n.t, .bool n.o, .slice ai n.l.length ci, .slice az n.z.length cz] 46)) 59 #[.int .i64 n.e, .int .i64 0, .int .i64 b.e] (.bool true)) := xc_pure fun W => by have := isIn64_any n.e 0 b.e W; rw [h6] at this; exact this
  have X7 : Hid (Xc ((w.alloc (.cells #[.bool b.nm, .int .i64 b.tx, .int .i64 b.fd, .int .i64 b.d, .int .i64 b.c, .int .i64 b.s, .int .i64 b.e, .int .i64 b.t, .bool true, .int .i64 b.fi, .int .i64 b.i, .int .i64 b.fz, .int .i64 b.z] 74)).alloc (.cells #[.int .i64 n.k, .string n.n, .string n.x, .string n.d, .int .i64 n.c, .int .i64 n.s, .int .i64 n.e, .int .i64 n.t, .bool n.o, .slice ai n.l.length ci, .slice az n.z.length cz] 46)) 59 #[.int .i64 n.t, .int .i64 0, .int .i64 b.t] (.bool true)) := xc_pure fun W => by have := isIn64_any n.t 0 b.t W; rw [h7] at this; exact this
  have X9 : Hid (Xc ((w.alloc (.cells #[.bool b.nm, .int .i64 b.tx, .int .i64 b.fd, .int .i64 b.d, .int .i64 b.c, .int .i64 b.s, .int .i64 b.e, .int .i64 b.t, .bool true, .int .i64 b.fi, .int .i64 b.i, .int .i64 b.fz, .int .i64 b.z] 74)).alloc (.cells #[.int .i64 n.k, .string n.n, .string n.x, .string n.d, .int .i64 n.c, .int .i64 n.s, .int .i64 n.e, .int .i64 n.t, .bool n.o, .slice ai n.l.length ci, .slice az n.z.length cz] 46)) 58 #[.int .i64 n.l.length, .int .i64 b.fi, .int .i64 b.i] (.bool true)) := xc_pure fun W => by have := isIn_any n.l.length b.fi b.i W; rw [h9] at this; exact this
  have X10 : Hid (Xc ((w.alloc (.cells #[.bool b.nm, .int .i64 b.tx, .int .i64 b.fd, .int .i64 b.d, .int .i64 b.c, .int .i64 b.s, .int .i64 b.e, .int .i64 b.t, .bool true, .int .i64 b.fi, .int .i64 b.i, .int .i64 b.fz, .int .i64 b.z] 74)).alloc (.cells #[.int .i64 n.k, .string n.n, .string n.x, .string n.d, .int .i64 n.c, .int .i64 n.s, .int .i64 n.e, .int .i64 n.t, .bool n.o, .slice ai n.l.length ci, .slice az n.z.length cz] 46)) 60 #[.slice ai n.l.length ci] (.bool true)) := fun y => by have := areItems_any n.l ai ci y.to (h.hI.below (HB0.out.trans (y.below.mono HB0.out.size))) h.hin (fun z hz => ⟨Nat.le_trans (h.hiz z hz).1 (by decide), Nat.le_trans (h.hiz z hz).2 (by decide)⟩); rw [h10] at this; exact this
  have X11 : Hid (Xc ((w.alloc (.cells #[.bool b.nm, .int .i64 b.tx, .int .i64 b.fd, .int .i64 b.d, .int .i64 b.c, .int .i64 b.s, .int .i64 b.e, .int .i64 b.t, .bool true, .int .i64 b.fi, .int .i64 b.i, .int .i64 b.fz, .int .i64 b.z] 74)).alloc (.cells #[.int .i64 n.k, .string n.n, .string n.x, .string n.d, .int .i64 n.c, .int .i64 n.s, .int .i64 n.e, .int .i64 n.t, .bool n.o, .slice ai n.l.length ci, .slice az n.z.length cz] 46)) 58 #[.int .i64 n.z.length, .int .i64 b.fz, .int .i64 b.z] (.bool true)) := xc_pure fun W => by have := isIn_any n.z.length b.fz b.z W; rw [h11] at this; exact this
  have X12 : Hid (Xc ((w.alloc (.cells #[.bool b.nm, .int .i64 b.tx, .int .i64 b.fd, .int .i64 b.d, .int .i64 b.c, .int .i64 b.s, .int .i64 b.e, .int .i64 b.t, .bool true, .int .i64 b.fi, .int .i64 b.i, .int .i64 b.fz, .int .i64 b.z] 74)).alloc (.cells #[.int .i64 n.k, .string n.n, .string n.x, .string n.d, .int .i64 n.c, .int .i64 n.s, .int .i64 n.e, .int .i64 n.t, .bool n.o, .slice ai n.l.length ci, .slice az n.z.length cz] 46)) 61 #[.slice az n.z.length cz] (.bool false)) := xc_pureY fun y => by have := areShort_any n.z az cz y.to (h.hZ.below (HB0.out.trans (y.below.mono HB0.out.size))) h.hzn; rw [h12] at this; exact this
  clear h h1 h2 h3 h4 h5 h6 h7 h9 h10 h11 h12
  obtain ⟨b0, b1, b2, b3, b4, b5, b6, b7, b8, b9, b10, b11, b12⟩ := bx13 HBo.out
  obtain ⟨m0, m1, m2, m3, m4, m5, m6, m7, m8, m9, m10⟩ := bx11 HNo.out
  go_enter Tryz.func38, Tryz.ntmps38
  go_upto_region 1 with fail
  generalize ((w.alloc (.cells #[.bool b.nm, .int .i64 b.tx, .int .i64 b.fd, .int .i64 b.d, .int .i64 b.c, .int .i64 b.s, .int .i64 b.e, .int .i64 b.t, .bool true, .int .i64 b.fi, .int .i64 b.i, .int .i64 b.fz, .int .i64 b.z] 74)).alloc (.cells #[.int .i64 n.k, .string n.n, .string n.x, .string n.d, .int .i64 n.c, .int .i64 n.s, .int .i64 n.e, .int .i64 n.t, .bool n.o, .slice ai n.l.length ci, .slice az n.z.length cz] 46)) = W at HB0 HBo HNo X1 X2 X3 X4 X5 X6 X7 X9 X10 X11 X12 b0 b1 b2 b3 b4 b5 b6 b7 b8 b9 b10 b11 b12 m0 m1 m2 m3 m4 m5 m6 m7 m8 m9 m10 ⊢
  have xb0 : ∀ y : Ext W, y.to.cell? _ = _ := fun y => ext_cell y b0
  have xb1 : ∀ y : Ext W, y.to.cell? _ = _ := fun y => ext_cell y b1
  have xb2 : ∀ y : Ext W, y.to.cell? _ = _ := fun y => ext_cell y b2
  have xb3 : ∀ y : Ext W, y.to.cell? _ = _ := fun y => ext_cell y b3
  have xb4 : ∀ y : Ext W, y.to.cell? _ = _ := fun y => ext_cell y b4
  have xb5 : ∀ y : Ext W, y.to.cell? _ = _ := fun y => ext_cell y b5
  have xb6 : ∀ y : Ext W, y.to.cell? _ = _ := fun y => ext_cell y b6
  have xb7 : ∀ y : Ext W, y.to.cell? _ = _ := fun y => ext_cell y b7
  have xb8 : ∀ y : Ext W, y.to.cell? _ = _ := fun y => ext_cell y b8
  have xb9 : ∀ y : Ext W, y.to.cell? _ = _ := fun y => ext_cell y b9
  have xb10 : ∀ y : Ext W, y.to.cell? _ = _ := fun y => ext_cell y b10
  have xb11 : ∀ y : Ext W, y.to.cell? _ = _ := fun y => ext_cell y b11
  have xb12 : ∀ y : Ext W, y.to.cell? _ = _ := fun y => ext_cell y b12
  have xm0 : ∀ y : Ext W, y.to.cell? _ = _ := fun y => ext_cell y m0
  have xm1 : ∀ y : Ext W, y.to.cell? _ = _ := fun y => ext_cell y m1
  have xm2 : ∀ y : Ext W, y.to.cell? _ = _ := fun y => ext_cell y m2
  have xm3 : ∀ y : Ext W, y.to.cell? _ = _ := fun y => ext_cell y m3
  have xm4 : ∀ y : Ext W, y.to.cell? _ = _ := fun y => ext_cell y m4
  have xm5 : ∀ y : Ext W, y.to.cell? _ = _ := fun y => ext_cell y m5
  have xm6 : ∀ y : Ext W, y.to.cell? _ = _ := fun y => ext_cell y m6
  have xm7 : ∀ y : Ext W, y.to.cell? _ = _ := fun y => ext_cell y m7
  have xm8 : ∀ y : Ext W, y.to.cell? _ = _ := fun y => ext_cell y m8
  have xm9 : ∀ y : Ext W, y.to.cell? _ = _ := fun y => ext_cell y m9
  have xm10 : ∀ y : Ext W, y.to.cell? _ = _ := fun y => ext_cell y m10
  have hsome := extSome W
  clear HBo HNo b0 b1 b2 b3 b4 b5 b6 b7 b8 b9 b10 b11 b12 m0 m1 m2 m3 m4 m5 m6 m7 m8 m9 m10
  refine plain_quiet ?_
  dsimp only [List.append]
  repeat (go_big_quiet_step ((first | (go_at_call 56; with_reducible exact ext_call _ (X1.out _)) | (go_at_call 57; with_reducible exact ext_call _ (X2.out _)) | (go_at_call 58; with_reducible exact ext_call _ (X3.out _)) | (go_at_call 58; with_reducible exact ext_call _ (X4.out _)) | (go_at_call 58; with_reducible exact ext_call _ (X5.out _)) | (go_at_call 59; with_reducible exact ext_call _ (X6.out _)) | (go_at_call 59; with_reducible exact ext_call _ (X7.out _)) | (go_at_call 58; with_reducible exact ext_call _ (X9.out _)) | (go_at_call 60; with_reducible exact ext_call _ (X10.out _)) | (go_at_call 58; with_reducible exact ext_call _ (X11.out _)) | (go_at_call 61; with_reducible exact ext_call _ (X12.out _)))))
  refine wpQuiet_nil ?_
  rintro _ ⟨y, hy⟩
  subst hy
  have HB1 := Lib.hid (HB0.out.trans (y.below.mono HB0.out.size))
  clear xb0 xb1 xb2 xb3 xb4 xb5 xb6 xb7 xb8 xb9 xb10 xb11 xb12 xm0 xm1 xm2 xm3 xm4 xm5 xm6 xm7 xm8 xm9 xm10
  go_wp2_with fail
  go_ret
  exact ⟨rfl, HB1.out⟩
set_option maxRecDepth 100000 in
set_option maxHeartbeats 8000000 in
theorem hold_12_00 (b : Bn) (n : Nt) (ai az : Option Addr) (ci cz : Nat) (w : World) (h : NtL w ai az n) (h1 : (nmB n.n b.nm) = true) (h2 : (txB n.x b.tx) = true) (h3 : (inB n.d.size b.fd b.d) = true) (h4 : (inB n.c 0 b.c) = true) (h5 : (inB n.s 0 b.s) = true) (h6 : (inB n.e 0 b.e) = true) (h7 : (inB n.t 0 b.t) = true) (h9 : (inB n.l.length b.fi b.i) = true) (h10 : (n.l.all itB) = true) (h11 : (inB n.z.length b.fz b.z) = true) (h12 : (n.z.all (fun c => inB c 0 65535)) = false) : Calls Tryz.prog 38 #[.agg #[.bool b.nm, .int .i64 b.tx, .int .i64 b.fd, .int .i64 b.d, .int .i64 b.c, .int .i64 b.s, .int .i64 b.e, .int .i64 b.t, .bool false, .int .i64 b.fi, .int .i64 b.i, .int .i64 b.fz, .int .i64 b.z], .agg #[.int .i64 n.k, .string n.n, .string n.x, .string n.d, .int .i64 n.c, .int .i64 n.s, .int .i64 n.e, .int .i64 n.t, .bool false, .slice ai n.l.length ci, .slice az n.z.length cz]] w (Gives (.bool false) w) := by
  have HB0 : Hid (Below w.heap.size w ((w.alloc (.cells #[.bool b.nm, .int .i64 b.tx, .int .i64 b.fd, .int .i64 b.d, .int .i64 b.c, .int .i64 b.s, .int .i64 b.e, .int .i64 b.t, .bool false, .int .i64 b.fi, .int .i64 b.i, .int .i64 b.fz, .int .i64 b.z] 74)).alloc (.cells #[.int .i64 n.k, .string n.n, .string n.x, .string n.d, .int .i64 n.c, .int .i64 n.s, .int .i64 n.e, .int .i64 n.t, .bool false, .slice ai n.l.length ci, .slice az n.z.length cz] 46))) := ((Below.refl _ w).alloc (Nat.le_refl _) _).alloc (by simp) _
  have HBo : Hid (((w.alloc (.cells #[.bool b.nm, .int .i64 b.tx, .int .i64 b.fd, .int .i64 b.d, .int .i64 b.c, .int .i64 b.s, .int .i64 b.e, .int .i64 b.t, .bool false, .int .i64 b.fi, .int .i64 b.i, .int .i64 b.fz, .int .i64 b.z] 74)).alloc (.cells #[.int .i64 n.k, .string n.n, .string n.x, .string n.d, .int .i64 n.c, .int .i64 n.s, .int .i64 n.e, .int .i64 n.t, .bool false, .slice ai n.l.length ci, .slice az n.z.length cz] 46)).heap[w.heap.size]? = some (.cells #[.bool b.nm, .int .i64 b.tx, .int .i64 b.fd, .int .i64 b.d, .int .i64 b.c, .int .i64 b.s, .int .i64 b.e, .int .i64 b.t, .bool false, .int .i64 b.fi, .int .i64 b.i, .int .i64 b.fz, .int .i64 b.z] 74 (0, 0))) := (Below.heap_alloc (w.alloc (.cells #[.bool b.nm, .int .i64 b.tx, .int .i64 b.fd, .int .i64 b.d, .int .i64 b.c, .int .i64 b.s, .int .i64 b.e, .int .i64 b.t, .bool false, .int .i64 b.fi, .int .i64 b.i, .int .i64 b.fz, .int .i64 b.z] 74)) _ _ (by simp)).trans (box_new w _ _)
  have HNo : Hid (((w.alloc (.cells #[.bool b.nm, .int .i64 b.tx, .int .i64 b.fd, .int .i64 b.d, .int .i64 b.c, .int .i64 b.s, .int .i64 b.e, .int .i64 b.t, .bool false, .int .i64 b.fi, .int .i64 b.i, .int .i64 b.fz, .int .i64 b.z] 74)).alloc (.cells #[.int .i64 n.k, .string n.n, .string n.x, .string n.d, .int .i64 n.c, .int .i64 n.s, .int .i64 n.e, .int .i64 n.t, .bool false, .slice ai n.l.length ci, .slice az n.z.length cz] 46)).heap[w.heap.size + 1]? = some (.cells #[.int .i64 n.k, .string n.n, .string n.x, .string n.d, .int .i64 n.c, .int .i64 n.s, .int .i64 n.e, .int .i64 n.t, .bool false, .slice ai n.l.length ci, .slice az n.z.length cz] 46 (0, 0))) := by
    have := box_new (w.alloc (.cells #[.bool b.nm, .int .i64 b.tx, .int .i64 b.fd, .int .i64 b.d, .int .i64 b.c, .int .i64 b.s, .int .i64 b.e, .int .i64 b.t, .bool false, .int .i64 b.fi, .int .i64 b.i, .int .i64 b.fz, .int .i64 b.z] 74)) #[.int .i64 n.k, .string n.n, .string n.x, .string n.d, .int .i64 n.c, .int .i64 n.s, .int .i64 n.e, .int .i64 n.t, .bool false, .slice ai n.l.length ci, .slice az n.z.length cz] 46
    show _ = _
    simpa using this
  have X1 : Hid (Xc ((w.alloc (.cells #[.bool b.nm, .int .i64 b.tx, .int .i64 b.fd, .int .i64 b.d, .int .i64 b.c, .int .i64 b.s, .int .i64 b.e, .int .i64 b.t, .bool false, .int .i64 b.fi, .int .i64 b.i, .int .i64 b.fz, .int .i64 b.z] 74)).alloc (.cells #[.int .i64 n.k, .string n.n, .string n.x, .string n.d, .int .i64 n.c, .int .i64 n.s, .int .i64 n.e, .int .i64 n.t, .bool false, .slice ai n.l.length ci, .slice az n.z.length cz] 46)) 56 #[.string n.n, .bool b.nm] (.bool true)) := fun y => by have := isName_any n.n b.nm y.to (Nat.le_trans h.hn (by decide)); rw [h1] at this; exact this
  have X2 : Hid (Xc ((w.alloc (.cells #[.bool b.nm, .int .i64 b.tx, .int .i64 b.fd, .int .i64 b.d, .int .i64 b.c, .int .i64 b.s, .int .i64 b.e, .int .i64 b.t, .bool false, .int .i64 b.fi, .int .i64 b.i, .int .i64 b.fz, .int .i64 b.z] 74)).alloc (.cells #[.int .i64 n.k, .string n.n, .string n.x, .string n.d, .int .i64 n.c, .int .i64 n.s, .int .i64 n.e, .int .i64 n.t, .bool false, .slice ai n.l.length ci, .slice az n.z.length cz] 46)) 57 #[.string n.x, .int .i64 b.tx] (.bool true)) := fun y => by have := isText_any n.x b.tx y.to (Nat.le_trans h.hx (by decide)); rw [h2] at this; exact this
  have X3 : Hid (Xc ((w.alloc (.cells #[.bool b.nm, .int .i64 b.tx, .int .i64 b.fd, .int .i64 b.d, .int .i64 b.c, .int .i64 b.s, .int .i64 b.e, .int .i64 b.t, .bool false, .int .i64 b.fi, .int .i64 b.i, .int .i64 b.fz, .int .i64 b.z] 74)).alloc (.cells #[.int .i64 n.k, .string n.n, .string n.x, .string n.d, .int .i64 n.c, .int .i64 n.s, .int .i64 n.e, .int .i64 n.t, .bool false, .slice ai n.l.length ci, .slice az n.z.length cz] 46)) 58 #[.int .i64 n.d.size, .int .i64 b.fd, .int .i64 b.d] (.bool true)) := xc_pure fun W => by have := isIn_any n.d.size b.fd b.d W; rw [h3] at this; exact this
  have X4 : Hid (Xc ((w.alloc (.cells #[.bool b.nm, .int .i64 b.tx, .int .i64 b.fd, .int .i64 b.d, .int .i64 b.c, .int .i64 b.s, .int .i64 b.e, .int .i64 b.t, .bool false, .int .i64 b.fi, .int .i64 b.i, .int .i64 b.fz, .int .i64 b.z] 74)).alloc (.cells #[.int .i64 n.k, .string n.n, .string n.x, .string n.d, .int .i64 n.c, .int .i64 n.s, .int .i64 n.e, .int .i64 n.t, .bool false, .slice ai n.l.length ci, .slice az n.z.length cz] 46)) 58 #[.int .i64 n.c, .int .i64 0, .int .i64 b.c] (.bool true)) := xc_pure fun W => by have := isIn_any n.c 0 b.c W; rw [h4] at this; exact this
  have X5 : Hid (Xc ((w.alloc (.cells #[.bool b.nm, .int .i64 b.tx, .int .i64 b.fd, .int .i64 b.d, .int .i64 b.c, .int .i64 b.s, .int .i64 b.e, .int .i64 b.t, .bool false, .int .i64 b.fi, .int .i64 b.i, .int .i64 b.fz, .int .i64 b.z] 74)).alloc (.cells #[.int .i64 n.k, .string n.n, .string n.x, .string n.d, .int .i64 n.c, .int .i64 n.s, .int .i64 n.e, .int .i64 n.t, .bool false, .slice ai n.l.length ci, .slice az n.z.length cz] 46)) 58 #[.int .i64 n.s, .int .i64 0, .int .i64 b.s] (.bool true)) := xc_pure fun W => by have := isIn_any n.s 0 b.s W; rw [h5] at this; exact this
  have X6 : Hid (Xc ((w.alloc (.cells #[.bool b.nm, .int .i64 b.tx, .int .i64 b.fd, .int .i64 b.d, .int .i64 b.c, .int .i64 b.s, .int .i64 b.e, .int .i64 b.t, .bool false, .int .i64 b.fi, .int .i64 b.i, .int .i64 b.fz, .int .i64 b.z] 74)).alloc (.cells #[.int .i64 n.k, .string n.n, .string n.x, .string n.d, .int .i64 n.c, .int .i64 n.s, .int .i64 n.e, .int .i64 n.t, .bool false, .slice ai n.l.length ci, .slice az n.z.length cz] 46)) 59 #[.int .i64 n.e, .int .i64 0, .int .i64 b.e] (.bool true)) := xc_pure fun W => by have := isIn64_any n.e 0 b.e W; rw [h6] at this; exact this
  have X7 : Hid (Xc ((w.alloc (.cells #[.bool b.nm, .int .i64 b.tx, .int .i64 b.fd, .int .i64 b.d, .int .i64 b.c, .int .i64 b.s, .int .i64 b.e, .int .i64 b.t, .bool false, .int .i64 b.fi, .int .i64 b.i, .int .i64 b.fz, .int .i64 b.z] 74)).alloc (.cells #[.int .i64 n.k, .string n.n, .string n.x, .string n.d, .int .i64 n.c, .int .i64 n.s, .int .i64 n.e, .int .i64 n.t, .bool false, .slice ai n.l.length ci, .slice az n.z.length cz] 46)) 59 #[.int .i64 n.t, .int .i64 0, .int .i64 b.t] (.bool true)) := xc_pure fun W => by have := isIn64_any n.t 0 b.t W; rw [h7] at this; exact this
  have X9 : Hid (Xc ((w.alloc (.cells #[.bool b.nm, .int .i64 b.tx, .int .i64 b.fd, .int .i64 b.d, .int .i64 b.c, .int .i64 b.s, .int .i64 b.e, .int .i64 b.t, .bool false, .int .i64 b.fi, .int .i64 b.i, .int .i64 b.fz, .int .i64 b.z] 74)).alloc (.cells #[.int .i64 n.k, .string n.n, .string n.x, .string n.d, .int .i64 n.c, .int .i64 n.s, .int .i64 n.e, .int .i64 n.t, .bool false, .slice ai n.l.length ci, .slice az n.z.length cz] 46)) 58 #[.int .i64 n.l.length, .int .i64 b.fi, .int .i64 b.i] (.bool true)) := xc_pure fun W => by have := isIn_any n.l.length b.fi b.i W; rw [h9] at this; exact this
  have X10 : Hid (Xc ((w.alloc (.cells #[.bool b.nm, .int .i64 b.tx, .int .i64 b.fd, .int .i64 b.d, .int .i64 b.c, .int .i64 b.s, .int .i64 b.e, .int .i64 b.t, .bool false, .int .i64 b.fi, .int .i64 b.i, .int .i64 b.fz, .int .i64 b.z] 74)).alloc (.cells #[.int .i64 n.k, .string n.n, .string n.x, .string n.d, .int .i64 n.c, .int .i64 n.s, .int .i64 n.e, .int .i64 n.t, .bool false, .slice ai n.l.length ci, .slice az n.z.length cz] 46)) 60 #[.slice ai n.l.length ci] (.bool true)) := fun y => by have := areItems_any n.l ai ci y.to (h.hI.below (HB0.out.trans (y.below.mono HB0.out.size))) h.hin (fun z hz => ⟨Nat.le_trans (h.hiz z hz).1 (by decide), Nat.le_trans (h.hiz z hz).2 (by decide)⟩); rw [h10] at this; exact this
  have X11 : Hid (Xc ((w.alloc (.cells #[.bool b.nm, .int .i64 b.tx, .int .i64 b.fd, .int .i64 b.d, .int .i64 b.c, .int .i64 b.s, .int .i64 b.e, .int .i64 b.t, .bool false, .int .i64 b.fi, .int .i64 b.i, .int .i64 b.fz, .int .i64 b.z] 74)).alloc (.cells #[.int .i64 n.k, .string n.n, .string n.x, .string n.d, .int .i64 n.c, .int .i64 n.s, .int .i64 n.e, .int .i64 n.t, .bool false, .slice ai n.l.length ci, .slice az n.z.length cz] 46)) 58 #[.int .i64 n.z.length, .int .i64 b.fz, .int .i64 b.z] (.bool true)) := xc_pure fun W => by have := isIn_any n.z.length b.fz b.z W; rw [h11] at this; exact this
  have X12 : Hid (Xc ((w.alloc (.cells #[.bool b.nm, .int .i64 b.tx, .int .i64 b.fd, .int .i64 b.d, .int .i64 b.c, .int .i64 b.s, .int .i64 b.e, .int .i64 b.t, .bool false, .int .i64 b.fi, .int .i64 b.i, .int .i64 b.fz, .int .i64 b.z] 74)).alloc (.cells #[.int .i64 n.k, .string n.n, .string n.x, .string n.d, .int .i64 n.c, .int .i64 n.s, .int .i64 n.e, .int .i64 n.t, .bool false, .slice ai n.l.length ci, .slice az n.z.length cz] 46)) 61 #[.slice az n.z.length cz] (.bool false)) := xc_pureY fun y => by have := areShort_any n.z az cz y.to (h.hZ.below (HB0.out.trans (y.below.mono HB0.out.size))) h.hzn; rw [h12] at this; exact this
  clear h h1 h2 h3 h4 h5 h6 h7 h9 h10 h11 h12
  obtain ⟨b0, b1, b2, b3, b4, b5, b6, b7, b8, b9, b10, b11, b12⟩ := bx13 HBo.out
  obtain ⟨m0, m1, m2, m3, m4, m5, m6, m7, m8, m9, m10⟩ := bx11 HNo.out
  go_enter Tryz.func38, Tryz.ntmps38
  go_upto_region 1 with fail
  generalize ((w.alloc (.cells #[.bool b.nm, .int .i64 b.tx, .int .i64 b.fd, .int .i64 b.d, .int .i64 b.c, .int .i64 b.s, .int .i64 b.e, .int .i64 b.t, .bool false, .int .i64 b.fi, .int .i64 b.i, .int .i64 b.fz, .int .i64 b.z] 74)).alloc (.cells #[.int .i64 n.k, .string n.n, .string n.x, .string n.d, .int .i64 n.c, .int .i64 n.s, .int .i64 n.e, .int .i64 n.t, .bool false, .slice ai n.l.length ci, .slice az n.z.length cz] 46)) = W at HB0 HBo HNo X1 X2 X3 X4 X5 X6 X7 X9 X10 X11 X12 b0 b1 b2 b3 b4 b5 b6 b7 b8 b9 b10 b11 b12 m0 m1 m2 m3 m4 m5 m6 m7 m8 m9 m10 ⊢
  have xb0 : ∀ y : Ext W, y.to.cell? _ = _ := fun y => ext_cell y b0
  have xb1 : ∀ y : Ext W, y.to.cell? _ = _ := fun y => ext_cell y b1
  have xb2 : ∀ y : Ext W, y.to.cell? _ = _ := fun y => ext_cell y b2
  have xb3 : ∀ y : Ext W, y.to.cell? _ = _ := fun y => ext_cell y b3
  have xb4 : ∀ y : Ext W, y.to.cell? _ = _ := fun y => ext_cell y b4
  have xb5 : ∀ y : Ext W, y.to.cell? _ = _ := fun y => ext_cell y b5
  have xb6 : ∀ y : Ext W, y.to.cell? _ = _ := fun y => ext_cell y b6
  have xb7 : ∀ y : Ext W, y.to.cell? _ = _ := fun y => ext_cell y b7
  have xb8 : ∀ y : Ext W, y.to.cell? _ = _ := fun y => ext_cell y b8
  have xb9 : ∀ y : Ext W, y.to.cell? _ = _ := fun y => ext_cell y b9
  have xb10 : ∀ y : Ext W, y.to.cell? _ = _ := fun y => ext_cell y b10
  have xb11 : ∀ y : Ext W, y.to.cell? _ = _ := fun y => ext_cell y b11
  have xb12 : ∀ y : Ext W, y.to.cell? _ = _ := fun y => ext_cell y b12
  have xm0 : ∀ y : Ext W, y.to.cell? _ = _ := fun y => ext_cell y m0
  have xm1 : ∀ y : Ext W, y.to.cell? _ = _ := fun y => ext_cell y m1
  have xm2 : ∀ y : Ext W, y.to.cell? _ = _ := fun y => ext_cell y m2
  have xm3 : ∀ y : Ext W, y.to.cell? _ = _ := fun y => ext_cell y m3
  have xm4 : ∀ y : Ext W, y.to.cell? _ = _ := fun y => ext_cell y m4
  have xm5 : ∀ y : Ext W, y.to.cell? _ = _ := fun y => ext_cell y m5
  have xm6 : ∀ y : Ext W, y.to.cell? _ = _ := fun y => ext_cell y m6
  have xm7 : ∀ y : Ext W, y.to.cell? _ = _ := fun y => ext_cell y m7
  have xm8 : ∀ y : Ext W, y.to.cell? _ = _ := fun y => ext_cell y m8
  have xm9 : ∀ y : Ext W, y.to.cell? _ = _ := fun y => ext_cell y m9
  have xm10 : ∀ y : Ext W, y.to.cell? _ = _ := fun y => ext_cell y m10
  have hsome := extSome W
  clear HBo HNo b0 b1 b2 b3 b4 b5 b6 b7 b8 b9 b10 b11 b12 m0 m1 m2 m3 m4 m5 m6 m7 m8 m9 m10
  refine plain_quiet ?_
  dsimp only [List.append]
  repeat (go_big_quiet_step ((first | (go_at_call 56; with_reducible exact ext_call _ (X1.out _)) | (go_at_call 57; with_reducible exact ext_call _ (X2.out _)) | (go_at_call 58; with_reducible exact ext_call _ (X3.out _)) | (go_at_call 58; with_reducible exact ext_call _ (X4.out _)) | (go_at_call 58; with_reducible exact ext_call _ (X5.out _)) | (go_at_call 59; with_reducible exact ext_call _ (X6.out _)) | (go_at_call 59; with_reducible exact ext_call _ (X7.out _)) | (go_at_call 58; with_reducible exact ext_call _ (X9.out _)) | (go_at_call 60; with_reducible exact ext_call _ (X10.out _)) | (go_at_call 58; with_reducible exact ext_call _ (X11.out _)) | (go_at_call 61; with_reducible exact ext_call _ (X12.out _)))))
  refine wpQuiet_nil ?_
  rintro _ ⟨y, hy⟩
  subst hy
  have HB1 := Lib.hid (HB0.out.trans (y.below.mono HB0.out.size))
  clear xb0 xb1 xb2 xb3 xb4 xb5 xb6 xb7 xb8 xb9 xb10 xb11 xb12 xm0 xm1 xm2 xm3 xm4 xm5 xm6 xm7 xm8 xm9 xm10
  go_wp2_with fail
  go_ret
  exact ⟨rfl, HB1.out⟩
set_option maxRecDepth 100000 in
set_option maxHeartbeats 8000000 in
theorem hold_13_10 (b : Bn) (n : Nt) (ai az : Option Addr) (ci cz : Nat) (w : World) (h : NtL w ai az n) (h1 : (nmB n.n b.nm) = true) (h2 : (txB n.x b.tx) = true) (h3 : (inB n.d.size b.fd b.d) = true) (h4 : (inB n.c 0 b.c) = true) (h5 : (inB n.s 0 b.s) = true) (h6 : (inB n.e 0 b.e) = true) (h7 : (inB n.t 0 b.t) = true) (h9 : (inB n.l.length b.fi b.i) = true) (h10 : (n.l.all itB) = true) (h11 : (inB n.z.length b.fz b.z) = true) (h12 : (n.z.all (fun c => inB c 0 65535)) = true) : Calls Tryz.prog 38 #[.agg #[.bool b.nm, .int .i64 b.tx, .int .i64 b.fd, .int .i64 b.d, .int .i64 b.c, .int .i64 b.s, .int .i64 b.e, .int .i64 b.t, .bool true, .int .i64 b.fi, .int .i64 b.i, .int .i64 b.fz, .int .i64 b.z], .agg #[.int .i64 n.k, .string n.n, .string n.x, .string n.d, .int .i64 n.c, .int .i64 n.s, .int .i64 n.e, .int .i64 n.t, .bool n.o, .slice ai n.l.length ci, .slice az n.z.length cz]] w (Gives (.bool true) w) := by
  have HB0 : Hid (Below w.heap.size w ((w.alloc (.cells #[.bool b.nm, .int .i64 b.tx, .int .i64 b.fd, .int .i64 b.d, .int .i64 b.c, .int .i64 b.s, .int .i64 b.e, .int .i64 b.t, .bool true, .int .i64 b.fi, .int .i64 b.i, .int .i64 b.fz, .int .i64 b.z] 74)).alloc (.cells #[.int .i64 n.k, .string n.n, .string n.x, .string n.d, .int .i64 n.c, .int .i64 n.s, .int .i64 n.e, .int .i64 n.t, .bool n.o, .slice ai n.l.length ci, .slice az n.z.length cz] 46))) := ((Below.refl _ w).alloc (Nat.le_refl _) _).alloc (by simp) _
  have HBo : Hid (((w.alloc (.cells #[.bool b.nm, .int .i64 b.tx, .int .i64 b.fd, .int .i64 b.d, .int .i64 b.c, .int .i64 b.s, .int .i64 b.e, .int .i64 b.t, .bool true, .int .i64 b.fi, .int .i64 b.i, .int .i64 b.fz, .int .i64 b.z] 74)).alloc (.cells #[.int .i64 n.k, .string n.n, .string n.x, .string n.d, .int .i64 n.c, .int .i64 n.s, .int .i64 n.e, .int .i64 n.t, .bool n.o, .slice ai n.l.length ci, .slice az n.z.length cz] 46)).heap[w.heap.size]? = some (.cells #[.bool b.nm, .int .i64 b.tx, .int .i64 b.fd, .int .i64 b.d, .int .i64 b.c, .int .i64 b.s, .int .i64 b.e, .int .i64 b.t, .bool true, .int .i64 b.fi, .int .i64 b.i, .int .i64 b.fz, .int .i64 b.z] 74 (0, 0))) := (Below.heap_alloc (w.alloc (.cells #[.bool b.nm, .int .i64 b.tx, .int .i64 b.fd, .int .i64 b.d, .int .i64 b.c, .int .i64 b.s, .int .i64 b.e, .int .i64 b.t, .bool true, .int .i64 b.fi, .int .i64 b.i, .int .i64 b.fz, .int .i64 b.z] 74)) _ _ (by simp)).trans (box_new w _ _)
  have HNo : Hid (((w.alloc (.cells #[.bool b.nm, .int .i64 b.tx, .int .i64 b.fd, .int .i64 b.d, .int .i64 b.c, .int .i64 b.s, .int .i64 b.e, .int .i64 b.t, .bool true, .int .i64 b.fi, .int .i64 b.i, .int .i64 b.fz, .int .i64 b.z] 74)).alloc (.cells #[.int .i64 n.k, .string n.n, .string n.x, .string n.d, .int .i64 n.c, .int .i64 n.s, .int .i64 n.e, .int .i64 n.t, .bool n.o, .slice ai n.l.length ci, .slice az n.z.length cz] 46)).heap[w.heap.size + 1]? = some (.cells #[.int .i64 n.k, .string n.n, .string n.x, .string n.d, .int .i64 n.c, .int .i64 n.s, .int .i64 n.e, .int .i64 n.t, .bool n.o, .slice ai n.l.length ci, .slice az n.z.length cz] 46 (0, 0))) := by
    have := box_new (w.alloc (.cells #[.bool b.nm, .int .i64 b.tx, .int .i64 b.fd, .int .i64 b.d, .int .i64 b.c, .int .i64 b.s, .int .i64 b.e, .int .i64 b.t, .bool true, .int .i64 b.fi, .int .i64 b.i, .int .i64 b.fz, .int .i64 b.z] 74)) #[.int .i64 n.k, .string n.n, .string n.x, .string n.d, .int .i64 n.c, .int .i64 n.s, .int .i64 n.e, .int .i64 n.t, .bool n.o, .slice ai n.l.length ci, .slice az n.z.length cz] 46
    show _ = _
    simpa using this
  have X1 : Hid (Xc ((w.alloc (.cells #[.bool b.nm, .int .i64 b.tx, .int .i64 b.fd, .int .i64 b.d, .int .i64 b.c, .int .i64 b.s, .int .i64 b.e, .int .i64 b.t, .bool true, .int .i64 b.fi, .int .i64 b.i, .int .i64 b.fz, .int .i64 b.z] 74)).alloc (.cells #[.int .i64 n.k, .string n.n, .string n.x, .string n.d, .int .i64 n.c, .int .i64 n.s, .int .i64 n.e, .int .i64 n.t, .bool n.o, .slice ai n.l.length ci, .slice az n.z.length cz] 46)) 56 #[.string n.n, .bool b.nm] (.bool true)) := fun y => by have := isName_any n.n b.nm y.to (Nat.le_trans h.hn (by decide)); rw [h1] at this; exact this
  have X2 : Hid (Xc ((w.alloc (.cells #[.bool b.nm, .int .i64 b.tx, .int .i64 b.fd, .int .i64 b.d, .int .i64 b.c, .int .i64 b.s, .int .i64 b.e, .int .i64 b.t, .bool true, .int .i64 b.fi, .int .i64 b.i, .int .i64 b.fz, .int .i64 b.z] 74)).alloc (.cells #[.int .i64 n.k, .string n.n, .string n.x, .string n.d, .int .i64 n.c, .int .i64 n.s, .int .i64 n.e, .int .i64 n.t, .bool n.o, .slice ai n.l.length ci, .slice az n.z.length cz] 46)) 57 #[.string n.x, .int .i64 b.tx] (.bool true)) := fun y => by have := isText_any n.x b.tx y.to (Nat.le_trans h.hx (by decide)); rw [h2] at this; exact this
  have X3 : Hid (Xc ((w.alloc (.cells #[.bool b.nm, .int .i64 b.tx, .int .i64 b.fd, .int .i64 b.d, .int .i64 b.c, .int .i64 b.s, .int .i64 b.e, .int .i64 b.t, .bool true, .int .i64 b.fi, .int .i64 b.i, .int .i64 b.fz, .int .i64 b.z] 74)).alloc (.cells #[.int .i64 n.k, .string n.n, .string n.x, .string n.d, .int .i64 n.c, .int .i64 n.s, .int .i64 n.e, .int .i64 n.t, .bool n.o, .slice ai n.l.length ci, .slice az n.z.length cz] 46)) 58 #[.int .i64 n.d.size, .int .i64 b.fd, .int .i64 b.d] (.bool true)) := xc_pure fun W => by have := isIn_any n.d.size b.fd b.d W; rw [h3] at this; exact this
  have X4 : Hid (Xc ((w.alloc (.cells #[.bool b.nm, .int .i64 b.tx, .int .i64 b.fd, .int .i64 b.d, .int .i64 b.c, .int .i64 b.s, .int .i64 b.e, .int .i64 b.t, .bool true, .int .i64 b.fi, .int .i64 b.i, .int .i64 b.fz, .int .i64 b.z] 74)).alloc (.cells #[.int .i64 n.k, .string n.n, .string n.x, .string n.d, .int .i64 n.c, .int .i64 n.s, .int .i64 n.e, .int .i64 n.t, .bool n.o, .slice ai n.l.length ci, .slice az n.z.length cz] 46)) 58 #[.int .i64 n.c, .int .i64 0, .int .i64 b.c] (.bool true)) := xc_pure fun W => by have := isIn_any n.c 0 b.c W; rw [h4] at this; exact this
  have X5 : Hid (Xc ((w.alloc (.cells #[.bool b.nm, .int .i64 b.tx, .int .i64 b.fd, .int .i64 b.d, .int .i64 b.c, .int .i64 b.s, .int .i64 b.e, .int .i64 b.t, .bool true, .int .i64 b.fi, .int .i64 b.i, .int .i64 b.fz, .int .i64 b.z] 74)).alloc (.cells #[.int .i64 n.k, .string n.n, .string n.x, .string n.d, .int .i64 n.c, .int .i64 n.s, .int .i64 n.e, .int .i64 n.t, .bool n.o, .slice ai n.l.length ci, .slice az n.z.length cz] 46)) 58 #[.int .i64 n.s, .int .i64 0, .int .i64 b.s] (.bool true)) := xc_pure fun W => by have := isIn_any n.s 0 b.s W; rw [h5] at this; exact this
  have X6 : Hid (Xc ((w.alloc (.cells #[.bool b.nm, .int .i64 b.tx, .int .i64 b.fd, .int .i64 b.d, .int .i64 b.c, .int .i64 b.s, .int .i64 b.e, .int .i64 b.t, .bool true, .int .i64 b.fi, .int .i64 b.i, .int .i64 b.fz, .int .i64 b.z] 74)).alloc (.cells #[.int .i64 n.k, .string n.n, .string n.x, .string n.d, .int .i64 n.c, .int .i64 n.s, .int .i64 n.e, .int .i64 n.t, .bool n.o, .slice ai n.l.length ci, .slice az n.z.length cz] 46)) 59 #[.int .i64 n.e, .int .i64 0, .int .i64 b.e] (.bool true)) := xc_pure fun W => by have := isIn64_any n.e 0 b.e W; rw [h6] at this; exact this
  have X7 : Hid (Xc ((w.alloc (.cells #[.bool b.nm, .int .i64 b.tx, .int .i64 b.fd, .int .i64 b.d, .int .i64 b.c, .int .i64 b.s, .int .i64 b.e, .int .i64 b.t, .bool true, .int .i64 b.fi, .int .i64 b.i, .int .i64 b.fz, .int .i64 b.z] 74)).alloc (.cells #[.int .i64 n.k, .string n.n, .string n.x, .string n.d, .int .i64 n.c, .int .i64 n.s, .int .i64 n.e, .int .i64 n.t, .bool n.o, .slice ai n.l.length ci, .slice az n.z.length cz] 46)) 59 #[.int .i64 n.t, .int .i64 0, .int .i64 b.t] (.bool true)) := xc_pure fun W => by have := isIn64_any n.t 0 b.t W; rw [h7] at this; exact this
  have X9 : Hid (Xc ((w.alloc (.cells #[.bool b.nm, .int .i64 b.tx, .int .i64 b.fd, .int .i64 b.d, .int .i64 b.c, .int .i64 b.s, .int .i64 b.e, .int .i64 b.t, .bool true, .int .i64 b.fi, .int .i64 b.i, .int .i64 b.fz, .int .i64 b.z] 74)).alloc (.cells #[.int .i64 n.k, .string n.n, .string n.x, .string n.d, .int .i64 n.c, .int .i64 n.s, .int .i64 n.e, .int .i64 n.t, .bool n.o, .slice ai n.l.length ci, .slice az n.z.length cz] 46)) 58 #[.int .i64 n.l.length, .int .i64 b.fi, .int .i64 b.i] (.bool true)) := xc_pure fun W => by have := isIn_any n.l.length b.fi b.i W; rw [h9] at this; exact this
  have X10 : Hid (Xc ((w.alloc (.cells #[.bool b.nm, .int .i64 b.tx, .int .i64 b.fd, .int .i64 b.d, .int .i64 b.c, .int .i64 b.s, .int .i64 b.e, .int .i64 b.t, .bool true, .int .i64 b.fi, .int .i64 b.i, .int .i64 b.fz, .int .i64 b.z] 74)).alloc (.cells #[.int .i64 n.k, .string n.n, .string n.x, .string n.d, .int .i64 n.c, .int .i64 n.s, .int .i64 n.e, .int .i64 n.t, .bool n.o, .slice ai n.l.length ci, .slice az n.z.length cz] 46)) 60 #[.slice ai n.l.length ci] (.bool true)) := fun y => by have := areItems_any n.l ai ci y.to (h.hI.below (HB0.out.trans (y.below.mono HB0.out.size))) h.hin (fun z hz => ⟨Nat.le_trans (h.hiz z hz).1 (by decide), Nat.le_trans (h.hiz z hz).2 (by decide)⟩); rw [h10] at this; exact this
  have X11 : Hid (Xc ((w.alloc (.cells #[.bool b.nm, .int .i64 b.tx, .int .i64 b.fd, .int .i64 b.d, .int .i64 b.c, .int .i64 b.s, .int .i64 b.e, .int .i64 b.t, .bool true, .int .i64 b.fi, .int .i64 b.i, .int .i64 b.fz, .int .i64 b.z] 74)).alloc (.cells #[.int .i64 n.k, .string n.n, .string n.x, .string n.d, .int .i64 n.c, .int .i64 n.s, .int .i64 n.e, .int .i64 n.t, .bool n.o, .slice ai n.l.length ci, .slice az n.z.length cz] 46)) 58 #[.int .i64 n.z.length, .int .i64 b.fz, .int .i64 b.z] (.bool true)) := xc_pure fun W => by have := isIn_any n.z.length b.fz b.z W; rw [h11] at this; exact this
  have X12 : Hid (Xc ((w.alloc (.cells #[.bool b.nm, .int .i64 b.tx, .int .i64 b.fd, .int .i64 b.d, .int .i64 b.c, .int .i64 b.s, .int .i64 b.e, .int .i64 b.t, .bool true, .int .i64 b.fi, .int .i64 b.i, .int .i64 b.fz, .int .i64 b.z] 74)).alloc (.cells #[.int .i64 n.k, .string n.n, .string n.x, .string n.d, .int .i64 n.c, .int .i64 n.s, .int .i64 n.e, .int .i64 n.t, .bool n.o, .slice ai n.l.length ci, .slice az n.z.length cz] 46)) 61 #[.slice az n.z.length cz] (.bool true)) := xc_pureY fun y => by have := areShort_any n.z az cz y.to (h.hZ.below (HB0.out.trans (y.below.mono HB0.out.size))) h.hzn; rw [h12] at this; exact this
  clear h h1 h2 h3 h4 h5 h6 h7 h9 h10 h11 h12
  obtain ⟨b0, b1, b2, b3, b4, b5, b6, b7, b8, b9, b10, b11, b12⟩ := bx13 HBo.out
  obtain ⟨m0, m1, m2, m3, m4, m5, m6, m7, m8, m9, m10⟩ := bx11 HNo.out
  go_enter Tryz.func38, Tryz.ntmps38
  go_upto_region 1 with fail
  generalize ((w.alloc (.cells #[.bool b.nm, .int .i64 b.tx, .int .i64 b.fd, .int .i64 b.d, .int .i64 b.c, .int .i64 b.s, .int .i64 b.e, .int .i64 b.t, .bool true, .int .i64 b.fi, .int .i64 b.i, .int .i64 b.fz, .int .i64 b.z] 74)).alloc (.cells #[.int .i64 n.k, .string n.n, .string n.x, .string n.d, .int .i64 n.c, .int .i64 n.s, .int .i64 n.e, .int .i64 n.t, .bool n.o, .slice ai n.l.length ci, .slice az n.z.length cz] 46)) = W at HB0 HBo HNo X1 X2 X3 X4 X5 X6 X7 X9 X10 X11 X12 b0 b1 b2 b3 b4 b5 b6 b7 b8 b9 b10 b11 b12 m0 m1 m2 m3 m4 m5 m6 m7 m8 m9 m10 ⊢
  have xb0 : ∀ y : Ext W, y.to.cell? _ = _ := fun y => ext_cell y b0
  have xb1 : ∀ y : Ext W, y.to.cell? _ = _ := fun y => ext_cell y b1
  have xb2 : ∀ y : Ext W, y.to.cell? _ = _ := fun y => ext_cell y b2
  have xb3 : ∀ y : Ext W, y.to.cell? _ = _ := fun y => ext_cell y b3
  have xb4 : ∀ y : Ext W, y.to.cell? _ = _ := fun y => ext_cell y b4
  have xb5 : ∀ y : Ext W, y.to.cell? _ = _ := fun y => ext_cell y b5
  have xb6 : ∀ y : Ext W, y.to.cell? _ = _ := fun y => ext_cell y b6
  have xb7 : ∀ y : Ext W, y.to.cell? _ = _ := fun y => ext_cell y b7
  have xb8 : ∀ y : Ext W, y.to.cell? _ = _ := fun y => ext_cell y b8
  have xb9 : ∀ y : Ext W, y.to.cell? _ = _ := fun y => ext_cell y b9
  have xb10 : ∀ y : Ext W, y.to.cell? _ = _ := fun y => ext_cell y b10
  have xb11 : ∀ y : Ext W, y.to.cell? _ = _ := fun y => ext_cell y b11
  have xb12 : ∀ y : Ext W, y.to.cell? _ = _ := fun y => ext_cell y b12
  have xm0 : ∀ y : Ext W, y.to.cell? _ = _ := fun y => ext_cell y m0
  have xm1 : ∀ y : Ext W, y.to.cell? _ = _ := fun y => ext_cell y m1
  have xm2 : ∀ y : Ext W, y.to.cell? _ = _ := fun y => ext_cell y m2
  have xm3 : ∀ y : Ext W, y.to.cell? _ = _ := fun y => ext_cell y m3
  have xm4 : ∀ y : Ext W, y.to.cell? _ = _ := fun y => ext_cell y m4
  have xm5 : ∀ y : Ext W, y.to.cell? _ = _ := fun y => ext_cell y m5
  have xm6 : ∀ y : Ext W, y.to.cell? _ = _ := fun y => ext_cell y m6
  have xm7 : ∀ y : Ext W, y.to.cell? _ = _ := fun y => ext_cell y m7
  have xm8 : ∀ y : Ext W, y.to.cell? _ = _ := fun y => ext_cell y m8
  have xm9 : ∀ y : Ext W, y.to.cell? _ = _ := fun y => ext_cell y m9
  have xm10 : ∀ y : Ext W, y.to.cell? _ = _ := fun y => ext_cell y m10
  have hsome := extSome W
  clear HBo HNo b0 b1 b2 b3 b4 b5 b6 b7 b8 b9 b10 b11 b12 m0 m1 m2 m3 m4 m5 m6 m7 m8 m9 m10
  refine plain_quiet ?_
  dsimp only [List.append]
  repeat (go_big_quiet_step ((first | (go_at_call 56; with_reducible exact ext_call _ (X1.out _)) | (go_at_call 57; with_reducible exact ext_call _ (X2.out _)) | (go_at_call 58; with_reducible exact ext_call _ (X3.out _)) | (go_at_call 58; with_reducible exact ext_call _ (X4.out _)) | (go_at_call 58; with_reducible exact ext_call _ (X5.out _)) | (go_at_call 59; with_reducible exact ext_call _ (X6.out _)) | (go_at_call 59; with_reducible exact ext_call _ (X7.out _)) | (go_at_call 58; with_reducible exact ext_call _ (X9.out _)) | (go_at_call 60; with_reducible exact ext_call _ (X10.out _)) | (go_at_call 58; with_reducible exact ext_call _ (X11.out _)) | (go_at_call 61; with_reducible exact ext_call _ (X12.out _)))))
  refine wpQuiet_nil ?_
  rintro _ ⟨y, hy⟩
  subst hy
  have HB1 := Lib.hid (HB0.out.trans (y.below.mono HB0.out.size))
  clear xb0 xb1 xb2 xb3 xb4 xb5 xb6 xb7 xb8 xb9 xb10 xb11 xb12 xm0 xm1 xm2 xm3 xm4 xm5 xm6 xm7 xm8 xm9 xm10
  go_wp2_with fail
  go_ret
  exact ⟨rfl, HB1.out⟩
set_option maxRecDepth 100000 in
set_option maxHeartbeats 8000000 in
theorem hold_13_00 (b : Bn) (n : Nt) (ai az : Option Addr) (ci cz : Nat) (w : World) (h : NtL w ai az n) (h1 : (nmB n.n b.nm) = true) (h2 : (txB n.x b.tx) = true) (h3 : (inB n.d.size b.fd b.d) = true) (h4 : (inB n.c 0 b.c) = true) (h5 : (inB n.s 0 b.s) = true) (h6 : (inB n.e 0 b.e) = true) (h7 : (inB n.t 0 b.t) = true) (h9 : (inB n.l.length b.fi b.i) = true) (h10 : (n.l.all itB) = true) (h11 : (inB n.z.length b.fz b.z) = true) (h12 : (n.z.all (fun c => inB c 0 65535)) = true) : Calls Tryz.prog 38 #[.agg #[.bool b.nm, .int .i64 b.tx, .int .i64 b.fd, .int .i64 b.d, .int .i64 b.c, .int .i64 b.s, .int .i64 b.e, .int .i64 b.t, .bool false, .int .i64 b.fi, .int .i64 b.i, .int .i64 b.fz, .int .i64 b.z], .agg #[.int .i64 n.k, .string n.n, .string n.x, .string n.d, .int .i64 n.c, .int .i64 n.s, .int .i64 n.e, .int .i64 n.t, .bool false, .slice ai n.l.length ci, .slice az n.z.length cz]] w (Gives (.bool true) w) := by
  have HB0 : Hid (Below w.heap.size w ((w.alloc (.cells #[.bool b.nm, .int .i64 b.tx, .int .i64 b.fd, .int .i64 b.d, .int .i64 b.c, .int .i64 b.s, .int .i64 b.e, .int .i64 b.t, .bool false, .int .i64 b.fi, .int .i64 b.i, .int .i64 b.fz, .int .i64 b.z] 74)).alloc (.cells #[.int .i64 n.k, .string n.n, .string n.x, .string n.d, .int .i64 n.c, .int .i64 n.s, .int .i64 n.e, .int .i64 n.t, .bool false, .slice ai n.l.length ci, .slice az n.z.length cz] 46))) := ((Below.refl _ w).alloc (Nat.le_refl _) _).alloc (by simp) _
  have HBo : Hid (((w.alloc (.cells #[.bool b.nm, .int .i64 b.tx, .int .i64 b.fd, .int .i64 b.d, .int .i64 b.c, .int .i64 b.s, .int .i64 b.e, .int .i64 b.t, .bool false, .int .i64 b.fi, .int .i64 b.i, .int .i64 b.fz, .int .i64 b.z] 74)).alloc (.cells #[.int .i64 n.k, .string n.n, .string n.x, .string n.d, .int .i64 n.c, .int .i64 n.s, .int .i64 n.e, .int .i64 n.t, .bool false, .slice ai n.l.length ci, .slice az n.z.length cz] 46)).heap[w.heap.size]? = some (.cells #[.bool b.nm, .int .i64 b.tx, .int .i64 b.fd, .int .i64 b.d, .int .i64 b.c, .int .i64 b.s, .int .i64 b.e, .int .i64 b.t, .bool false, .int .i64 b.fi, .int .i64 b.i, .int .i64 b.fz, .int .i64 b.z] 74 (0, 0))) := (Below.heap_alloc (w.alloc (.cells #[.bool b.nm, .int .i64 b.tx, .int .i64 b.fd, .int .i64 b.d, .int .i64 b.c, .int .i64 b.s, .int .i64 b.e, .int .i64 b.t, .bool false, .int .i64 b.fi, .int .i64 b.i, .int .i64 b.fz, .int .i64 b.z] 74)) _ _ (by simp)).trans (box_new w _ _)
  have HNo : Hid (((w.alloc (.cells #[.bool b.nm, .int .i64 b.tx, .int .i64 b.fd, .int .i64 b.d, .int .i64 b.c, .int .i64 b.s, .int .i64 b.e, .int .i64 b.t, .bool false, .int .i64 b.fi, .int .i64 b.i, .int .i64 b.fz, .int .i64 b.z] 74)).alloc (.cells #[.int .i64 n.k, .string n.n, .string n.x, .string n.d, .int .i64 n.c, .int .i64 n.s, .int .i64 n.e, .int .i64 n.t, .bool false, .slice ai n.l.length ci, .slice az n.z.length cz] 46)).heap[w.heap.size + 1]? = some (.cells #[.int .i64 n.k, .string n.n, .string n.x, .string n.d, .int .i64 n.c, .int .i64 n.s, .int .i64 n.e, .int .i64 n.t, .bool false, .slice ai n.l.length ci, .slice az n.z.length cz] 46 (0, 0))) := by
    have := box_new (w.alloc (.cells #[.bool b.nm, .int .i64 b.tx, .int .i64 b.fd, .int .i64 b.d, .int .i64 b.c, .int .i64 b.s, .int .i64 b.e, .int .i64 b.t, .bool false, .int .i64 b.fi, .int .i64 b.i, .int .i64 b.fz, .int .i64 b.z] 74)) #[.int .i64 n.k, .string n.n, .string n.x, .string n.d, .int .i64 n.c, .int .i64 n.s, .int .i64 n.e, .int .i64 n.t, .bool false, .slice ai n.l.length ci, .slice az n.z.length cz] 46
    show _ = _
    simpa using this
  have X1 : Hid (Xc ((w.alloc (.cells #[.bool b.nm, .int .i64 b.tx, .int .i64 b.fd, .int .i64 b.d, .int .i64 b.c, .int .i64 b.s, .int .i64 b.e, .int .i64 b.t, .bool false, .int .i64 b.fi, .int .i64 b.i, .int .i64 b.fz, .int .i64 b.z] 74)).alloc (.cells #[.int .i64 n.k, .string n.n, .string n.x, .string n.d, .int .i64 n.c, .int .i64 n.s, .int .i64 n.e, .int .i64 n.t, .bool false, .slice ai n.l.length ci, .slice az n.z.length cz] 46)) 56 #[.string n.n, .bool b.nm] (.bool true)) := fun y => by have := isName_any n.n b.nm y.to (Nat.le_trans h.hn (by decide)); rw [h1] at this; exact this
  have X2 : Hid (Xc ((w.alloc (.cells #[.bool b.nm, .int .i64 b.tx, .int .i64 b.fd, .int .i64 b.d, .int .i64 b.c, .int .i64 b.s, .int .i64 b.e, .int .i64 b.t, .bool false, .int .i64 b.fi, .int .i64 b.i, .int .i64 b.fz, .int .i64 b.z] 74)).alloc (.cells #[.int .i64 n.k, .string n.n, .string n.x, .string n.d, .int .i64 n.c, .int .i64 n.s, .int .i64 n.e, .int .i64 n.t, .bool false, .slice ai n.l.length ci, .slice az n.z.length cz] 46)) 57 #[.string n.x, .int .i64 b.tx] (.bool true)) := fun y => by have := isText_any n.x b.tx y.to (Nat.le_trans h.hx (by decide)); rw [h2] at this; exact this
  have X3 : Hid (Xc ((w.alloc (.cells #[.bool b.nm, .int .i64 b.tx, .int .i64 b.fd, .int .i64 b.d, .int .i64 b.c, .int .i64 b.s, .int .i64 b.e, .int .i64 b.t, .bool false, .int .i64 b.fi, .int .i64 b.i, .int .i64 b.fz, .int .i64 b.z] 74)).alloc (.cells #[.int .i64 n.k, .string n.n, .string n.x, .string n.d, .int .i64 n.c, .int .i64 n.s, .int .i64 n.e, .int .i64 n.t, .bool false, .slice ai n.l.length ci, .slice az n.z.length cz] 46)) 58 #[.int .i64 n.d.size, .int .i64 b.fd, .int .i64 b.d] (.bool true)) := xc_pure fun W => by have := isIn_any n.d.size b.fd b.d W; rw [h3] at this; exact this
  have X4 : Hid (Xc ((w.alloc (.cells #[.bool b.nm, .int .i64 b.tx, .int .i64 b.fd, .int .i64 b.d, .int .i64 b.c, .int .i64 b.s, .int .i64 b.e, .int .i64 b.t, .bool false, .int .i64 b.fi, .int .i64 b.i, .int .i64 b.fz, .int .i64 b.z] 74)).alloc (.cells #[.int .i64 n.k, .string n.n, .string n.x, .string n.d, .int .i64 n.c, .int .i64 n.s, .int .i64 n.e, .int .i64 n.t, .bool false, .slice ai n.l.length ci, .slice az n.z.length cz] 46)) 58 #[.int .i64 n.c, .int .i64 0, .int .i64 b.c] (.bool true)) := xc_pure fun W => by have := isIn_any n.c 0 b.c W; rw [h4] at this; exact this
  have X5 : Hid (Xc ((w.alloc (.cells #[.bool b.nm, .int .i64 b.tx, .int .i64 b.fd, .int .i64 b.d, .int .i64 b.c, .int .i64 b.s, .int .i64 b.e, .int .i64 b.t, .bool false, .int .i64 b.fi, .int .i64 b.i, .int .i64 b.fz, .int .i64 b.z] 74)).alloc (.cells #[.int .i64 n.k, .string n.n, .string n.x, .string n.d, .int .i64 n.c, .int .i64 n.s, .int .i64 n.e, .int .i64 n.t, .bool false, .slice ai n.l.length ci, .slice az n.z.length cz] 46)) 58 #[.int .i64 n.s, .int .i64 0, .int .i64 b.s] (.bool true)) := xc_pure fun W => by have := isIn_any n.s 0 b.s W; rw [h5] at this; exact this
  have X6 : Hid (Xc ((w.alloc (.cells #[.bool b.nm, .int .i64 b.tx, .int .i64 b.fd, .int .i64 b.d, .int .i64 b.c, .int .i64 b.s, .int .i64 b.e, .int .i64 b.t, .bool false, .int .i64 b.fi, .int .i64 b.i, .int .i64 b.fz, .int .i64 b.z] 74)).alloc (.cells #[.int .i64 n.k, .string n.n, .string n.x, .string n.d, .int .i64 n.c, .int .i64 n.s, .int .i64 n.e, .int .i64 n.t, .bool false, .slice ai n.l.length ci, .slice az n.z.length cz] 46)) 59 #[.int .i64 n.e, .int .i64 0, .int .i64 b.e] (.bool true)) := xc_pure fun W => by have := isIn64_any n.e 0 b.e W; rw [h6] at this; exact this
  have X7 : Hid (Xc ((w.alloc (.cells #[.bool b.nm, .int .i64 b.tx, .int .i64 b.fd, .int .i64 b.d, .int .i64 b.c, .int .i64 b.s, .int .i64 b.e, .int .i64 b.t, .bool false, .int .i64 b.fi, .int .i64 b.i, .int .i64 b.fz, .int .i64 b.z] 74)).alloc (.cells #[.int .i64 n.k, .string n.n, .string n.x, .string n.d, .int .i64 n.c, .int .i64 n.s, .int .i64 n.e, .int .i64 n.t, .bool false, .slice ai n.l.length ci, .slice az n.z.length cz] 46)) 59 #[.int .i64 n.t, .int .i64 0, .int .i64 b.t] (.bool true)) := xc_pure fun W => by have := isIn64_any n.t 0 b.t W; rw [h7] at this; exact this
  have X9 : Hid (Xc ((w.alloc (.cells #[.bool b.nm, .int .i64 b.tx, .int .i64 b.fd, .int .i64 b.d, .int .i64 b.c, .int .i64 b.s, .int .i64 b.e, .int .i64 b.t, .bool false, .int .i64 b.fi, .int .i64 b.i, .int .i64 b.fz, .int .i64 b.z] 74)).alloc (.cells #[.int .i64 n.k, .string n.n, .string n.x, .string n.d, .int .i64 n.c, .int .i64 n.s, .int .i64 n.e, .int .i64 n.t, .bool false, .slice ai n.l.length ci, .slice az n.z.length cz] 46)) 58 #[.int .i64 n.l.length, .int .i64 b.fi, .int .i64 b.i] (.bool true)) := xc_pure fun W => by have := isIn_any n.l.length b.fi b.i W; rw [h9] at this; exact this
  have X10 : Hid (Xc ((w.alloc (.cells #[.bool b.nm, .int .i64 b.tx, .int .i64 b.fd, .int .i64 b.d, .int .i64 b.c, .int .i64 b.s, .int .i64 b.e, .int .i64 b.t, .bool false, .int .i64 b.fi, .int .i64 b.i, .int .i64 b.fz, .int .i64 b.z] 74)).alloc (.cells #[.int .i64 n.k, .string n.n, .string n.x, .string n.d, .int .i64 n.c, .int .i64 n.s, .int .i64 n.e, .int .i64 n.t, .bool false, .slice ai n.l.length ci, .slice az n.z.length cz] 46)) 60 #[.slice ai n.l.length ci] (.bool true)) := fun y => by have := areItems_any n.l ai ci y.to (h.hI.below (HB0.out.trans (y.below.mono HB0.out.size))) h.hin (fun z hz => ⟨Nat.le_trans (h.hiz z hz).1 (by decide), Nat.le_trans (h.hiz z hz).2 (by decide)⟩); rw [h10] at this; exact this
  have X11 : Hid (Xc ((w.alloc (.cells #[.bool b.nm, .int .i64 b.tx, .int .i64 b.fd, .int .i64 b.d, .int .i64 b.c, .int .i64 b.s, .int .i64 b.e, .int .i64 b.t, .bool false, .int .i64 b.fi, .int .i64 b.i, .int .i64 b.fz, .int .i64 b.z] 74)).alloc (.cells #[.int .i64 n.k, .string n.n, .string n.x, .string n.d, .int .i64 n.c, .int .i64 n.s, .int .i64 n.e, .int .i64 n.t, .bool false, .slice ai n.l.length ci, .slice az n.z.length cz] 46)) 58 #[.int .i64 n.z.length, .int .i64 b.fz, .int .i64 b.z] (.bool true)) := xc_pure fun W => by have := isIn_any n.z.length b.fz b.z W; rw [h11] at this; exact this
  have X12 : Hid (Xc ((w.alloc (.cells #[.bool b.nm, .int .i64 b.tx, .int .i64 b.fd, .int .i64 b.d, .int .i64 b.c, .int .i64 b.s, .int .i64 b.e, .int .i64 b.t, .bool false, .int .i64 b.fi, .int .i64 b.i, .int .i64 b.fz, .int .i64 b.z] 74)).alloc (.cells #[.int .i64 n.k, .string n.n, .string n.x, .string n.d, .int .i64 n.c, .int .i64 n.s, .int .i64 n.e, .int .i64 n.t, .bool false, .slice ai n.l.length ci, .slice az n.z.length cz] 46)) 61 #[.slice az n.z.length cz] (.bool true)) := xc_pureY fun y => by have := areShort_any n.z az cz y.to (h.hZ.below (HB0.out.trans (y.below.mono HB0.out.size))) h.hzn; rw [h12] at this; exact this
  clear h h1 h2 h3 h4 h5 h6 h7 h9 h10 h11 h12
  obtain ⟨b0, b1, b2, b3, b4, b5, b6, b7, b8, b9, b10, b11, b12⟩ := bx13 HBo.out
  obtain ⟨m0, m1, m2, m3, m4, m5, m6, m7, m8, m9, m10⟩ := bx11 HNo.out
  go_enter Tryz.func38, Tryz.ntmps38
  go_upto_region 1 with fail
  generalize ((w.alloc (.cells #[.bool b.nm, .int .i64 b.tx, .int .i64 b.fd, .int .i64 b.d, .int .i64 b.c, .int .i64 b.s, .int .i64 b.e, .int .i64 b.t, .bool false, .int .i64 b.fi, .int .i64 b.i, .int .i64 b.fz, .int .i64 b.z] 74)).alloc (.cells #[.int .i64 n.k, .string n.n, .string n.x, .string n.d, .int .i64 n.c, .int .i64 n.s, .int .i64 n.e, .int .i64 n.t, .bool false, .slice ai n.l.length ci, .slice az n.z.length cz] 46)) = W at HB0 HBo HNo X1 X2 X3 X4 X5 X6 X7 X9 X10 X11 X12 b0 b1 b2 b3 b4 b5 b6 b7 b8 b9 b10 b11 b12 m0 m1 m2 m3 m4 m5 m6 m7 m8 m9 m10 ⊢
  have xb0 : ∀ y : Ext W, y.to.cell? _ = _ := fun y => ext_cell y b0
  have xb1 : ∀ y : Ext W, y.to.cell? _ = _ := fun y => ext_cell y b1
  have xb2 : ∀ y : Ext W, y.to.cell? _ = _ := fun y => ext_cell y b2
  have xb3 : ∀ y : Ext W, y.to.cell? _ = _ := fun y => ext_cell y b3
  have xb4 : ∀ y : Ext W, y.to.cell? _ = _ := fun y => ext_cell y b4
  have xb5 : ∀ y : Ext W, y.to.cell? _ = _ := fun y => ext_cell y b5
  have xb6 : ∀ y : Ext W, y.to.cell? _ = _ := fun y => ext_cell y b6
  have xb7 : ∀ y : Ext W, y.to.cell? _ = _ := fun y => ext_cell y b7
  have xb8 : ∀ y : Ext W, y.to.cell? _ = _ := fun y => ext_cell y b8
  have xb9 : ∀ y : Ext W, y.to.cell? _ = _ := fun y => ext_cell y b9
  have xb10 : ∀ y : Ext W, y.to.cell? _ = _ := fun y => ext_cell y b10
  have xb11 : ∀ y : Ext W, y.to.cell? _ = _ := fun y => ext_cell y b11
  have xb12 : ∀ y : Ext W, y.to.cell? _ = _ := fun y => ext_cell y b12
  have xm0 : ∀ y : Ext W, y.to.cell? _ = _ := fun y => ext_cell y m0
  have xm1 : ∀ y : Ext W, y.to.cell? _ = _ := fun y => ext_cell y m1
  have xm2 : ∀ y : Ext W, y.to.cell? _ = _ := fun y => ext_cell y m2
  have xm3 : ∀ y : Ext W, y.to.cell? _ = _ := fun y => ext_cell y m3
  have xm4 : ∀ y : Ext W, y.to.cell? _ = _ := fun y => ext_cell y m4
  have xm5 : ∀ y : Ext W, y.to.cell? _ = _ := fun y => ext_cell y m5
  have xm6 : ∀ y : Ext W, y.to.cell? _ = _ := fun y => ext_cell y m6
  have xm7 : ∀ y : Ext W, y.to.cell? _ = _ := fun y => ext_cell y m7
  have xm8 : ∀ y : Ext W, y.to.cell? _ = _ := fun y => ext_cell y m8
  have xm9 : ∀ y : Ext W, y.to.cell? _ = _ := fun y => ext_cell y m9
  have xm10 : ∀ y : Ext W, y.to.cell? _ = _ := fun y => ext_cell y m10
  have hsome := extSome W
  clear HBo HNo b0 b1 b2 b3 b4 b5 b6 b7 b8 b9 b10 b11 b12 m0 m1 m2 m3 m4 m5 m6 m7 m8 m9 m10
  refine plain_quiet ?_
  dsimp only [List.append]
  repeat (go_big_quiet_step ((first | (go_at_call 56; with_reducible exact ext_call _ (X1.out _)) | (go_at_call 57; with_reducible exact ext_call _ (X2.out _)) | (go_at_call 58; with_reducible exact ext_call _ (X3.out _)) | (go_at_call 58; with_reducible exact ext_call _ (X4.out _)) | (go_at_call 58; with_reducible exact ext_call _ (X5.out _)) | (go_at_call 59; with_reducible exact ext_call _ (X6.out _)) | (go_at_call 59; with_reducible exact ext_call _ (X7.out _)) | (go_at_call 58; with_reducible exact ext_call _ (X9.out _)) | (go_at_call 60; with_reducible exact ext_call _ (X10.out _)) | (go_at_call 58; with_reducible exact ext_call _ (X11.out _)) | (go_at_call 61; with_reducible exact ext_call _ (X12.out _)))))
  refine wpQuiet_nil ?_
  rintro _ ⟨y, hy⟩
  subst hy
  have HB1 := Lib.hid (HB0.out.trans (y.below.mono HB0.out.size))
  clear xb0 xb1 xb2 xb3 xb4 xb5 xb6 xb7 xb8 xb9 xb10 xb11 xb12 xm0 xm1 xm2 xm3 xm4 xm5 xm6 xm7 xm8 xm9 xm10
  go_wp2_with fail
  go_ret
  exact ⟨rfl, HB1.out⟩
theorem hold_any (b : Bn) (n : Nt) (ai az : Option Addr) (ci cz : Nat) (w : World) (h : NtL w ai az n) : Calls Tryz.prog 38 #[bA b, nA n ai az ci cz] w (Gives (.bool (hold b n)) w) := by
  unfold hold bA nA
  cases h1 : nmB n.n b.nm
  · simp only [Bool.false_and]
    exact hold_1 b n ai az ci cz w h h1
  cases h2 : txB n.x b.tx
  · simp only [Bool.false_and, Bool.true_and]
    exact hold_2 b n ai az ci cz w h h1 h2
  cases h3 : inB n.d.size b.fd b.d
  · simp only [Bool.false_and, Bool.true_and]
    exact hold_3 b n ai az ci cz w h h1 h2 h3
  cases h4 : inB n.c 0 b.c
  · simp only [Bool.false_and, Bool.true_and]
    exact hold_4 b n ai az ci cz w h h1 h2 h3 h4
  cases h5 : inB n.s 0 b.s
  · simp only [Bool.false_and, Bool.true_and]
    exact hold_5 b n ai az ci cz w h h1 h2 h3 h4 h5
  cases h6 : inB n.e 0 b.e
  · simp only [Bool.false_and, Bool.true_and]
    exact hold_6 b n ai az ci cz w h h1 h2 h3 h4 h5 h6
  cases h7 : inB n.t 0 b.t
  · simp only [Bool.false_and, Bool.true_and]
    exact hold_7 b n ai az ci cz w h h1 h2 h3 h4 h5 h6 h7
  cases ho : b.o
  · cases hn : n.o
    · cases h9 : inB n.l.length b.fi b.i
      · have q := hold_9_00 b n ai az ci cz w h h1 h2 h3 h4 h5 h6 h7 h9
        simpa using q
      cases h10 : n.l.all itB
      · have q := hold_10_00 b n ai az ci cz w h h1 h2 h3 h4 h5 h6 h7 h9 h10
        simpa using q
      cases h11 : inB n.z.length b.fz b.z
      · have q := hold_11_00 b n ai az ci cz w h h1 h2 h3 h4 h5 h6 h7 h9 h10 h11
        simpa using q
      cases h12 : n.z.all (fun c => inB c 0 65535)
      · have q := hold_12_00 b n ai az ci cz w h h1 h2 h3 h4 h5 h6 h7 h9 h10 h11 h12
        simpa using q
      have q := hold_13_00 b n ai az ci cz w h h1 h2 h3 h4 h5 h6 h7 h9 h10 h11 h12
      simpa using q
    · have q := hold_8_01 b n ai az ci cz w h h1 h2 h3 h4 h5 h6 h7
      simpa using q
  · cases h9 : inB n.l.length b.fi b.i
    · have q := hold_9_10 b n ai az ci cz w h h1 h2 h3 h4 h5 h6 h7 h9
      simpa using q
    cases h10 : n.l.all itB
    · have q := hold_10_10 b n ai az ci cz w h h1 h2 h3 h4 h5 h6 h7 h9 h10
      simpa using q
    cases h11 : inB n.z.length b.fz b.z
    · have q := hold_11_10 b n ai az ci cz w h h1 h2 h3 h4 h5 h6 h7 h9 h10 h11
      simpa using q
    cases h12 : n.z.all (fun c => inB c 0 65535)
    · have q := hold_12_10 b n ai az ci cz w h h1 h2 h3 h4 h5 h6 h7 h9 h10 h11 h12
      simpa using q
    have q := hold_13_10 b n ai az ci cz w h h1 h2 h3 h4 h5 h6 h7 h9 h10 h11 h12
    simpa using q
end Go.Proofs.YtdmbngkkbgmlfaaGreatDoor.T
