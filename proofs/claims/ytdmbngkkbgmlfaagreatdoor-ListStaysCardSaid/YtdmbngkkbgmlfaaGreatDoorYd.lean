/- Contract: Check of package legacy, whatever the note. Conditions: those of each theorem's head. -/
import Derived.Test.YtdmbngkkbgmlfaaGreatDoorYc
namespace Go.Proofs.YtdmbngkkbgmlfaaGreatDoor.T
open Go.RowKit Go.Lib

set_option maxRecDepth 100000 in
set_option maxHeartbeats 8000000 in
theorem chk_k (n : Nt) (ai az : Option Addr) (ci cz : Nat) (w : World) (_h : NtL w ai az n) (h1 : isK n.k = false) : Calls Tryz.prog 17 #[.agg #[.int .i64 n.k, .string n.n, .string n.x, .string n.d, .int .i64 n.c, .int .i64 n.s, .int .i64 n.e, .int .i64 n.t, .bool n.o, .slice ai n.l.length ci, .slice az n.z.length cz]] w (Gives (.int .i64 140) w) := by
  have CB := Lib.hid (fun W => boundsOf_any n.k W)
  rw [h1] at CB
  unfold bA at CB
  generalize bnd n.k = b at CB
  clear h1
  have HX := Lib.hid (box_new w #[.int .i64 n.k, .string n.n, .string n.x, .string n.d, .int .i64 n.c, .int .i64 n.s, .int .i64 n.e, .int .i64 n.t, .bool n.o, .slice ai n.l.length ci, .slice az n.z.length cz] 46)
  have HB0 : Hid (Below w.heap.size w (w.alloc (.cells #[.int .i64 n.k, .string n.n, .string n.x, .string n.d, .int .i64 n.c, .int .i64 n.s, .int .i64 n.e, .int .i64 n.t, .bool n.o, .slice ai n.l.length ci, .slice az n.z.length cz] 46))) := (Below.refl _ w).alloc (Nat.le_refl _) _
  obtain ⟨m0, m1, m2, m3, m4, m5, m6, m7, m8, m9, m10⟩ := bx11 HX.out
  go_enter Tryz.func17, Tryz.ntmps17
  go_wp2_with fail
  refine (CB.out _).mono ?_
  rintro e w1 ⟨rfl, hb⟩
  clear m0 m1 m2 m3 m4 m5 m6 m7 m8 m9 m10
  have HX' := Lib.hid ((hb.block _ (heap_lt HX.out)).trans HX.out)
  clear HX
  have HX := HX'
  clear HX'
  have HB1 := Lib.hid (HB0.out.trans (hb.mono HB0.out.size))
  clear hb
  have HBo := Lib.hid (box_new w1 #[.bool b.nm, .int .i64 b.tx, .int .i64 b.fd, .int .i64 b.d, .int .i64 b.c, .int .i64 b.s, .int .i64 b.e, .int .i64 b.t, .bool b.o, .int .i64 b.fi, .int .i64 b.i, .int .i64 b.fz, .int .i64 b.z] 74)
  have HX' := Lib.hid ((Below.heap_alloc w1 (.cells #[.bool b.nm, .int .i64 b.tx, .int .i64 b.fd, .int .i64 b.d, .int .i64 b.c, .int .i64 b.s, .int .i64 b.e, .int .i64 b.t, .bool b.o, .int .i64 b.fi, .int .i64 b.i, .int .i64 b.fz, .int .i64 b.z] 74) _ (heap_lt HX.out)).trans HX.out)
  clear HX
  have HX := HX'
  clear HX'
  have HB1a := Lib.hid (HB1.out.alloc HB1.out.size (.cells #[.bool b.nm, .int .i64 b.tx, .int .i64 b.fd, .int .i64 b.d, .int .i64 b.c, .int .i64 b.s, .int .i64 b.e, .int .i64 b.t, .bool b.o, .int .i64 b.fi, .int .i64 b.i, .int .i64 b.fz, .int .i64 b.z] 74))
  obtain ⟨m0, m1, m2, m3, m4, m5, m6, m7, m8, m9, m10⟩ := bx11 HX.out
  obtain ⟨b0, b1, b2, b3, b4, b5, b6, b7, b8, b9, b10, b11, b12⟩ := bx13 HBo.out
  go_wp2_with fail
  go_ret
  exact ⟨rfl, HB1a.out⟩
set_option maxRecDepth 100000 in
set_option maxHeartbeats 8000000 in
theorem chk_h (n : Nt) (ai az : Option Addr) (ci cz : Nat) (w : World) (h : NtL w ai az n) (h1 : isK n.k = true) (h2 : hold (bnd n.k) n = false) : Calls Tryz.prog 17 #[.agg #[.int .i64 n.k, .string n.n, .string n.x, .string n.d, .int .i64 n.c, .int .i64 n.s, .int .i64 n.e, .int .i64 n.t, .bool n.o, .slice ai n.l.length ci, .slice az n.z.length cz]] w (Gives (.int .i64 140) w) := by
  have CB := Lib.hid (fun W => boundsOf_any n.k W)
  rw [h1] at CB
  have CH := Lib.hid (fun W (hb : Below w.heap.size w W) => hold_any (bnd n.k) n ai az ci cz W (h.below hb))
  rw [h2] at CH
  unfold nA at CH
  unfold bA at CB CH
  generalize bnd n.k = b at CB CH
  clear h h1 h2
  have HX := Lib.hid (box_new w #[.int .i64 n.k, .string n.n, .string n.x, .string n.d, .int .i64 n.c, .int .i64 n.s, .int .i64 n.e, .int .i64 n.t, .bool n.o, .slice ai n.l.length ci, .slice az n.z.length cz] 46)
  have HB0 : Hid (Below w.heap.size w (w.alloc (.cells #[.int .i64 n.k, .string n.n, .string n.x, .string n.d, .int .i64 n.c, .int .i64 n.s, .int .i64 n.e, .int .i64 n.t, .bool n.o, .slice ai n.l.length ci, .slice az n.z.length cz] 46))) := (Below.refl _ w).alloc (Nat.le_refl _) _
  obtain ⟨m0, m1, m2, m3, m4, m5, m6, m7, m8, m9, m10⟩ := bx11 HX.out
  go_enter Tryz.func17, Tryz.ntmps17
  go_wp2_with fail
  refine (CB.out _).mono ?_
  rintro e w1 ⟨rfl, hb⟩
  clear m0 m1 m2 m3 m4 m5 m6 m7 m8 m9 m10
  have HX' := Lib.hid ((hb.block _ (heap_lt HX.out)).trans HX.out)
  clear HX
  have HX := HX'
  clear HX'
  have HB1 := Lib.hid (HB0.out.trans (hb.mono HB0.out.size))
  clear hb
  have HBo := Lib.hid (box_new w1 #[.bool b.nm, .int .i64 b.tx, .int .i64 b.fd, .int .i64 b.d, .int .i64 b.c, .int .i64 b.s, .int .i64 b.e, .int .i64 b.t, .bool b.o, .int .i64 b.fi, .int .i64 b.i, .int .i64 b.fz, .int .i64 b.z] 74)
  have HX' := Lib.hid ((Below.heap_alloc w1 (.cells #[.bool b.nm, .int .i64 b.tx, .int .i64 b.fd, .int .i64 b.d, .int .i64 b.c, .int .i64 b.s, .int .i64 b.e, .int .i64 b.t, .bool b.o, .int .i64 b.fi, .int .i64 b.i, .int .i64 b.fz, .int .i64 b.z] 74) _ (heap_lt HX.out)).trans HX.out)
  clear HX
  have HX := HX'
  clear HX'
  have HB1a := Lib.hid (HB1.out.alloc HB1.out.size (.cells #[.bool b.nm, .int .i64 b.tx, .int .i64 b.fd, .int .i64 b.d, .int .i64 b.c, .int .i64 b.s, .int .i64 b.e, .int .i64 b.t, .bool b.o, .int .i64 b.fi, .int .i64 b.i, .int .i64 b.fz, .int .i64 b.z] 74))
  obtain ⟨m0, m1, m2, m3, m4, m5, m6, m7, m8, m9, m10⟩ := bx11 HX.out
  obtain ⟨b0, b1, b2, b3, b4, b5, b6, b7, b8, b9, b10, b11, b12⟩ := bx13 HBo.out
  go_wp2_with fail
  refine (CH.out _ HB1a.out).mono ?_
  rintro e w2 ⟨rfl, hb⟩
  clear b0 b1 b2 b3 b4 b5 b6 b7 b8 b9 b10 b11 b12
  clear m0 m1 m2 m3 m4 m5 m6 m7 m8 m9 m10
  have HX' := Lib.hid ((hb.block _ (heap_lt HX.out)).trans HX.out)
  clear HX
  have HX := HX'
  clear HX'
  have HBo' := Lib.hid ((hb.block _ (heap_lt HBo.out)).trans HBo.out)
  clear HBo
  have HBo := HBo'
  clear HBo'
  have HB2 := Lib.hid (HB1a.out.trans (hb.mono HB1a.out.size))
  clear hb
  obtain ⟨m0, m1, m2, m3, m4, m5, m6, m7, m8, m9, m10⟩ := bx11 HX.out
  obtain ⟨b0, b1, b2, b3, b4, b5, b6, b7, b8, b9, b10, b11, b12⟩ := bx13 HBo.out
  go_wp2_with fail
  go_ret
  exact ⟨rfl, HB2.out⟩
set_option maxRecDepth 100000 in
set_option maxHeartbeats 8000000 in
theorem chk_y (n : Nt) (ai az : Option Addr) (ci cz : Nat) (w : World) (h : NtL w ai az n) (h1 : isK n.k = true) (h2 : hold (bnd n.k) n = true) (h3 : (n.k == 8) = false) : Calls Tryz.prog 17 #[.agg #[.int .i64 n.k, .string n.n, .string n.x, .string n.d, .int .i64 n.c, .int .i64 n.s, .int .i64 n.e, .int .i64 n.t, .bool n.o, .slice ai n.l.length ci, .slice az n.z.length cz]] w (Gives (.int .i64 0) w) := by
  have CB := Lib.hid (fun W => boundsOf_any n.k W)
  rw [h1] at CB
  have CH := Lib.hid (fun W (hb : Below w.heap.size w W) => hold_any (bnd n.k) n ai az ci cz W (h.below hb))
  rw [h2] at CH
  unfold nA at CH
  unfold bA at CB CH
  generalize bnd n.k = b at CB CH
  clear h h1 h2
  have HX := Lib.hid (box_new w #[.int .i64 n.k, .string n.n, .string n.x, .string n.d, .int .i64 n.c, .int .i64 n.s, .int .i64 n.e, .int .i64 n.t, .bool n.o, .slice ai n.l.length ci, .slice az n.z.length cz] 46)
  have HB0 : Hid (Below w.heap.size w (w.alloc (.cells #[.int .i64 n.k, .string n.n, .string n.x, .string n.d, .int .i64 n.c, .int .i64 n.s, .int .i64 n.e, .int .i64 n.t, .bool n.o, .slice ai n.l.length ci, .slice az n.z.length cz] 46))) := (Below.refl _ w).alloc (Nat.le_refl _) _
  obtain ⟨m0, m1, m2, m3, m4, m5, m6, m7, m8, m9, m10⟩ := bx11 HX.out
  go_enter Tryz.func17, Tryz.ntmps17
  go_wp2_with fail
  refine (CB.out _).mono ?_
  rintro e w1 ⟨rfl, hb⟩
  clear m0 m1 m2 m3 m4 m5 m6 m7 m8 m9 m10
  have HX' := Lib.hid ((hb.block _ (heap_lt HX.out)).trans HX.out)
  clear HX
  have HX := HX'
  clear HX'
  have HB1 := Lib.hid (HB0.out.trans (hb.mono HB0.out.size))
  clear hb
  have HBo := Lib.hid (box_new w1 #[.bool b.nm, .int .i64 b.tx, .int .i64 b.fd, .int .i64 b.d, .int .i64 b.c, .int .i64 b.s, .int .i64 b.e, .int .i64 b.t, .bool b.o, .int .i64 b.fi, .int .i64 b.i, .int .i64 b.fz, .int .i64 b.z] 74)
  have HX' := Lib.hid ((Below.heap_alloc w1 (.cells #[.bool b.nm, .int .i64 b.tx, .int .i64 b.fd, .int .i64 b.d, .int .i64 b.c, .int .i64 b.s, .int .i64 b.e, .int .i64 b.t, .bool b.o, .int .i64 b.fi, .int .i64 b.i, .int .i64 b.fz, .int .i64 b.z] 74) _ (heap_lt HX.out)).trans HX.out)
  clear HX
  have HX := HX'
  clear HX'
  have HB1a := Lib.hid (HB1.out.alloc HB1.out.size (.cells #[.bool b.nm, .int .i64 b.tx, .int .i64 b.fd, .int .i64 b.d, .int .i64 b.c, .int .i64 b.s, .int .i64 b.e, .int .i64 b.t, .bool b.o, .int .i64 b.fi, .int .i64 b.i, .int .i64 b.fz, .int .i64 b.z] 74))
  obtain ⟨m0, m1, m2, m3, m4, m5, m6, m7, m8, m9, m10⟩ := bx11 HX.out
  obtain ⟨b0, b1, b2, b3, b4, b5, b6, b7, b8, b9, b10, b11, b12⟩ := bx13 HBo.out
  go_wp2_with fail
  refine (CH.out _ HB1a.out).mono ?_
  rintro e w2 ⟨rfl, hb⟩
  clear b0 b1 b2 b3 b4 b5 b6 b7 b8 b9 b10 b11 b12
  clear m0 m1 m2 m3 m4 m5 m6 m7 m8 m9 m10
  have HX' := Lib.hid ((hb.block _ (heap_lt HX.out)).trans HX.out)
  clear HX
  have HX := HX'
  clear HX'
  have HBo' := Lib.hid ((hb.block _ (heap_lt HBo.out)).trans HBo.out)
  clear HBo
  have HBo := HBo'
  clear HBo'
  have HB2 := Lib.hid (HB1a.out.trans (hb.mono HB1a.out.size))
  clear hb
  obtain ⟨m0, m1, m2, m3, m4, m5, m6, m7, m8, m9, m10⟩ := bx11 HX.out
  obtain ⟨b0, b1, b2, b3, b4, b5, b6, b7, b8, b9, b10, b11, b12⟩ := bx13 HBo.out
  go_wp2_with fail
  go_ret
  exact ⟨rfl, HB2.out⟩
set_option maxRecDepth 100000 in
set_option maxHeartbeats 8000000 in
theorem chk_8y (n : Nt) (ai az : Option Addr) (ci cz : Nat) (w : World) (h : NtL w ai az n) (hk : n.k = 8) (h2 : hold (bnd 8) n = true) (h4 : letB n = true) : Calls Tryz.prog 17 #[.agg #[.int .i64 8, .string n.n, .string n.x, .string n.d, .int .i64 n.c, .int .i64 n.s, .int .i64 n.e, .int .i64 n.t, .bool n.o, .slice ai n.l.length ci, .slice az n.z.length cz]] w (Gives (.int .i64 0) w) := by
  have CB := Lib.hid (fun W => boundsOf_any 8 W)
  rw [show isK 8 = true from rfl] at CB
  have CH := Lib.hid (fun W (hb : Below w.heap.size w W) => hold_any (bnd 8) n ai az ci cz W (h.below hb))
  rw [h2] at CH
  have CL := Lib.hid (fun W => isLet_any n ai az ci cz W)
  rw [h4] at CL
  unfold nA at CL
  rw [hk] at CL
  unfold nA at CH
  rw [hk] at CH
  unfold bA at CB CH
  generalize bnd 8 = b at CB CH
  clear h h2 h4 hk
  have HX := Lib.hid (box_new w #[.int .i64 8, .string n.n, .string n.x, .string n.d, .int .i64 n.c, .int .i64 n.s, .int .i64 n.e, .int .i64 n.t, .bool n.o, .slice ai n.l.length ci, .slice az n.z.length cz] 46)
  have HB0 : Hid (Below w.heap.size w (w.alloc (.cells #[.int .i64 8, .string n.n, .string n.x, .string n.d, .int .i64 n.c, .int .i64 n.s, .int .i64 n.e, .int .i64 n.t, .bool n.o, .slice ai n.l.length ci, .slice az n.z.length cz] 46))) := (Below.refl _ w).alloc (Nat.le_refl _) _
  obtain ⟨m0, m1, m2, m3, m4, m5, m6, m7, m8, m9, m10⟩ := bx11 HX.out
  go_enter Tryz.func17, Tryz.ntmps17
  go_wp2_with fail
  refine (CB.out _).mono ?_
  rintro e w1 ⟨rfl, hb⟩
  clear m0 m1 m2 m3 m4 m5 m6 m7 m8 m9 m10
  have HX' := Lib.hid ((hb.block _ (heap_lt HX.out)).trans HX.out)
  clear HX
  have HX := HX'
  clear HX'
  have HB1 := Lib.hid (HB0.out.trans (hb.mono HB0.out.size))
  clear hb
  have HBo := Lib.hid (box_new w1 #[.bool b.nm, .int .i64 b.tx, .int .i64 b.fd, .int .i64 b.d, .int .i64 b.c, .int .i64 b.s, .int .i64 b.e, .int .i64 b.t, .bool b.o, .int .i64 b.fi, .int .i64 b.i, .int .i64 b.fz, .int .i64 b.z] 74)
  have HX' := Lib.hid ((Below.heap_alloc w1 (.cells #[.bool b.nm, .int .i64 b.tx, .int .i64 b.fd, .int .i64 b.d, .int .i64 b.c, .int .i64 b.s, .int .i64 b.e, .int .i64 b.t, .bool b.o, .int .i64 b.fi, .int .i64 b.i, .int .i64 b.fz, .int .i64 b.z] 74) _ (heap_lt HX.out)).trans HX.out)
  clear HX
  have HX := HX'
  clear HX'
  have HB1a := Lib.hid (HB1.out.alloc HB1.out.size (.cells #[.bool b.nm, .int .i64 b.tx, .int .i64 b.fd, .int .i64 b.d, .int .i64 b.c, .int .i64 b.s, .int .i64 b.e, .int .i64 b.t, .bool b.o, .int .i64 b.fi, .int .i64 b.i, .int .i64 b.fz, .int .i64 b.z] 74))
  obtain ⟨m0, m1, m2, m3, m4, m5, m6, m7, m8, m9, m10⟩ := bx11 HX.out
  obtain ⟨b0, b1, b2, b3, b4, b5, b6, b7, b8, b9, b10, b11, b12⟩ := bx13 HBo.out
  go_wp2_with fail
  refine (CH.out _ HB1a.out).mono ?_
  rintro e w2 ⟨rfl, hb⟩
  clear b0 b1 b2 b3 b4 b5 b6 b7 b8 b9 b10 b11 b12
  clear m0 m1 m2 m3 m4 m5 m6 m7 m8 m9 m10
  have HX' := Lib.hid ((hb.block _ (heap_lt HX.out)).trans HX.out)
  clear HX
  have HX := HX'
  clear HX'
  have HBo' := Lib.hid ((hb.block _ (heap_lt HBo.out)).trans HBo.out)
  clear HBo
  have HBo := HBo'
  clear HBo'
  have HB2 := Lib.hid (HB1a.out.trans (hb.mono HB1a.out.size))
  clear hb
  obtain ⟨m0, m1, m2, m3, m4, m5, m6, m7, m8, m9, m10⟩ := bx11 HX.out
  obtain ⟨b0, b1, b2, b3, b4, b5, b6, b7, b8, b9, b10, b11, b12⟩ := bx13 HBo.out
  go_wp2_with fail
  refine (CL.out _).mono ?_
  rintro e w3 ⟨rfl, hb⟩
  clear b0 b1 b2 b3 b4 b5 b6 b7 b8 b9 b10 b11 b12
  clear m0 m1 m2 m3 m4 m5 m6 m7 m8 m9 m10
  have HX' := Lib.hid ((hb.block _ (heap_lt HX.out)).trans HX.out)
  clear HX
  have HX := HX'
  clear HX'
  have HBo' := Lib.hid ((hb.block _ (heap_lt HBo.out)).trans HBo.out)
  clear HBo
  have HBo := HBo'
  clear HBo'
  have HB3 := Lib.hid (HB2.out.trans (hb.mono HB2.out.size))
  clear hb
  obtain ⟨m0, m1, m2, m3, m4, m5, m6, m7, m8, m9, m10⟩ := bx11 HX.out
  obtain ⟨b0, b1, b2, b3, b4, b5, b6, b7, b8, b9, b10, b11, b12⟩ := bx13 HBo.out
  go_wp2_with fail
  go_ret
  exact ⟨rfl, HB3.out⟩
set_option maxRecDepth 100000 in
set_option maxHeartbeats 8000000 in
theorem chk_8n (n : Nt) (ai az : Option Addr) (ci cz : Nat) (w : World) (h : NtL w ai az n) (hk : n.k = 8) (h2 : hold (bnd 8) n = true) (h4 : letB n = false) : Calls Tryz.prog 17 #[.agg #[.int .i64 8, .string n.n, .string n.x, .string n.d, .int .i64 n.c, .int .i64 n.s, .int .i64 n.e, .int .i64 n.t, .bool n.o, .slice ai n.l.length ci, .slice az n.z.length cz]] w (Gives (.int .i64 140) w) := by
  have CB := Lib.hid (fun W => boundsOf_any 8 W)
  rw [show isK 8 = true from rfl] at CB
  have CH := Lib.hid (fun W (hb : Below w.heap.size w W) => hold_any (bnd 8) n ai az ci cz W (h.below hb))
  rw [h2] at CH
  have CL := Lib.hid (fun W => isLet_any n ai az ci cz W)
  rw [h4] at CL
  unfold nA at CL
  rw [hk] at CL
  unfold nA at CH
  rw [hk] at CH
  unfold bA at CB CH
  generalize bnd 8 = b at CB CH
  clear h h2 h4 hk
  have HX := Lib.hid (box_new w #[.int .i64 8, .string n.n, .string n.x, .string n.d, .int .i64 n.c, .int .i64 n.s, .int .i64 n.e, .int .i64 n.t, .bool n.o, .slice ai n.l.length ci, .slice az n.z.length cz] 46)
  have HB0 : Hid (Below w.heap.size w (w.alloc (.cells #[.int .i64 8, .string n.n, .string n.x, .string n.d, .int .i64 n.c, .int .i64 n.s, .int .i64 n.e, .int .i64 n.t, .bool n.o, .slice ai n.l.length ci, .slice az n.z.length cz] 46))) := (Below.refl _ w).alloc (Nat.le_refl _) _
  obtain ⟨m0, m1, m2, m3, m4, m5, m6, m7, m8, m9, m10⟩ := bx11 HX.out
  go_enter Tryz.func17, Tryz.ntmps17
  go_wp2_with fail
  refine (CB.out _).mono ?_
  rintro e w1 ⟨rfl, hb⟩
  clear m0 m1 m2 m3 m4 m5 m6 m7 m8 m9 m10
  have HX' := Lib.hid ((hb.block _ (heap_lt HX.out)).trans HX.out)
  clear HX
  have HX := HX'
  clear HX'
  have HB1 := Lib.hid (HB0.out.trans (hb.mono HB0.out.size))
  clear hb
  have HBo := Lib.hid (box_new w1 #[.bool b.nm, .int .i64 b.tx, .int .i64 b.fd, .int .i64 b.d, .int .i64 b.c, .int .i64 b.s, .int .i64 b.e, .int .i64 b.t, .bool b.o, .int .i64 b.fi, .int .i64 b.i, .int .i64 b.fz, .int .i64 b.z] 74)
  have HX' := Lib.hid ((Below.heap_alloc w1 (.cells #[.bool b.nm, .int .i64 b.tx, .int .i64 b.fd, .int .i64 b.d, .int .i64 b.c, .int .i64 b.s, .int .i64 b.e, .int .i64 b.t, .bool b.o, .int .i64 b.fi, .int .i64 b.i, .int .i64 b.fz, .int .i64 b.z] 74) _ (heap_lt HX.out)).trans HX.out)
  clear HX
  have HX := HX'
  clear HX'
  have HB1a := Lib.hid (HB1.out.alloc HB1.out.size (.cells #[.bool b.nm, .int .i64 b.tx, .int .i64 b.fd, .int .i64 b.d, .int .i64 b.c, .int .i64 b.s, .int .i64 b.e, .int .i64 b.t, .bool b.o, .int .i64 b.fi, .int .i64 b.i, .int .i64 b.fz, .int .i64 b.z] 74))
  obtain ⟨m0, m1, m2, m3, m4, m5, m6, m7, m8, m9, m10⟩ := bx11 HX.out
  obtain ⟨b0, b1, b2, b3, b4, b5, b6, b7, b8, b9, b10, b11, b12⟩ := bx13 HBo.out
  go_wp2_with fail
  refine (CH.out _ HB1a.out).mono ?_
  rintro e w2 ⟨rfl, hb⟩
  clear b0 b1 b2 b3 b4 b5 b6 b7 b8 b9 b10 b11 b12
  clear m0 m1 m2 m3 m4 m5 m6 m7 m8 m9 m10
  have HX' := Lib.hid ((hb.block _ (heap_lt HX.out)).trans HX.out)
  clear HX
  have HX := HX'
  clear HX'
  have HBo' := Lib.hid ((hb.block _ (heap_lt HBo.out)).trans HBo.out)
  clear HBo
  have HBo := HBo'
  clear HBo'
  have HB2 := Lib.hid (HB1a.out.trans (hb.mono HB1a.out.size))
  clear hb
  obtain ⟨m0, m1, m2, m3, m4, m5, m6, m7, m8, m9, m10⟩ := bx11 HX.out
  obtain ⟨b0, b1, b2, b3, b4, b5, b6, b7, b8, b9, b10, b11, b12⟩ := bx13 HBo.out
  go_wp2_with fail
  refine (CL.out _).mono ?_
  rintro e w3 ⟨rfl, hb⟩
  clear b0 b1 b2 b3 b4 b5 b6 b7 b8 b9 b10 b11 b12
  clear m0 m1 m2 m3 m4 m5 m6 m7 m8 m9 m10
  have HX' := Lib.hid ((hb.block _ (heap_lt HX.out)).trans HX.out)
  clear HX
  have HX := HX'
  clear HX'
  have HBo' := Lib.hid ((hb.block _ (heap_lt HBo.out)).trans HBo.out)
  clear HBo
  have HBo := HBo'
  clear HBo'
  have HB3 := Lib.hid (HB2.out.trans (hb.mono HB2.out.size))
  clear hb
  obtain ⟨m0, m1, m2, m3, m4, m5, m6, m7, m8, m9, m10⟩ := bx11 HX.out
  obtain ⟨b0, b1, b2, b3, b4, b5, b6, b7, b8, b9, b10, b11, b12⟩ := bx13 HBo.out
  go_wp2_with fail
  go_ret
  exact ⟨rfl, HB3.out⟩
theorem lcheck_any (n : Nt) (ai az : Option Addr) (ci cz : Nat) (w : World) (h : NtL w ai az n) : Calls Tryz.prog 17 #[nA n ai az ci cz] w (Gives (.int .i64 (if may n = true then 0 else 140)) w) := by
  unfold may
  cases h1 : isK n.k
  · exact chk_k n ai az ci cz w h h1
  cases h2 : hold (bnd n.k) n
  · exact chk_h n ai az ci cz w h h1 h2
  by_cases hk : n.k = 8
  · rw [decide_eq_true hk]
    rw [hk] at h2
    unfold nA
    cases h4 : letB n
    · have q := chk_8n n ai az ci cz w h hk h2 h4
      rw [hk]
      exact q
    · have q := chk_8y n ai az ci cz w h hk h2 h4
      rw [hk]
      exact q
  · rw [decide_eq_false hk]
    exact chk_y n ai az ci cz w h h1 h2 (by simpa using hk)
end Go.Proofs.YtdmbngkkbgmlfaaGreatDoor.T
