/- The document's Body, kinds without lists. Conditions: those of each theorem's head. -/
import Derived.Test.YtiodjaeonoheiaaGreatDoorBa
import Derived.Test.YtiodjaeonoheiaaGreatDoorZu
set_option maxRecDepth 100000
set_option maxHeartbeats 8000000
namespace Go.Proofs.YtiodjaeonoheiaaGreatDoor.T
open Go.RowKit Go.Lib
theorem put1_len (k : Int) (s : ByteArray) : (putS [⟨k, s⟩]).size ≤ s.size + 4 := by
  have := l_val k s
  unfold valL at this
  rwa [By.len_size] at this
theorem mk_cat3 (a b c : ByteArray) : mk (a.data.toList ++ b.data.toList ++ c.data.toList) = a ++ b ++ c := by rw [← cat_list, mk_cat]
theorem rbody_1 (n : Nt) (ai az : Option Addr) (ci cz : Nat) (w : World) (h : NtL w ai az n) : Calls Tryz.prog 24 #[.agg #[.int .i64 1, .string n.n, .string n.x, .string n.d, .int .i64 n.c, .int .i64 n.s, .int .i64 n.e, .int .i64 n.t, .bool n.o, .slice ai n.l.length ci, .slice az n.z.length cz]] w (Gives (.string (intS 1 4)) w) := by
  obtain ⟨HX, HB0⟩ := bxOne w #[.int .i64 1, .string n.n, .string n.x, .string n.d, .int .i64 n.c, .int .i64 n.s, .int .i64 n.e, .int .i64 n.t, .bool n.o, .slice ai n.l.length ci, .slice az n.z.length cz] 25
  have y1 := h.hn
  have y2 := h.hx
  have y3 := h.hd
  clear h
  have C0 := Lib.hid (fun W => rnumS_any 1 4 W)
  have z0 := intS_len 1 4
  generalize intS 1 4 = r0 at C0 z0 ⊢
  have mX := bx11 HX.out
  go_enter Tryz.func24, Tryz.ntmps24
  go_wp2_with fail
  refine (C0.out _).mono ?_
  rintro e w1 ⟨rfl, hb⟩
  clear mX
  replace HX := kpB hb HX
  have HB1 := trB HB0 hb
  clear hb
  have mX := bx11 HX.out
  go_wp2_with fail
  clear C0
  go_ret
  exact ⟨rfl, HB1.out⟩
theorem rbody_2 (n : Nt) (ai az : Option Addr) (ci cz : Nat) (w : World) (h : NtL w ai az n) : Calls Tryz.prog 24 #[.agg #[.int .i64 2, .string n.n, .string n.x, .string n.d, .int .i64 n.c, .int .i64 n.s, .int .i64 n.e, .int .i64 n.t, .bool n.o, .slice ai n.l.length ci, .slice az n.z.length cz]] w (Gives (.string (intS 1 4 ++ putS [⟨6, n.d⟩])) w) := by
  obtain ⟨HX, HB0⟩ := bxOne w #[.int .i64 2, .string n.n, .string n.x, .string n.d, .int .i64 n.c, .int .i64 n.s, .int .i64 n.e, .int .i64 n.t, .bool n.o, .slice ai n.l.length ci, .slice az n.z.length cz] 25
  have y1 := h.hn
  have y2 := h.hx
  have y3 := h.hd
  clear h
  have C0 := Lib.hid (fun W => rnumS_any 1 4 W)
  have z0 := intS_len 1 4
  generalize intS 1 4 = r0 at C0 z0 ⊢
  have C1 := Lib.hid (fun W => rvalS_any 6 n.d W (by omega))
  have z1 := put1_len 6 n.d
  generalize putS [⟨6, n.d⟩] = r1 at C1 z1 ⊢
  have mX := bx11 HX.out
  go_enter Tryz.func24, Tryz.ntmps24
  go_wp2_with fail
  generalize hV : (w.alloc (.cells #[.int .i64 2, .string n.n, .string n.x, .string n.d, .int .i64 n.c, .int .i64 n.s, .int .i64 n.e, .int .i64 n.t, .bool n.o, .slice ai n.l.length ci, .slice az n.z.length cz] 25)) = V at HX HB0 mX ⊢
  clear hV
  obtain ⟨x0, x1, x2, x3, x4, x5, x6, x7, x8, x9, x10⟩ := bx11x HX
  have X0 : Hid (Xc V 46 #[.int .i64 1, .int .i64 4] (.string r0)) := fun y => C0.out y.to
  have X1 : Hid (Xc V 47 #[.int .i64 6, .string n.d] (.string r1)) := fun y => C1.out y.to
  have hsome := extSome V
  clear C0 C1 HX mX
  refine ext_region (by kernel_rfl) (by kernel_rfl) ?_
  repeat (go_big_quiet_step ((first | (go_at_call 46; with_reducible exact ext_call _ (X0.out _)) | (go_at_call 47; with_reducible exact ext_call _ (X1.out _)))))
  refine wpQuiet_nil ?_
  rintro _ ⟨y, hy⟩
  subst hy
  have HBf := trB HB0 y.below
  clear x0 x1 x2 x3 x4 x5 x6 x7 x8 x9 x10
  go_wp2_with fail
  go_ret
  exact ⟨rfl, HBf.out⟩
theorem rbody_3y (n : Nt) (ai az : Option Addr) (ci cz : Nat) (w : World) (h : NtL w ai az n) (h0 : n.c ≠ 0) : Calls Tryz.prog 24 #[.agg #[.int .i64 3, .string n.n, .string n.x, .string n.d, .int .i64 n.c, .int .i64 n.s, .int .i64 n.e, .int .i64 n.t, .bool n.o, .slice ai n.l.length ci, .slice az n.z.length cz]] w (Gives (.string (putS [⟨9, intS n.c 2⟩])) w) := by
  have q0 := bne_iff_ne.2 h0
  clear h0
  obtain ⟨HX, HB0⟩ := bxOne w #[.int .i64 3, .string n.n, .string n.x, .string n.d, .int .i64 n.c, .int .i64 n.s, .int .i64 n.e, .int .i64 n.t, .bool n.o, .slice ai n.l.length ci, .slice az n.z.length cz] 25
  have y1 := h.hn
  have y2 := h.hx
  have y3 := h.hd
  clear h
  have C0 := Lib.hid (fun W => rnumS_any n.c 2 W)
  have z0 := intS_len n.c 2
  generalize intS n.c 2 = r0 at C0 z0 ⊢
  have C1 := Lib.hid (fun W => rvalS_any 9 r0 W (by omega))
  have z1 := put1_len 9 r0
  generalize putS [⟨9, r0⟩] = r1 at C1 z1 ⊢
  have mX := bx11 HX.out
  go_enter Tryz.func24, Tryz.ntmps24
  go_wp2_with fail
  refine (C0.out _).mono ?_
  rintro e w1 ⟨rfl, hb⟩
  clear mX
  replace HX := kpB hb HX
  have HB1 := trB HB0 hb
  clear hb
  have mX := bx11 HX.out
  go_wp2_with fail
  clear C0
  refine (C1.out _).mono ?_
  rintro e w2 ⟨rfl, hb⟩
  clear mX
  replace HX := kpB hb HX
  have HB2 := trB HB1 hb
  clear hb
  have mX := bx11 HX.out
  go_wp2_with fail
  clear C1
  go_ret
  exact ⟨rfl, HB2.out⟩
theorem rbody_5 (n : Nt) (ai az : Option Addr) (ci cz : Nat) (w : World) (h : NtL w ai az n) : Calls Tryz.prog 24 #[.agg #[.int .i64 5, .string n.n, .string n.x, .string n.d, .int .i64 n.c, .int .i64 n.s, .int .i64 n.e, .int .i64 n.t, .bool n.o, .slice ai n.l.length ci, .slice az n.z.length cz]] w (Gives (.string (putS [⟨1, n.n⟩])) w) := by
  obtain ⟨HX, HB0⟩ := bxOne w #[.int .i64 5, .string n.n, .string n.x, .string n.d, .int .i64 n.c, .int .i64 n.s, .int .i64 n.e, .int .i64 n.t, .bool n.o, .slice ai n.l.length ci, .slice az n.z.length cz] 25
  have y1 := h.hn
  have y2 := h.hx
  have y3 := h.hd
  clear h
  have C0 := Lib.hid (fun W => rvalS_any 1 n.n W (by omega))
  have z0 := put1_len 1 n.n
  generalize putS [⟨1, n.n⟩] = r0 at C0 z0 ⊢
  have mX := bx11 HX.out
  go_enter Tryz.func24, Tryz.ntmps24
  go_wp2_with fail
  refine (C0.out _).mono ?_
  rintro e w1 ⟨rfl, hb⟩
  clear mX
  replace HX := kpB hb HX
  have HB1 := trB HB0 hb
  clear hb
  have mX := bx11 HX.out
  go_wp2_with fail
  clear C0
  go_ret
  exact ⟨rfl, HB1.out⟩
theorem rbody_6 (n : Nt) (ai az : Option Addr) (ci cz : Nat) (w : World) (h : NtL w ai az n) : Calls Tryz.prog 24 #[.agg #[.int .i64 6, .string n.n, .string n.x, .string n.d, .int .i64 n.c, .int .i64 n.s, .int .i64 n.e, .int .i64 n.t, .bool n.o, .slice ai n.l.length ci, .slice az n.z.length cz]] w (Gives (.string (textS n.d 2)) w) := by
  obtain ⟨HX, HB0⟩ := bxOne w #[.int .i64 6, .string n.n, .string n.x, .string n.d, .int .i64 n.c, .int .i64 n.s, .int .i64 n.e, .int .i64 n.t, .bool n.o, .slice ai n.l.length ci, .slice az n.z.length cz] 25
  have y1 := h.hn
  have y2 := h.hx
  have y3 := h.hd
  clear h
  have C0 := Lib.hid (fun W => rtxtS_any n.d 2 W (by omega))
  have z0 := textS_len n.d 2
  generalize textS n.d 2 = r0 at C0 z0 ⊢
  have mX := bx11 HX.out
  go_enter Tryz.func24, Tryz.ntmps24
  go_wp2_with fail
  refine (C0.out _).mono ?_
  rintro e w1 ⟨rfl, hb⟩
  clear mX
  replace HX := kpB hb HX
  have HB1 := trB HB0 hb
  clear hb
  have mX := bx11 HX.out
  go_wp2_with fail
  clear C0
  go_ret
  exact ⟨rfl, HB1.out⟩
theorem rbody_7 (n : Nt) (ai az : Option Addr) (ci cz : Nat) (w : World) (h : NtL w ai az n) : Calls Tryz.prog 24 #[.agg #[.int .i64 7, .string n.n, .string n.x, .string n.d, .int .i64 n.c, .int .i64 n.s, .int .i64 n.e, .int .i64 n.t, .bool n.o, .slice ai n.l.length ci, .slice az n.z.length cz]] w (Gives (.string (putS [⟨1, n.n⟩] ++ putS [⟨37, n.d⟩])) w) := by
  obtain ⟨HX, HB0⟩ := bxOne w #[.int .i64 7, .string n.n, .string n.x, .string n.d, .int .i64 n.c, .int .i64 n.s, .int .i64 n.e, .int .i64 n.t, .bool n.o, .slice ai n.l.length ci, .slice az n.z.length cz] 25
  have y1 := h.hn
  have y2 := h.hx
  have y3 := h.hd
  clear h
  have C0 := Lib.hid (fun W => rvalS_any 1 n.n W (by omega))
  have z0 := put1_len 1 n.n
  generalize putS [⟨1, n.n⟩] = r0 at C0 z0 ⊢
  have C1 := Lib.hid (fun W => rvalS_any 37 n.d W (by omega))
  have z1 := put1_len 37 n.d
  generalize putS [⟨37, n.d⟩] = r1 at C1 z1 ⊢
  have mX := bx11 HX.out
  go_enter Tryz.func24, Tryz.ntmps24
  go_wp2_with fail
  generalize hV : (w.alloc (.cells #[.int .i64 7, .string n.n, .string n.x, .string n.d, .int .i64 n.c, .int .i64 n.s, .int .i64 n.e, .int .i64 n.t, .bool n.o, .slice ai n.l.length ci, .slice az n.z.length cz] 25)) = V at HX HB0 mX ⊢
  clear hV
  obtain ⟨x0, x1, x2, x3, x4, x5, x6, x7, x8, x9, x10⟩ := bx11x HX
  have X0 : Hid (Xc V 47 #[.int .i64 1, .string n.n] (.string r0)) := fun y => C0.out y.to
  have X1 : Hid (Xc V 47 #[.int .i64 37, .string n.d] (.string r1)) := fun y => C1.out y.to
  have hsome := extSome V
  clear C0 C1 HX mX
  refine ext_region (by kernel_rfl) (by kernel_rfl) ?_
  repeat (go_big_quiet_step ((first | (go_at_call 47; with_reducible exact ext_call _ (X0.out _)) | (go_at_call 47; with_reducible exact ext_call _ (X1.out _)))))
  refine wpQuiet_nil ?_
  rintro _ ⟨y, hy⟩
  subst hy
  have HBf := trB HB0 y.below
  clear x0 x1 x2 x3 x4 x5 x6 x7 x8 x9 x10
  go_wp2_with fail
  go_ret
  exact ⟨rfl, HBf.out⟩
theorem rbody_8d (n : Nt) (ai az : Option Addr) (ci cz : Nat) (w : World) (h : NtL w ai az n) (h0 : ¬ n.d.size = 0) : Calls Tryz.prog 24 #[.agg #[.int .i64 8, .string n.n, .string n.x, .string n.d, .int .i64 n.c, .int .i64 n.s, .int .i64 n.e, .int .i64 n.t, .bool n.o, .slice ai n.l.length ci, .slice az n.z.length cz]] w (Gives (.string (putS [⟨1, n.n⟩] ++ putS [⟨6, n.d⟩])) w) := by
  have q0 := By.nonempty h0
  clear h0
  obtain ⟨HX, HB0⟩ := bxOne w #[.int .i64 8, .string n.n, .string n.x, .string n.d, .int .i64 n.c, .int .i64 n.s, .int .i64 n.e, .int .i64 n.t, .bool n.o, .slice ai n.l.length ci, .slice az n.z.length cz] 25
  have y1 := h.hn
  have y2 := h.hx
  have y3 := h.hd
  clear h
  have C0 := Lib.hid (fun W => rvalS_any 1 n.n W (by omega))
  have z0 := put1_len 1 n.n
  generalize putS [⟨1, n.n⟩] = r0 at C0 z0 ⊢
  have C1 := Lib.hid (fun W => rvalS_any 6 n.d W (by omega))
  have z1 := put1_len 6 n.d
  generalize putS [⟨6, n.d⟩] = r1 at C1 z1 ⊢
  have mX := bx11 HX.out
  go_enter Tryz.func24, Tryz.ntmps24
  go_wp2_with fail
  generalize hV : (w.alloc (.cells #[.int .i64 8, .string n.n, .string n.x, .string n.d, .int .i64 n.c, .int .i64 n.s, .int .i64 n.e, .int .i64 n.t, .bool n.o, .slice ai n.l.length ci, .slice az n.z.length cz] 25)) = V at HX HB0 mX ⊢
  clear hV
  obtain ⟨x0, x1, x2, x3, x4, x5, x6, x7, x8, x9, x10⟩ := bx11x HX
  have X0 : Hid (Xc V 47 #[.int .i64 1, .string n.n] (.string r0)) := fun y => C0.out y.to
  have X1 : Hid (Xc V 47 #[.int .i64 6, .string n.d] (.string r1)) := fun y => C1.out y.to
  have hsome := extSome V
  clear C0 C1 HX mX
  refine ext_region (by kernel_rfl) (by kernel_rfl) ?_
  repeat (go_big_quiet_step ((first | (go_at_call 47; with_reducible exact ext_call _ (X0.out _)) | (go_at_call 47; with_reducible exact ext_call _ (X1.out _)))))
  refine wpQuiet_nil ?_
  rintro _ ⟨y, hy⟩
  subst hy
  have HBf := trB HB0 y.below
  clear x0 x1 x2 x3 x4 x5 x6 x7 x8 x9 x10
  go_wp2_with fail
  go_ret
  exact ⟨rfl, HBf.out⟩
theorem rbody_8c (n : Nt) (ai az : Option Addr) (ci cz : Nat) (w : World) (h : NtL w ai az n) : Calls Tryz.prog 24 #[.agg #[.int .i64 8, .string n.n, .string n.x, .string ⟨#[]⟩, .int .i64 n.c, .int .i64 n.s, .int .i64 n.e, .int .i64 n.t, .bool n.o, .slice ai n.l.length ci, .slice az n.z.length cz]] w (Gives (.string (putS [⟨1, n.n⟩] ++ putS [⟨8, intS n.c 2⟩])) w) := by
  obtain ⟨HX, HB0⟩ := bxOne w #[.int .i64 8, .string n.n, .string n.x, .string ⟨#[]⟩, .int .i64 n.c, .int .i64 n.s, .int .i64 n.e, .int .i64 n.t, .bool n.o, .slice ai n.l.length ci, .slice az n.z.length cz] 25
  have y1 := h.hn
  have y2 := h.hx
  have y3 := h.hd
  clear h
  have C0 := Lib.hid (fun W => rvalS_any 1 n.n W (by omega))
  have z0 := put1_len 1 n.n
  generalize putS [⟨1, n.n⟩] = r0 at C0 z0 ⊢
  have C1 := Lib.hid (fun W => rnumS_any n.c 2 W)
  have z1 := intS_len n.c 2
  generalize intS n.c 2 = r1 at C1 z1 ⊢
  have C2 := Lib.hid (fun W => rvalS_any 8 r1 W (by omega))
  have z2 := put1_len 8 r1
  generalize putS [⟨8, r1⟩] = r2 at C2 z2 ⊢
  have mX := bx11 HX.out
  go_enter Tryz.func24, Tryz.ntmps24
  go_wp2_with fail
  generalize hV : (w.alloc (.cells #[.int .i64 8, .string n.n, .string n.x, .string ⟨#[]⟩, .int .i64 n.c, .int .i64 n.s, .int .i64 n.e, .int .i64 n.t, .bool n.o, .slice ai n.l.length ci, .slice az n.z.length cz] 25)) = V at HX HB0 mX ⊢
  clear hV
  obtain ⟨x0, x1, x2, x3, x4, x5, x6, x7, x8, x9, x10⟩ := bx11x HX
  have X0 : Hid (Xc V 47 #[.int .i64 1, .string n.n] (.string r0)) := fun y => C0.out y.to
  have X1 : Hid (Xc V 46 #[.int .i64 n.c, .int .i64 2] (.string r1)) := fun y => C1.out y.to
  have X2 : Hid (Xc V 47 #[.int .i64 8, .string r1] (.string r2)) := fun y => C2.out y.to
  have hsome := extSome V
  clear C0 C1 C2 HX mX
  refine ext_region (by kernel_rfl) (by kernel_rfl) ?_
  repeat (go_big_quiet_step ((first | (go_at_call 47; with_reducible exact ext_call _ (X0.out _)) | (go_at_call 46; with_reducible exact ext_call _ (X1.out _)) | (go_at_call 47; with_reducible exact ext_call _ (X2.out _)))))
  refine wpQuiet_nil ?_
  rintro _ ⟨y, hy⟩
  subst hy
  have HBf := trB HB0 y.below
  clear x0 x1 x2 x3 x4 x5 x6 x7 x8 x9 x10
  go_wp2_with fail
  go_ret
  exact ⟨rfl, HBf.out⟩
theorem rbody_11 (n : Nt) (ai az : Option Addr) (ci cz : Nat) (w : World) (h : NtL w ai az n) : Calls Tryz.prog 24 #[.agg #[.int .i64 11, .string n.n, .string n.x, .string n.d, .int .i64 n.c, .int .i64 n.s, .int .i64 n.e, .int .i64 n.t, .bool n.o, .slice ai n.l.length ci, .slice az n.z.length cz]] w (Gives (.string (putS [⟨6, intS n.s 4⟩])) w) := by
  obtain ⟨HX, HB0⟩ := bxOne w #[.int .i64 11, .string n.n, .string n.x, .string n.d, .int .i64 n.c, .int .i64 n.s, .int .i64 n.e, .int .i64 n.t, .bool n.o, .slice ai n.l.length ci, .slice az n.z.length cz] 25
  have y1 := h.hn
  have y2 := h.hx
  have y3 := h.hd
  clear h
  have C0 := Lib.hid (fun W => rnumS_any n.s 4 W)
  have z0 := intS_len n.s 4
  generalize intS n.s 4 = r0 at C0 z0 ⊢
  have C1 := Lib.hid (fun W => rvalS_any 6 r0 W (by omega))
  have z1 := put1_len 6 r0
  generalize putS [⟨6, r0⟩] = r1 at C1 z1 ⊢
  have mX := bx11 HX.out
  go_enter Tryz.func24, Tryz.ntmps24
  go_wp2_with fail
  refine (C0.out _).mono ?_
  rintro e w1 ⟨rfl, hb⟩
  clear mX
  replace HX := kpB hb HX
  have HB1 := trB HB0 hb
  clear hb
  have mX := bx11 HX.out
  go_wp2_with fail
  clear C0
  refine (C1.out _).mono ?_
  rintro e w2 ⟨rfl, hb⟩
  clear mX
  replace HX := kpB hb HX
  have HB2 := trB HB1 hb
  clear hb
  have mX := bx11 HX.out
  go_wp2_with fail
  clear C1
  go_ret
  exact ⟨rfl, HB2.out⟩
theorem rbody_12 (n : Nt) (ai az : Option Addr) (ci cz : Nat) (w : World) (h : NtL w ai az n) : Calls Tryz.prog 24 #[.agg #[.int .i64 12, .string n.n, .string n.x, .string n.d, .int .i64 n.c, .int .i64 n.s, .int .i64 n.e, .int .i64 n.t, .bool n.o, .slice ai n.l.length ci, .slice az n.z.length cz]] w (Gives (.string (intS n.e 4)) w) := by
  obtain ⟨HX, HB0⟩ := bxOne w #[.int .i64 12, .string n.n, .string n.x, .string n.d, .int .i64 n.c, .int .i64 n.s, .int .i64 n.e, .int .i64 n.t, .bool n.o, .slice ai n.l.length ci, .slice az n.z.length cz] 25
  have y1 := h.hn
  have y2 := h.hx
  have y3 := h.hd
  clear h
  have C0 := Lib.hid (fun W => rnumS_any n.e 4 W)
  have z0 := intS_len n.e 4
  generalize intS n.e 4 = r0 at C0 z0 ⊢
  have mX := bx11 HX.out
  go_enter Tryz.func24, Tryz.ntmps24
  go_wp2_with fail
  refine (C0.out _).mono ?_
  rintro e w1 ⟨rfl, hb⟩
  clear mX
  replace HX := kpB hb HX
  have HB1 := trB HB0 hb
  clear hb
  have mX := bx11 HX.out
  go_wp2_with fail
  clear C0
  go_ret
  exact ⟨rfl, HB1.out⟩
theorem rbody_13 (n : Nt) (ai az : Option Addr) (ci cz : Nat) (w : World) (h : NtL w ai az n) : Calls Tryz.prog 24 #[.agg #[.int .i64 13, .string n.n, .string n.x, .string n.d, .int .i64 n.c, .int .i64 n.s, .int .i64 n.e, .int .i64 n.t, .bool n.o, .slice ai n.l.length ci, .slice az n.z.length cz]] w (Gives (.string (textS n.n 1 ++ putS [⟨6, intS n.s 4⟩] ++ putS [⟨4, intS n.e 2⟩])) w) := by
  obtain ⟨HX, HB0⟩ := bxOne w #[.int .i64 13, .string n.n, .string n.x, .string n.d, .int .i64 n.c, .int .i64 n.s, .int .i64 n.e, .int .i64 n.t, .bool n.o, .slice ai n.l.length ci, .slice az n.z.length cz] 25
  have y1 := h.hn
  have y2 := h.hx
  have y3 := h.hd
  clear h
  have C0 := Lib.hid (fun W => rtxtS_any n.n 1 W (by omega))
  have z0 := textS_len n.n 1
  generalize textS n.n 1 = r0 at C0 z0 ⊢
  have C1 := Lib.hid (fun W => rnumS_any n.s 4 W)
  have z1 := intS_len n.s 4
  generalize intS n.s 4 = r1 at C1 z1 ⊢
  have C2 := Lib.hid (fun W => rvalS_any 6 r1 W (by omega))
  have z2 := put1_len 6 r1
  generalize putS [⟨6, r1⟩] = r2 at C2 z2 ⊢
  have C3 := Lib.hid (fun W => rnumS_any n.e 2 W)
  have z3 := intS_len n.e 2
  generalize intS n.e 2 = r3 at C3 z3 ⊢
  have C4 := Lib.hid (fun W => rvalS_any 4 r3 W (by omega))
  have z4 := put1_len 4 r3
  generalize putS [⟨4, r3⟩] = r4 at C4 z4 ⊢
  have mX := bx11 HX.out
  go_enter Tryz.func24, Tryz.ntmps24
  go_wp2_with fail
  generalize hV : (w.alloc (.cells #[.int .i64 13, .string n.n, .string n.x, .string n.d, .int .i64 n.c, .int .i64 n.s, .int .i64 n.e, .int .i64 n.t, .bool n.o, .slice ai n.l.length ci, .slice az n.z.length cz] 25)) = V at HX HB0 mX ⊢
  clear hV
  obtain ⟨x0, x1, x2, x3, x4, x5, x6, x7, x8, x9, x10⟩ := bx11x HX
  have X0 : Hid (Xc V 48 #[.string n.n, .int .i64 1] (.string r0)) := fun y => C0.out y.to
  have X1 : Hid (Xc V 46 #[.int .i64 n.s, .int .i64 4] (.string r1)) := fun y => C1.out y.to
  have X2 : Hid (Xc V 47 #[.int .i64 6, .string r1] (.string r2)) := fun y => C2.out y.to
  have X3 : Hid (Xc V 46 #[.int .i64 n.e, .int .i64 2] (.string r3)) := fun y => C3.out y.to
  have X4 : Hid (Xc V 47 #[.int .i64 4, .string r3] (.string r4)) := fun y => C4.out y.to
  have hsome := extSome V
  clear C0 C1 C2 C3 C4 HX mX
  refine ext_region (by kernel_rfl) (by kernel_rfl) ?_
  repeat (go_big_quiet_step ((first | (go_at_call 48; with_reducible exact ext_call _ (X0.out _)) | (go_at_call 46; with_reducible exact ext_call _ (X1.out _)) | (go_at_call 47; with_reducible exact ext_call _ (X2.out _)) | (go_at_call 46; with_reducible exact ext_call _ (X3.out _)) | (go_at_call 47; with_reducible exact ext_call _ (X4.out _)))))
  refine wpQuiet_nil ?_
  rintro _ ⟨y, hy⟩
  subst hy
  have HBf := trB HB0 y.below
  clear x0 x1 x2 x3 x4 x5 x6 x7 x8 x9 x10
  go_wp2_with fail
  go_ret
  exact ⟨rfl, HBf.out⟩
theorem rbody_14 (n : Nt) (ai az : Option Addr) (ci cz : Nat) (w : World) (h : NtL w ai az n) : Calls Tryz.prog 24 #[.agg #[.int .i64 14, .string n.n, .string n.x, .string n.d, .int .i64 n.c, .int .i64 n.s, .int .i64 n.e, .int .i64 n.t, .bool n.o, .slice ai n.l.length ci, .slice az n.z.length cz]] w (Gives (.string (textS n.n 1)) w) := by
  obtain ⟨HX, HB0⟩ := bxOne w #[.int .i64 14, .string n.n, .string n.x, .string n.d, .int .i64 n.c, .int .i64 n.s, .int .i64 n.e, .int .i64 n.t, .bool n.o, .slice ai n.l.length ci, .slice az n.z.length cz] 25
  have y1 := h.hn
  have y2 := h.hx
  have y3 := h.hd
  clear h
  have C0 := Lib.hid (fun W => rtxtS_any n.n 1 W (by omega))
  have z0 := textS_len n.n 1
  generalize textS n.n 1 = r0 at C0 z0 ⊢
  have mX := bx11 HX.out
  go_enter Tryz.func24, Tryz.ntmps24
  go_wp2_with fail
  refine (C0.out _).mono ?_
  rintro e w1 ⟨rfl, hb⟩
  clear mX
  replace HX := kpB hb HX
  have HB1 := trB HB0 hb
  clear hb
  have mX := bx11 HX.out
  go_wp2_with fail
  clear C0
  go_ret
  exact ⟨rfl, HB1.out⟩
theorem rbody_15 (n : Nt) (ai az : Option Addr) (ci cz : Nat) (w : World) (h : NtL w ai az n) : Calls Tryz.prog 24 #[.agg #[.int .i64 15, .string n.n, .string n.x, .string n.d, .int .i64 n.c, .int .i64 n.s, .int .i64 n.e, .int .i64 n.t, .bool n.o, .slice ai n.l.length ci, .slice az n.z.length cz]] w (Gives (.string (n.d ++ textS n.n 1 ++ putS [⟨2, n.x⟩])) w) := by
  obtain ⟨HX, HB0⟩ := bxOne w #[.int .i64 15, .string n.n, .string n.x, .string n.d, .int .i64 n.c, .int .i64 n.s, .int .i64 n.e, .int .i64 n.t, .bool n.o, .slice ai n.l.length ci, .slice az n.z.length cz] 25
  have y1 := h.hn
  have y2 := h.hx
  have y3 := h.hd
  clear h
  have C0 := Lib.hid (fun W => rtxtS_any n.n 1 W (by omega))
  have z0 := textS_len n.n 1
  generalize textS n.n 1 = r0 at C0 z0 ⊢
  have C1 := Lib.hid (fun W => rvalS_any 2 n.x W (by omega))
  have z1 := put1_len 2 n.x
  generalize putS [⟨2, n.x⟩] = r1 at C1 z1 ⊢
  have mX := bx11 HX.out
  go_enter Tryz.func24, Tryz.ntmps24
  go_wp2_with fail
  generalize hV : (w.alloc (.cells #[.int .i64 15, .string n.n, .string n.x, .string n.d, .int .i64 n.c, .int .i64 n.s, .int .i64 n.e, .int .i64 n.t, .bool n.o, .slice ai n.l.length ci, .slice az n.z.length cz] 25)) = V at HX HB0 mX ⊢
  clear hV
  obtain ⟨x0, x1, x2, x3, x4, x5, x6, x7, x8, x9, x10⟩ := bx11x HX
  have X0 : Hid (Xc V 48 #[.string n.n, .int .i64 1] (.string r0)) := fun y => C0.out y.to
  have X1 : Hid (Xc V 47 #[.int .i64 2, .string n.x] (.string r1)) := fun y => C1.out y.to
  have hsome := extSome V
  clear C0 C1 HX mX
  refine ext_region (by kernel_rfl) (by kernel_rfl) ?_
  repeat (go_big_quiet_step ((first | (go_at_call 48; with_reducible exact ext_call _ (X0.out _)) | (go_at_call 47; with_reducible exact ext_call _ (X1.out _)))))
  refine wpQuiet_nil ?_
  rintro _ ⟨y, hy⟩
  subst hy
  have HBf := trB HB0 y.below
  clear x0 x1 x2 x3 x4 x5 x6 x7 x8 x9 x10
  go_wp2_with fail
  go_ret
  exact ⟨rfl, HBf.out⟩
theorem rbody_17 (n : Nt) (ai az : Option Addr) (ci cz : Nat) (w : World) (h : NtL w ai az n) : Calls Tryz.prog 24 #[.agg #[.int .i64 17, .string n.n, .string n.x, .string n.d, .int .i64 n.c, .int .i64 n.s, .int .i64 n.e, .int .i64 n.t, .bool n.o, .slice ai n.l.length ci, .slice az n.z.length cz]] w (Gives (.string (intS n.t 4 ++ intS n.c 2)) w) := by
  obtain ⟨HX, HB0⟩ := bxOne w #[.int .i64 17, .string n.n, .string n.x, .string n.d, .int .i64 n.c, .int .i64 n.s, .int .i64 n.e, .int .i64 n.t, .bool n.o, .slice ai n.l.length ci, .slice az n.z.length cz] 25
  have y1 := h.hn
  have y2 := h.hx
  have y3 := h.hd
  clear h
  have C0 := Lib.hid (fun W => rnumS_any n.t 4 W)
  have z0 := intS_len n.t 4
  generalize intS n.t 4 = r0 at C0 z0 ⊢
  have C1 := Lib.hid (fun W => rnumS_any n.c 2 W)
  have z1 := intS_len n.c 2
  generalize intS n.c 2 = r1 at C1 z1 ⊢
  have mX := bx11 HX.out
  go_enter Tryz.func24, Tryz.ntmps24
  go_wp2_with fail
  generalize hV : (w.alloc (.cells #[.int .i64 17, .string n.n, .string n.x, .string n.d, .int .i64 n.c, .int .i64 n.s, .int .i64 n.e, .int .i64 n.t, .bool n.o, .slice ai n.l.length ci, .slice az n.z.length cz] 25)) = V at HX HB0 mX ⊢
  clear hV
  obtain ⟨x0, x1, x2, x3, x4, x5, x6, x7, x8, x9, x10⟩ := bx11x HX
  have X0 : Hid (Xc V 46 #[.int .i64 n.t, .int .i64 4] (.string r0)) := fun y => C0.out y.to
  have X1 : Hid (Xc V 46 #[.int .i64 n.c, .int .i64 2] (.string r1)) := fun y => C1.out y.to
  have hsome := extSome V
  clear C0 C1 HX mX
  refine ext_region (by kernel_rfl) (by kernel_rfl) ?_
  repeat (go_big_quiet_step ((first | (go_at_call 46; with_reducible exact ext_call _ (X0.out _)) | (go_at_call 46; with_reducible exact ext_call _ (X1.out _)))))
  refine wpQuiet_nil ?_
  rintro _ ⟨y, hy⟩
  subst hy
  have HBf := trB HB0 y.below
  clear x0 x1 x2 x3 x4 x5 x6 x7 x8 x9 x10
  go_wp2_with fail
  go_ret
  exact ⟨rfl, HBf.out⟩
theorem rbody_26 (n : Nt) (ai az : Option Addr) (ci cz : Nat) (w : World) (h : NtL w ai az n) : Calls Tryz.prog 24 #[.agg #[.int .i64 26, .string n.n, .string n.x, .string n.d, .int .i64 n.c, .int .i64 n.s, .int .i64 n.e, .int .i64 n.t, .bool n.o, .slice ai n.l.length ci, .slice az n.z.length cz]] w (Gives (.string (textS n.n 1 ++ textS n.x 2)) w) := by
  obtain ⟨HX, HB0⟩ := bxOne w #[.int .i64 26, .string n.n, .string n.x, .string n.d, .int .i64 n.c, .int .i64 n.s, .int .i64 n.e, .int .i64 n.t, .bool n.o, .slice ai n.l.length ci, .slice az n.z.length cz] 25
  have y1 := h.hn
  have y2 := h.hx
  have y3 := h.hd
  clear h
  have C0 := Lib.hid (fun W => rtxtS_any n.n 1 W (by omega))
  have z0 := textS_len n.n 1
  generalize textS n.n 1 = r0 at C0 z0 ⊢
  have C1 := Lib.hid (fun W => rtxtS_any n.x 2 W (by omega))
  have z1 := textS_len n.x 2
  generalize textS n.x 2 = r1 at C1 z1 ⊢
  have mX := bx11 HX.out
  go_enter Tryz.func24, Tryz.ntmps24
  go_wp2_with fail
  generalize hV : (w.alloc (.cells #[.int .i64 26, .string n.n, .string n.x, .string n.d, .int .i64 n.c, .int .i64 n.s, .int .i64 n.e, .int .i64 n.t, .bool n.o, .slice ai n.l.length ci, .slice az n.z.length cz] 25)) = V at HX HB0 mX ⊢
  clear hV
  obtain ⟨x0, x1, x2, x3, x4, x5, x6, x7, x8, x9, x10⟩ := bx11x HX
  have X0 : Hid (Xc V 48 #[.string n.n, .int .i64 1] (.string r0)) := fun y => C0.out y.to
  have X1 : Hid (Xc V 48 #[.string n.x, .int .i64 2] (.string r1)) := fun y => C1.out y.to
  have hsome := extSome V
  clear C0 C1 HX mX
  refine ext_region (by kernel_rfl) (by kernel_rfl) ?_
  repeat (go_big_quiet_step ((first | (go_at_call 48; with_reducible exact ext_call _ (X0.out _)) | (go_at_call 48; with_reducible exact ext_call _ (X1.out _)))))
  refine wpQuiet_nil ?_
  rintro _ ⟨y, hy⟩
  subst hy
  have HBf := trB HB0 y.below
  clear x0 x1 x2 x3 x4 x5 x6 x7 x8 x9 x10
  go_wp2_with fail
  go_ret
  exact ⟨rfl, HBf.out⟩
theorem rbody_28t (n : Nt) (ai az : Option Addr) (ci cz : Nat) (w : World) (h : NtL w ai az n) : Calls Tryz.prog 24 #[.agg #[.int .i64 28, .string n.n, .string n.x, .string n.d, .int .i64 n.c, .int .i64 n.s, .int .i64 n.e, .int .i64 n.t, .bool true, .slice ai n.l.length ci, .slice az n.z.length cz]] w (Gives (.string (textS n.n 1 ++ intS 1 1 ++ textS n.x 2)) w) := by
  obtain ⟨HX, HB0⟩ := bxOne w #[.int .i64 28, .string n.n, .string n.x, .string n.d, .int .i64 n.c, .int .i64 n.s, .int .i64 n.e, .int .i64 n.t, .bool true, .slice ai n.l.length ci, .slice az n.z.length cz] 25
  have y1 := h.hn
  have y2 := h.hx
  have y3 := h.hd
  clear h
  have C0 := Lib.hid (fun W => rtxtS_any n.n 1 W (by omega))
  have z0 := textS_len n.n 1
  generalize textS n.n 1 = r0 at C0 z0 ⊢
  have C1 := Lib.hid (fun W => rnumS_any 1 1 W)
  have z1 := intS_len 1 1
  generalize intS 1 1 = r1 at C1 z1 ⊢
  have C2 := Lib.hid (fun W => rtxtS_any n.x 2 W (by omega))
  have z2 := textS_len n.x 2
  generalize textS n.x 2 = r2 at C2 z2 ⊢
  have mX := bx11 HX.out
  go_enter Tryz.func24, Tryz.ntmps24
  go_wp2_with fail
  generalize hV : (w.alloc (.cells #[.int .i64 28, .string n.n, .string n.x, .string n.d, .int .i64 n.c, .int .i64 n.s, .int .i64 n.e, .int .i64 n.t, .bool true, .slice ai n.l.length ci, .slice az n.z.length cz] 25)) = V at HX HB0 mX ⊢
  clear hV
  obtain ⟨x0, x1, x2, x3, x4, x5, x6, x7, x8, x9, x10⟩ := bx11x HX
  have X0 : Hid (Xc V 48 #[.string n.n, .int .i64 1] (.string r0)) := fun y => C0.out y.to
  have X1 : Hid (Xc V 46 #[.int .i64 1, .int .i64 1] (.string r1)) := fun y => C1.out y.to
  have X2 : Hid (Xc V 48 #[.string n.x, .int .i64 2] (.string r2)) := fun y => C2.out y.to
  have hsome := extSome V
  clear C0 C1 C2 HX mX
  refine ext_region (by kernel_rfl) (by kernel_rfl) ?_
  repeat (go_big_quiet_step ((first | (go_at_call 48; with_reducible exact ext_call _ (X0.out _)) | (go_at_call 46; with_reducible exact ext_call _ (X1.out _)) | (go_at_call 48; with_reducible exact ext_call _ (X2.out _)))))
  refine wpQuiet_nil ?_
  rintro _ ⟨y, hy⟩
  subst hy
  have HBf := trB HB0 y.below
  clear x0 x1 x2 x3 x4 x5 x6 x7 x8 x9 x10
  go_wp2_with fail
  go_ret
  exact ⟨rfl, HBf.out⟩
theorem rbody_28f (n : Nt) (ai az : Option Addr) (ci cz : Nat) (w : World) (h : NtL w ai az n) : Calls Tryz.prog 24 #[.agg #[.int .i64 28, .string n.n, .string n.x, .string n.d, .int .i64 n.c, .int .i64 n.s, .int .i64 n.e, .int .i64 n.t, .bool false, .slice ai n.l.length ci, .slice az n.z.length cz]] w (Gives (.string (textS n.n 1 ++ intS 0 1 ++ textS n.x 2)) w) := by
  obtain ⟨HX, HB0⟩ := bxOne w #[.int .i64 28, .string n.n, .string n.x, .string n.d, .int .i64 n.c, .int .i64 n.s, .int .i64 n.e, .int .i64 n.t, .bool false, .slice ai n.l.length ci, .slice az n.z.length cz] 25
  have y1 := h.hn
  have y2 := h.hx
  have y3 := h.hd
  clear h
  have C0 := Lib.hid (fun W => rtxtS_any n.n 1 W (by omega))
  have z0 := textS_len n.n 1
  generalize textS n.n 1 = r0 at C0 z0 ⊢
  have C1 := Lib.hid (fun W => rnumS_any 0 1 W)
  have z1 := intS_len 0 1
  generalize intS 0 1 = r1 at C1 z1 ⊢
  have C2 := Lib.hid (fun W => rtxtS_any n.x 2 W (by omega))
  have z2 := textS_len n.x 2
  generalize textS n.x 2 = r2 at C2 z2 ⊢
  have mX := bx11 HX.out
  go_enter Tryz.func24, Tryz.ntmps24
  go_wp2_with fail
  generalize hV : (w.alloc (.cells #[.int .i64 28, .string n.n, .string n.x, .string n.d, .int .i64 n.c, .int .i64 n.s, .int .i64 n.e, .int .i64 n.t, .bool false, .slice ai n.l.length ci, .slice az n.z.length cz] 25)) = V at HX HB0 mX ⊢
  clear hV
  obtain ⟨x0, x1, x2, x3, x4, x5, x6, x7, x8, x9, x10⟩ := bx11x HX
  have X0 : Hid (Xc V 48 #[.string n.n, .int .i64 1] (.string r0)) := fun y => C0.out y.to
  have X1 : Hid (Xc V 46 #[.int .i64 0, .int .i64 1] (.string r1)) := fun y => C1.out y.to
  have X2 : Hid (Xc V 48 #[.string n.x, .int .i64 2] (.string r2)) := fun y => C2.out y.to
  have hsome := extSome V
  clear C0 C1 C2 HX mX
  refine ext_region (by kernel_rfl) (by kernel_rfl) ?_
  repeat (go_big_quiet_step ((first | (go_at_call 48; with_reducible exact ext_call _ (X0.out _)) | (go_at_call 46; with_reducible exact ext_call _ (X1.out _)) | (go_at_call 48; with_reducible exact ext_call _ (X2.out _)))))
  refine wpQuiet_nil ?_
  rintro _ ⟨y, hy⟩
  subst hy
  have HBf := trB HB0 y.below
  clear x0 x1 x2 x3 x4 x5 x6 x7 x8 x9 x10
  go_wp2_with fail
  go_ret
  exact ⟨rfl, HBf.out⟩
theorem rbody_4 (n : Nt) (ai az : Option Addr) (ci cz : Nat) (w : World) (h : NtL w ai az n) : Calls Tryz.prog 24 #[.agg #[.int .i64 4, .string n.n, .string n.x, .string n.d, .int .i64 n.c, .int .i64 n.s, .int .i64 n.e, .int .i64 n.t, .bool n.o, .slice ai n.l.length ci, .slice az n.z.length cz]] w (Gives (.string (⟨#[]⟩)) w) := by
  obtain ⟨HX, HB0⟩ := bxOne w #[.int .i64 4, .string n.n, .string n.x, .string n.d, .int .i64 n.c, .int .i64 n.s, .int .i64 n.e, .int .i64 n.t, .bool n.o, .slice ai n.l.length ci, .slice az n.z.length cz] 25
  have y1 := h.hn
  have y2 := h.hx
  have y3 := h.hd
  clear h
  have mX := bx11 HX.out
  go_enter Tryz.func24, Tryz.ntmps24
  go_wp2_with fail
  go_ret
  exact ⟨rfl, HB0.out⟩
theorem rbody_9 (n : Nt) (ai az : Option Addr) (ci cz : Nat) (w : World) (h : NtL w ai az n) : Calls Tryz.prog 24 #[.agg #[.int .i64 9, .string n.n, .string n.x, .string n.d, .int .i64 n.c, .int .i64 n.s, .int .i64 n.e, .int .i64 n.t, .bool n.o, .slice ai n.l.length ci, .slice az n.z.length cz]] w (Gives (.string (⟨#[]⟩)) w) := by
  obtain ⟨HX, HB0⟩ := bxOne w #[.int .i64 9, .string n.n, .string n.x, .string n.d, .int .i64 n.c, .int .i64 n.s, .int .i64 n.e, .int .i64 n.t, .bool n.o, .slice ai n.l.length ci, .slice az n.z.length cz] 25
  have y1 := h.hn
  have y2 := h.hx
  have y3 := h.hd
  clear h
  have mX := bx11 HX.out
  go_enter Tryz.func24, Tryz.ntmps24
  go_wp2_with fail
  go_ret
  exact ⟨rfl, HB0.out⟩
theorem rbody_10 (n : Nt) (ai az : Option Addr) (ci cz : Nat) (w : World) (h : NtL w ai az n) : Calls Tryz.prog 24 #[.agg #[.int .i64 10, .string n.n, .string n.x, .string n.d, .int .i64 n.c, .int .i64 n.s, .int .i64 n.e, .int .i64 n.t, .bool n.o, .slice ai n.l.length ci, .slice az n.z.length cz]] w (Gives (.string (⟨#[]⟩)) w) := by
  obtain ⟨HX, HB0⟩ := bxOne w #[.int .i64 10, .string n.n, .string n.x, .string n.d, .int .i64 n.c, .int .i64 n.s, .int .i64 n.e, .int .i64 n.t, .bool n.o, .slice ai n.l.length ci, .slice az n.z.length cz] 25
  have y1 := h.hn
  have y2 := h.hx
  have y3 := h.hd
  clear h
  have mX := bx11 HX.out
  go_enter Tryz.func24, Tryz.ntmps24
  go_wp2_with fail
  go_ret
  exact ⟨rfl, HB0.out⟩
theorem rbody_23 (n : Nt) (ai az : Option Addr) (ci cz : Nat) (w : World) (h : NtL w ai az n) : Calls Tryz.prog 24 #[.agg #[.int .i64 23, .string n.n, .string n.x, .string n.d, .int .i64 n.c, .int .i64 n.s, .int .i64 n.e, .int .i64 n.t, .bool n.o, .slice ai n.l.length ci, .slice az n.z.length cz]] w (Gives (.string (⟨#[]⟩)) w) := by
  obtain ⟨HX, HB0⟩ := bxOne w #[.int .i64 23, .string n.n, .string n.x, .string n.d, .int .i64 n.c, .int .i64 n.s, .int .i64 n.e, .int .i64 n.t, .bool n.o, .slice ai n.l.length ci, .slice az n.z.length cz] 25
  have y1 := h.hn
  have y2 := h.hx
  have y3 := h.hd
  clear h
  have mX := bx11 HX.out
  go_enter Tryz.func24, Tryz.ntmps24
  go_wp2_with fail
  go_ret
  exact ⟨rfl, HB0.out⟩
theorem rbody_24 (n : Nt) (ai az : Option Addr) (ci cz : Nat) (w : World) (h : NtL w ai az n) : Calls Tryz.prog 24 #[.agg #[.int .i64 24, .string n.n, .string n.x, .string n.d, .int .i64 n.c, .int .i64 n.s, .int .i64 n.e, .int .i64 n.t, .bool n.o, .slice ai n.l.length ci, .slice az n.z.length cz]] w (Gives (.string (⟨#[]⟩)) w) := by
  obtain ⟨HX, HB0⟩ := bxOne w #[.int .i64 24, .string n.n, .string n.x, .string n.d, .int .i64 n.c, .int .i64 n.s, .int .i64 n.e, .int .i64 n.t, .bool n.o, .slice ai n.l.length ci, .slice az n.z.length cz] 25
  have y1 := h.hn
  have y2 := h.hx
  have y3 := h.hd
  clear h
  have mX := bx11 HX.out
  go_enter Tryz.func24, Tryz.ntmps24
  go_wp2_with fail
  go_ret
  exact ⟨rfl, HB0.out⟩
theorem rbody_3z (n : Nt) (ai az : Option Addr) (ci cz : Nat) (w : World) (h : NtL w ai az n) : Calls Tryz.prog 24 #[.agg #[.int .i64 3, .string n.n, .string n.x, .string n.d, .int .i64 0, .int .i64 n.s, .int .i64 n.e, .int .i64 n.t, .bool n.o, .slice ai n.l.length ci, .slice az n.z.length cz]] w (Gives (.string (⟨#[]⟩)) w) := by
  obtain ⟨HX, HB0⟩ := bxOne w #[.int .i64 3, .string n.n, .string n.x, .string n.d, .int .i64 0, .int .i64 n.s, .int .i64 n.e, .int .i64 n.t, .bool n.o, .slice ai n.l.length ci, .slice az n.z.length cz] 25
  have y1 := h.hn
  have y2 := h.hx
  have y3 := h.hd
  clear h
  have mX := bx11 HX.out
  go_enter Tryz.func24, Tryz.ntmps24
  go_wp2_with fail
  go_ret
  exact ⟨rfl, HB0.out⟩
theorem rbody_16 (n : Nt) (ai az : Option Addr) (ci cz : Nat) (w : World) (h : NtL w ai az n) : Calls Tryz.prog 24 #[.agg #[.int .i64 16, .string n.n, .string n.x, .string n.d, .int .i64 n.c, .int .i64 n.s, .int .i64 n.e, .int .i64 n.t, .bool n.o, .slice ai n.l.length ci, .slice az n.z.length cz]] w (Gives (.string (n.d ++ textS n.n 1 ++ putS [⟨2, n.x⟩])) w) := by
  obtain ⟨HX, HB0⟩ := bxOne w #[.int .i64 16, .string n.n, .string n.x, .string n.d, .int .i64 n.c, .int .i64 n.s, .int .i64 n.e, .int .i64 n.t, .bool n.o, .slice ai n.l.length ci, .slice az n.z.length cz] 25
  have y1 := h.hn
  have y2 := h.hx
  have y3 := h.hd
  clear h
  have C0 := Lib.hid (fun W => rtxtS_any n.n 1 W (by omega))
  have z0 := textS_len n.n 1
  generalize textS n.n 1 = r0 at C0 z0 ⊢
  have C1 := Lib.hid (fun W => rvalS_any 2 n.x W (by omega))
  have z1 := put1_len 2 n.x
  generalize putS [⟨2, n.x⟩] = r1 at C1 z1 ⊢
  have mX := bx11 HX.out
  go_enter Tryz.func24, Tryz.ntmps24
  go_wp2_with fail
  generalize hV : (w.alloc (.cells #[.int .i64 16, .string n.n, .string n.x, .string n.d, .int .i64 n.c, .int .i64 n.s, .int .i64 n.e, .int .i64 n.t, .bool n.o, .slice ai n.l.length ci, .slice az n.z.length cz] 25)) = V at HX HB0 mX ⊢
  clear hV
  obtain ⟨x0, x1, x2, x3, x4, x5, x6, x7, x8, x9, x10⟩ := bx11x HX
  have X0 : Hid (Xc V 48 #[.string n.n, .int .i64 1] (.string r0)) := fun y => C0.out y.to
  have X1 : Hid (Xc V 47 #[.int .i64 2, .string n.x] (.string r1)) := fun y => C1.out y.to
  have hsome := extSome V
  clear C0 C1 HX mX
  refine ext_region (by kernel_rfl) (by kernel_rfl) ?_
  repeat (go_big_quiet_step ((first | (go_at_call 48; with_reducible exact ext_call _ (X0.out _)) | (go_at_call 47; with_reducible exact ext_call _ (X1.out _)))))
  refine wpQuiet_nil ?_
  rintro _ ⟨y, hy⟩
  subst hy
  have HBf := trB HB0 y.below
  clear x0 x1 x2 x3 x4 x5 x6 x7 x8 x9 x10
  go_wp2_with fail
  go_ret
  exact ⟨rfl, HBf.out⟩
theorem rbody_19 (n : Nt) (ai az : Option Addr) (ci cz : Nat) (w : World) (h : NtL w ai az n) : Calls Tryz.prog 24 #[.agg #[.int .i64 19, .string n.n, .string n.x, .string n.d, .int .i64 n.c, .int .i64 n.s, .int .i64 n.e, .int .i64 n.t, .bool n.o, .slice ai n.l.length ci, .slice az n.z.length cz]] w (Gives (.string (intS n.t 4 ++ intS n.c 2)) w) := by
  obtain ⟨HX, HB0⟩ := bxOne w #[.int .i64 19, .string n.n, .string n.x, .string n.d, .int .i64 n.c, .int .i64 n.s, .int .i64 n.e, .int .i64 n.t, .bool n.o, .slice ai n.l.length ci, .slice az n.z.length cz] 25
  have y1 := h.hn
  have y2 := h.hx
  have y3 := h.hd
  clear h
  have C0 := Lib.hid (fun W => rnumS_any n.t 4 W)
  have z0 := intS_len n.t 4
  generalize intS n.t 4 = r0 at C0 z0 ⊢
  have C1 := Lib.hid (fun W => rnumS_any n.c 2 W)
  have z1 := intS_len n.c 2
  generalize intS n.c 2 = r1 at C1 z1 ⊢
  have mX := bx11 HX.out
  go_enter Tryz.func24, Tryz.ntmps24
  go_wp2_with fail
  generalize hV : (w.alloc (.cells #[.int .i64 19, .string n.n, .string n.x, .string n.d, .int .i64 n.c, .int .i64 n.s, .int .i64 n.e, .int .i64 n.t, .bool n.o, .slice ai n.l.length ci, .slice az n.z.length cz] 25)) = V at HX HB0 mX ⊢
  clear hV
  obtain ⟨x0, x1, x2, x3, x4, x5, x6, x7, x8, x9, x10⟩ := bx11x HX
  have X0 : Hid (Xc V 46 #[.int .i64 n.t, .int .i64 4] (.string r0)) := fun y => C0.out y.to
  have X1 : Hid (Xc V 46 #[.int .i64 n.c, .int .i64 2] (.string r1)) := fun y => C1.out y.to
  have hsome := extSome V
  clear C0 C1 HX mX
  refine ext_region (by kernel_rfl) (by kernel_rfl) ?_
  repeat (go_big_quiet_step ((first | (go_at_call 46; with_reducible exact ext_call _ (X0.out _)) | (go_at_call 46; with_reducible exact ext_call _ (X1.out _)))))
  refine wpQuiet_nil ?_
  rintro _ ⟨y, hy⟩
  subst hy
  have HBf := trB HB0 y.below
  clear x0 x1 x2 x3 x4 x5 x6 x7 x8 x9 x10
  go_wp2_with fail
  go_ret
  exact ⟨rfl, HBf.out⟩
theorem rbody_27 (n : Nt) (ai az : Option Addr) (ci cz : Nat) (w : World) (h : NtL w ai az n) : Calls Tryz.prog 24 #[.agg #[.int .i64 27, .string n.n, .string n.x, .string n.d, .int .i64 n.c, .int .i64 n.s, .int .i64 n.e, .int .i64 n.t, .bool n.o, .slice ai n.l.length ci, .slice az n.z.length cz]] w (Gives (.string (textS n.n 1 ++ textS n.x 2)) w) := by
  obtain ⟨HX, HB0⟩ := bxOne w #[.int .i64 27, .string n.n, .string n.x, .string n.d, .int .i64 n.c, .int .i64 n.s, .int .i64 n.e, .int .i64 n.t, .bool n.o, .slice ai n.l.length ci, .slice az n.z.length cz] 25
  have y1 := h.hn
  have y2 := h.hx
  have y3 := h.hd
  clear h
  have C0 := Lib.hid (fun W => rtxtS_any n.n 1 W (by omega))
  have z0 := textS_len n.n 1
  generalize textS n.n 1 = r0 at C0 z0 ⊢
  have C1 := Lib.hid (fun W => rtxtS_any n.x 2 W (by omega))
  have z1 := textS_len n.x 2
  generalize textS n.x 2 = r1 at C1 z1 ⊢
  have mX := bx11 HX.out
  go_enter Tryz.func24, Tryz.ntmps24
  go_wp2_with fail
  generalize hV : (w.alloc (.cells #[.int .i64 27, .string n.n, .string n.x, .string n.d, .int .i64 n.c, .int .i64 n.s, .int .i64 n.e, .int .i64 n.t, .bool n.o, .slice ai n.l.length ci, .slice az n.z.length cz] 25)) = V at HX HB0 mX ⊢
  clear hV
  obtain ⟨x0, x1, x2, x3, x4, x5, x6, x7, x8, x9, x10⟩ := bx11x HX
  have X0 : Hid (Xc V 48 #[.string n.n, .int .i64 1] (.string r0)) := fun y => C0.out y.to
  have X1 : Hid (Xc V 48 #[.string n.x, .int .i64 2] (.string r1)) := fun y => C1.out y.to
  have hsome := extSome V
  clear C0 C1 HX mX
  refine ext_region (by kernel_rfl) (by kernel_rfl) ?_
  repeat (go_big_quiet_step ((first | (go_at_call 48; with_reducible exact ext_call _ (X0.out _)) | (go_at_call 48; with_reducible exact ext_call _ (X1.out _)))))
  refine wpQuiet_nil ?_
  rintro _ ⟨y, hy⟩
  subst hy
  have HBf := trB HB0 y.below
  clear x0 x1 x2 x3 x4 x5 x6 x7 x8 x9 x10
  go_wp2_with fail
  go_ret
  exact ⟨rfl, HBf.out⟩
theorem rbody_29t (n : Nt) (ai az : Option Addr) (ci cz : Nat) (w : World) (h : NtL w ai az n) : Calls Tryz.prog 24 #[.agg #[.int .i64 29, .string n.n, .string n.x, .string n.d, .int .i64 n.c, .int .i64 n.s, .int .i64 n.e, .int .i64 n.t, .bool true, .slice ai n.l.length ci, .slice az n.z.length cz]] w (Gives (.string (textS n.n 1 ++ intS 1 1 ++ textS n.x 2)) w) := by
  obtain ⟨HX, HB0⟩ := bxOne w #[.int .i64 29, .string n.n, .string n.x, .string n.d, .int .i64 n.c, .int .i64 n.s, .int .i64 n.e, .int .i64 n.t, .bool true, .slice ai n.l.length ci, .slice az n.z.length cz] 25
  have y1 := h.hn
  have y2 := h.hx
  have y3 := h.hd
  clear h
  have C0 := Lib.hid (fun W => rtxtS_any n.n 1 W (by omega))
  have z0 := textS_len n.n 1
  generalize textS n.n 1 = r0 at C0 z0 ⊢
  have C1 := Lib.hid (fun W => rnumS_any 1 1 W)
  have z1 := intS_len 1 1
  generalize intS 1 1 = r1 at C1 z1 ⊢
  have C2 := Lib.hid (fun W => rtxtS_any n.x 2 W (by omega))
  have z2 := textS_len n.x 2
  generalize textS n.x 2 = r2 at C2 z2 ⊢
  have mX := bx11 HX.out
  go_enter Tryz.func24, Tryz.ntmps24
  go_wp2_with fail
  generalize hV : (w.alloc (.cells #[.int .i64 29, .string n.n, .string n.x, .string n.d, .int .i64 n.c, .int .i64 n.s, .int .i64 n.e, .int .i64 n.t, .bool true, .slice ai n.l.length ci, .slice az n.z.length cz] 25)) = V at HX HB0 mX ⊢
  clear hV
  obtain ⟨x0, x1, x2, x3, x4, x5, x6, x7, x8, x9, x10⟩ := bx11x HX
  have X0 : Hid (Xc V 48 #[.string n.n, .int .i64 1] (.string r0)) := fun y => C0.out y.to
  have X1 : Hid (Xc V 46 #[.int .i64 1, .int .i64 1] (.string r1)) := fun y => C1.out y.to
  have X2 : Hid (Xc V 48 #[.string n.x, .int .i64 2] (.string r2)) := fun y => C2.out y.to
  have hsome := extSome V
  clear C0 C1 C2 HX mX
  refine ext_region (by kernel_rfl) (by kernel_rfl) ?_
  repeat (go_big_quiet_step ((first | (go_at_call 48; with_reducible exact ext_call _ (X0.out _)) | (go_at_call 46; with_reducible exact ext_call _ (X1.out _)) | (go_at_call 48; with_reducible exact ext_call _ (X2.out _)))))
  refine wpQuiet_nil ?_
  rintro _ ⟨y, hy⟩
  subst hy
  have HBf := trB HB0 y.below
  clear x0 x1 x2 x3 x4 x5 x6 x7 x8 x9 x10
  go_wp2_with fail
  go_ret
  exact ⟨rfl, HBf.out⟩
theorem rbody_29f (n : Nt) (ai az : Option Addr) (ci cz : Nat) (w : World) (h : NtL w ai az n) : Calls Tryz.prog 24 #[.agg #[.int .i64 29, .string n.n, .string n.x, .string n.d, .int .i64 n.c, .int .i64 n.s, .int .i64 n.e, .int .i64 n.t, .bool false, .slice ai n.l.length ci, .slice az n.z.length cz]] w (Gives (.string (textS n.n 1 ++ intS 0 1 ++ textS n.x 2)) w) := by
  obtain ⟨HX, HB0⟩ := bxOne w #[.int .i64 29, .string n.n, .string n.x, .string n.d, .int .i64 n.c, .int .i64 n.s, .int .i64 n.e, .int .i64 n.t, .bool false, .slice ai n.l.length ci, .slice az n.z.length cz] 25
  have y1 := h.hn
  have y2 := h.hx
  have y3 := h.hd
  clear h
  have C0 := Lib.hid (fun W => rtxtS_any n.n 1 W (by omega))
  have z0 := textS_len n.n 1
  generalize textS n.n 1 = r0 at C0 z0 ⊢
  have C1 := Lib.hid (fun W => rnumS_any 0 1 W)
  have z1 := intS_len 0 1
  generalize intS 0 1 = r1 at C1 z1 ⊢
  have C2 := Lib.hid (fun W => rtxtS_any n.x 2 W (by omega))
  have z2 := textS_len n.x 2
  generalize textS n.x 2 = r2 at C2 z2 ⊢
  have mX := bx11 HX.out
  go_enter Tryz.func24, Tryz.ntmps24
  go_wp2_with fail
  generalize hV : (w.alloc (.cells #[.int .i64 29, .string n.n, .string n.x, .string n.d, .int .i64 n.c, .int .i64 n.s, .int .i64 n.e, .int .i64 n.t, .bool false, .slice ai n.l.length ci, .slice az n.z.length cz] 25)) = V at HX HB0 mX ⊢
  clear hV
  obtain ⟨x0, x1, x2, x3, x4, x5, x6, x7, x8, x9, x10⟩ := bx11x HX
  have X0 : Hid (Xc V 48 #[.string n.n, .int .i64 1] (.string r0)) := fun y => C0.out y.to
  have X1 : Hid (Xc V 46 #[.int .i64 0, .int .i64 1] (.string r1)) := fun y => C1.out y.to
  have X2 : Hid (Xc V 48 #[.string n.x, .int .i64 2] (.string r2)) := fun y => C2.out y.to
  have hsome := extSome V
  clear C0 C1 C2 HX mX
  refine ext_region (by kernel_rfl) (by kernel_rfl) ?_
  repeat (go_big_quiet_step ((first | (go_at_call 48; with_reducible exact ext_call _ (X0.out _)) | (go_at_call 46; with_reducible exact ext_call _ (X1.out _)) | (go_at_call 48; with_reducible exact ext_call _ (X2.out _)))))
  refine wpQuiet_nil ?_
  rintro _ ⟨y, hy⟩
  subst hy
  have HBf := trB HB0 y.below
  clear x0 x1 x2 x3 x4 x5 x6 x7 x8 x9 x10
  go_wp2_with fail
  go_ret
  exact ⟨rfl, HBf.out⟩
end Go.Proofs.YtiodjaeonoheiaaGreatDoor.T
