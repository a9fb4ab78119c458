/- Contracts: the document's num, txt, value, Item, Place, Class. Conditions: those of each theorem's head. -/
import Derived.Test.YtiodjaeonoheiaaGreatDoorZv
set_option maxRecDepth 100000
set_option maxHeartbeats 8000000
namespace Go.Proofs.YtiodjaeonoheiaaGreatDoor.T
open Go.RowKit Go.Lib
theorem rnumS_any (x width : Int) (w : World) : Calls Tryz.prog 46 #[.int .i64 x, .int .i64 width] w (Gives (.string (intS x width)) w) := by
  have C := Lib.hid (rint_any x width w)
  go_enter Tryz.func46, Tryz.ntmps46
  go_wp2_with fail
  refine C.out.mono ?_
  rintro e w1 ⟨rfl, hb⟩
  have HB := Lib.hid hb
  clear hb
  go_wp2_with fail
  go_ret
  exact ⟨rfl, HB.out⟩
theorem rtxtS_any (s : ByteArray) (width : Int) (w : World) (hs : s.size ≤ 140737488351232) : Calls Tryz.prog 48 #[.string s, .int .i64 width] w (Gives (.string (textS s width)) w) := by
  have C := Lib.hid (rtext_any s width w hs)
  clear hs
  go_enter Tryz.func48, Tryz.ntmps48
  go_wp2_with fail
  refine C.out.mono ?_
  rintro e w1 ⟨rfl, hb⟩
  have HB := Lib.hid hb
  clear hb
  go_wp2_with fail
  go_ret
  exact ⟨rfl, HB.out⟩
theorem rtput_one (k : Int) (s : ByteArray) (hs : s.size ≤ 140737488351232) (b : Nat) (t : TypeId) (c : Nat) (W : World) (h : W.heap[b]? = some (.cells #[.int .i64 k, .string s] t (0, 0))) :
    Calls Tryz.prog 84 #[.slice (some ⟨b, 0, none⟩) 1 c] W (Gives (.tuple #[.string (putS [⟨k, s⟩]), .int .i64 (putE [⟨k, s⟩])]) W) :=
  rput_any [⟨k, s⟩] _ c W (tvS_one W k s b t h) (by simp) (fun t ht => by
    rw [List.mem_singleton] at ht
    subst ht
    exact hs)
theorem rvalS_any (k : Int) (s : ByteArray) (w : World) (hs : s.size ≤ 140737488351232) : Calls Tryz.prog 47 #[.int .i64 k, .string s] w (Gives (.string (putS [⟨k, s⟩])) w) := by
  obtain ⟨HX, HB0⟩ := bxOne w #[.int .i64 k, .string s] 128
  have C := Lib.hid (rtput_one k s hs _ _ 1 _ HX.out)
  clear hs
  go_enter Tryz.func47, Tryz.ntmps47
  go_wp2_with fail
  refine C.out.mono ?_
  rintro e w1 ⟨rfl, hb⟩
  have HB := trB HB0 hb
  clear hb
  go_wp2_with fail
  go_ret
  exact ⟨rfl, HB.out⟩
theorem ritemS_00 (n : ByteArray) (g i t : Int) (w : World) (hn : n.size ≤ 1000000) (hm : ((⟨#[]⟩ : ByteArray)).size ≤ 140737488000000) : Calls Tryz.prog 49 #[.agg #[.string n, .int .i64 g, .int .i64 i, .int .i64 t, .string ⟨#[]⟩, .bool false]] w (Gives (.string (textS n 2 ++ intS g 2 ++ intS i 2 ++ intS t 2 ++ textS ((⟨#[]⟩ : ByteArray)) 2)) w) := by
  obtain ⟨HX, HB0⟩ := bxOne w #[.string n, .int .i64 g, .int .i64 i, .int .i64 t, .string ⟨#[]⟩, .bool false] 45
  have CT := Lib.hid (fun W => rtxtS_any n 2 W (by omega))
  have CG := Lib.hid (fun W => rnumS_any g 2 W)
  have CI := Lib.hid (fun W => rnumS_any i 2 W)
  have CK := Lib.hid (fun W => rnumS_any t 2 W)
  have CM := Lib.hid (fun W => rtxtS_any ((⟨#[]⟩ : ByteArray)) 2 W (by omega))
  have z0 := textS_len n 2
  have z1 := intS_len g 2
  have z2 := intS_len i 2
  have z3 := intS_len t 2
  have z4 := textS_len ((⟨#[]⟩ : ByteArray)) 2
  generalize textS n 2 = r0 at CT z0 ⊢
  generalize intS g 2 = r1 at CG z1 ⊢
  generalize intS i 2 = r2 at CI z2 ⊢
  generalize intS t 2 = r3 at CK z3 ⊢
  generalize textS ((⟨#[]⟩ : ByteArray)) 2 = r4 at CM z4 ⊢
  obtain ⟨c0, c1, c2, c3, c4, c5⟩ := bx6 HX.out
  go_enter Tryz.func49, Tryz.ntmps49
  go_wp2_with fail
  generalize hV : (w.alloc (.cells #[.string n, .int .i64 g, .int .i64 i, .int .i64 t, .string ⟨#[]⟩, .bool false] 45)) = V at HX HB0 c0 c1 c2 c3 c4 c5 ⊢
  clear hV
  have x0 : ∀ y : Ext V, y.to.cell? _ = _ := fun y => ext_cell y c0
  have x1 : ∀ y : Ext V, y.to.cell? _ = _ := fun y => ext_cell y c1
  have x2 : ∀ y : Ext V, y.to.cell? _ = _ := fun y => ext_cell y c2
  have x3 : ∀ y : Ext V, y.to.cell? _ = _ := fun y => ext_cell y c3
  have x4 : ∀ y : Ext V, y.to.cell? _ = _ := fun y => ext_cell y c4
  have x5 : ∀ y : Ext V, y.to.cell? _ = _ := fun y => ext_cell y c5
  have X0 : Hid (Xc V 48 #[.string n, .int .i64 2] (.string r0)) := fun y => CT.out y.to
  have X1 : Hid (Xc V 46 #[.int .i64 g, .int .i64 2] (.string r1)) := fun y => CG.out y.to
  have X2 : Hid (Xc V 46 #[.int .i64 i, .int .i64 2] (.string r2)) := fun y => CI.out y.to
  have X3 : Hid (Xc V 46 #[.int .i64 t, .int .i64 2] (.string r3)) := fun y => CK.out y.to
  have X4 : Hid (Xc V 48 #[.string (⟨#[]⟩), .int .i64 2] (.string r4)) := fun y => CM.out y.to
  have hsome := extSome V
  clear CT CG CI CK CM HX c0 c1 c2 c3 c4 c5
  refine ext_region (by kernel_rfl) (by kernel_rfl) ?_
  repeat (go_big_quiet_step ((first | (go_at_call 48; with_reducible exact ext_call _ (X0.out _)) | (go_at_call 48; with_reducible exact ext_call _ (X4.out _)) | (go_at_call 46; with_reducible exact ext_call _ (X1.out _)) | (go_at_call 46; with_reducible exact ext_call _ (X2.out _)) | (go_at_call 46; with_reducible exact ext_call _ (X3.out _)))))
  refine wpQuiet_nil ?_
  rintro _ ⟨y, hy⟩
  subst hy
  have HBf := trB HB0 y.below
  clear x0 x1 x2 x3 x4 x5
  go_wp2_with fail
  go_ret
  exact ⟨rfl, HBf.out⟩
theorem ritemS_01 (n : ByteArray) (g i t : Int) (w : World) (hn : n.size ≤ 1000000) (hm : ((⟨#[]⟩ : ByteArray) ++ putS [⟨102, ⟨#[]⟩⟩]).size ≤ 140737488000000) : Calls Tryz.prog 49 #[.agg #[.string n, .int .i64 g, .int .i64 i, .int .i64 t, .string ⟨#[]⟩, .bool true]] w (Gives (.string (textS n 2 ++ intS g 2 ++ intS i 2 ++ intS t 2 ++ textS ((⟨#[]⟩ : ByteArray) ++ putS [⟨102, ⟨#[]⟩⟩]) 2)) w) := by
  obtain ⟨HX, HB0⟩ := bxOne w #[.string n, .int .i64 g, .int .i64 i, .int .i64 t, .string ⟨#[]⟩, .bool true] 45
  have CW := Lib.hid (fun W => rvalS_any 102 ⟨#[]⟩ W (by decide))
  have CT := Lib.hid (fun W => rtxtS_any n 2 W (by omega))
  have CG := Lib.hid (fun W => rnumS_any g 2 W)
  have CI := Lib.hid (fun W => rnumS_any i 2 W)
  have CK := Lib.hid (fun W => rnumS_any t 2 W)
  have CM := Lib.hid (fun W => rtxtS_any ((⟨#[]⟩ : ByteArray) ++ putS [⟨102, ⟨#[]⟩⟩]) 2 W (by omega))
  have z0 := textS_len n 2
  have z1 := intS_len g 2
  have z2 := intS_len i 2
  have z3 := intS_len t 2
  have z4 := textS_len ((⟨#[]⟩ : ByteArray) ++ putS [⟨102, ⟨#[]⟩⟩]) 2
  have z6 : (putS [⟨102, ⟨#[]⟩⟩]).size ≤ 4 := by
    have := l_val 102 ⟨#[]⟩
    unfold valL at this
    rwa [By.len_size] at this
  generalize textS n 2 = r0 at CT z0 ⊢
  generalize intS g 2 = r1 at CG z1 ⊢
  generalize intS i 2 = r2 at CI z2 ⊢
  generalize intS t 2 = r3 at CK z3 ⊢
  generalize textS ((⟨#[]⟩ : ByteArray) ++ putS [⟨102, ⟨#[]⟩⟩]) 2 = r4 at CM z4 ⊢
  generalize putS [⟨102, ⟨#[]⟩⟩] = p1 at CW CM z6 z4 hm
  obtain ⟨c0, c1, c2, c3, c4, c5⟩ := bx6 HX.out
  go_enter Tryz.func49, Tryz.ntmps49
  go_wp2_with fail
  refine (CW.out _).mono ?_
  rintro e w1 ⟨rfl, hb⟩
  clear c0 c1 c2 c3 c4 c5
  replace HX := kpB hb HX
  have HB1 := trB HB0 hb
  clear hb
  obtain ⟨c0, c1, c2, c3, c4, c5⟩ := bx6 HX.out
  go_wp2_with fail
  clear CW
  have x0 : ∀ y : Ext w1, y.to.cell? _ = _ := fun y => ext_cell y c0
  have x1 : ∀ y : Ext w1, y.to.cell? _ = _ := fun y => ext_cell y c1
  have x2 : ∀ y : Ext w1, y.to.cell? _ = _ := fun y => ext_cell y c2
  have x3 : ∀ y : Ext w1, y.to.cell? _ = _ := fun y => ext_cell y c3
  have x4 : ∀ y : Ext w1, y.to.cell? _ = _ := fun y => ext_cell y c4
  have x5 : ∀ y : Ext w1, y.to.cell? _ = _ := fun y => ext_cell y c5
  have X0 : Hid (Xc w1 48 #[.string n, .int .i64 2] (.string r0)) := fun y => CT.out y.to
  have X1 : Hid (Xc w1 46 #[.int .i64 g, .int .i64 2] (.string r1)) := fun y => CG.out y.to
  have X2 : Hid (Xc w1 46 #[.int .i64 i, .int .i64 2] (.string r2)) := fun y => CI.out y.to
  have X3 : Hid (Xc w1 46 #[.int .i64 t, .int .i64 2] (.string r3)) := fun y => CK.out y.to
  have X4 : Hid (Xc w1 48 #[.string (⟨#[]⟩ ++ p1), .int .i64 2] (.string r4)) := fun y => CM.out y.to
  have hsome := extSome w1
  clear CT CG CI CK CM HX c0 c1 c2 c3 c4 c5
  refine ext_region (by kernel_rfl) (by kernel_rfl) ?_
  repeat (go_big_quiet_step ((first | (go_at_call 48; with_reducible exact ext_call _ (X0.out _)) | (go_at_call 48; with_reducible exact ext_call _ (X4.out _)) | (go_at_call 46; with_reducible exact ext_call _ (X1.out _)) | (go_at_call 46; with_reducible exact ext_call _ (X2.out _)) | (go_at_call 46; with_reducible exact ext_call _ (X3.out _)))))
  refine wpQuiet_nil ?_
  rintro _ ⟨y, hy⟩
  subst hy
  have HBf := trB HB1 y.below
  clear x0 x1 x2 x3 x4 x5
  go_wp2_with fail
  go_ret
  exact ⟨rfl, HBf.out⟩
theorem ritemS_10 (n : ByteArray) (a : ByteArray) (g i t : Int) (w : World) (hn : n.size ≤ 1000000) (ha : a.size ≤ 1000000) (h0 : ¬ a.size = 0) (hm : (putS [⟨305, a⟩]).size ≤ 140737488000000) : Calls Tryz.prog 49 #[.agg #[.string n, .int .i64 g, .int .i64 i, .int .i64 t, .string a, .bool false]] w (Gives (.string (textS n 2 ++ intS g 2 ++ intS i 2 ++ intS t 2 ++ textS (putS [⟨305, a⟩]) 2)) w) := by
  obtain ⟨HX, HB0⟩ := bxOne w #[.string n, .int .i64 g, .int .i64 i, .int .i64 t, .string a, .bool false] 45
  have hne := By.nonempty h0
  have CA := Lib.hid (fun W => rvalS_any 305 a W (by omega))
  have CT := Lib.hid (fun W => rtxtS_any n 2 W (by omega))
  have CG := Lib.hid (fun W => rnumS_any g 2 W)
  have CI := Lib.hid (fun W => rnumS_any i 2 W)
  have CK := Lib.hid (fun W => rnumS_any t 2 W)
  have CM := Lib.hid (fun W => rtxtS_any (putS [⟨305, a⟩]) 2 W (by omega))
  have z0 := textS_len n 2
  have z1 := intS_len g 2
  have z2 := intS_len i 2
  have z3 := intS_len t 2
  have z4 := textS_len (putS [⟨305, a⟩]) 2
  have z5 : (putS [⟨305, a⟩]).size ≤ a.size + 4 := by
    have := l_val 305 a
    unfold valL at this
    rwa [By.len_size] at this
  clear h0
  generalize textS n 2 = r0 at CT z0 ⊢
  generalize intS g 2 = r1 at CG z1 ⊢
  generalize intS i 2 = r2 at CI z2 ⊢
  generalize intS t 2 = r3 at CK z3 ⊢
  generalize textS (putS [⟨305, a⟩]) 2 = r4 at CM z4 ⊢
  generalize putS [⟨305, a⟩] = p0 at CA CM z5 z4 hm
  obtain ⟨c0, c1, c2, c3, c4, c5⟩ := bx6 HX.out
  go_enter Tryz.func49, Tryz.ntmps49
  go_wp2_with fail
  refine (CA.out _).mono ?_
  rintro e w1 ⟨rfl, hb⟩
  clear c0 c1 c2 c3 c4 c5
  replace HX := kpB hb HX
  have HB1 := trB HB0 hb
  clear hb
  obtain ⟨c0, c1, c2, c3, c4, c5⟩ := bx6 HX.out
  go_wp2_with fail
  clear CA hne
  have x0 : ∀ y : Ext w1, y.to.cell? _ = _ := fun y => ext_cell y c0
  have x1 : ∀ y : Ext w1, y.to.cell? _ = _ := fun y => ext_cell y c1
  have x2 : ∀ y : Ext w1, y.to.cell? _ = _ := fun y => ext_cell y c2
  have x3 : ∀ y : Ext w1, y.to.cell? _ = _ := fun y => ext_cell y c3
  have x4 : ∀ y : Ext w1, y.to.cell? _ = _ := fun y => ext_cell y c4
  have x5 : ∀ y : Ext w1, y.to.cell? _ = _ := fun y => ext_cell y c5
  have X0 : Hid (Xc w1 48 #[.string n, .int .i64 2] (.string r0)) := fun y => CT.out y.to
  have X1 : Hid (Xc w1 46 #[.int .i64 g, .int .i64 2] (.string r1)) := fun y => CG.out y.to
  have X2 : Hid (Xc w1 46 #[.int .i64 i, .int .i64 2] (.string r2)) := fun y => CI.out y.to
  have X3 : Hid (Xc w1 46 #[.int .i64 t, .int .i64 2] (.string r3)) := fun y => CK.out y.to
  have X4 : Hid (Xc w1 48 #[.string (p0), .int .i64 2] (.string r4)) := fun y => CM.out y.to
  have hsome := extSome w1
  clear CT CG CI CK CM HX c0 c1 c2 c3 c4 c5
  refine ext_region (by kernel_rfl) (by kernel_rfl) ?_
  repeat (go_big_quiet_step ((first | (go_at_call 48; with_reducible exact ext_call _ (X0.out _)) | (go_at_call 48; with_reducible exact ext_call _ (X4.out _)) | (go_at_call 46; with_reducible exact ext_call _ (X1.out _)) | (go_at_call 46; with_reducible exact ext_call _ (X2.out _)) | (go_at_call 46; with_reducible exact ext_call _ (X3.out _)))))
  refine wpQuiet_nil ?_
  rintro _ ⟨y, hy⟩
  subst hy
  have HBf := trB HB1 y.below
  clear x0 x1 x2 x3 x4 x5
  go_wp2_with fail
  go_ret
  exact ⟨rfl, HBf.out⟩
theorem ritemS_11 (n : ByteArray) (a : ByteArray) (g i t : Int) (w : World) (hn : n.size ≤ 1000000) (ha : a.size ≤ 1000000) (h0 : ¬ a.size = 0) (hm : (putS [⟨305, a⟩] ++ putS [⟨102, ⟨#[]⟩⟩]).size ≤ 140737488000000) : Calls Tryz.prog 49 #[.agg #[.string n, .int .i64 g, .int .i64 i, .int .i64 t, .string a, .bool true]] w (Gives (.string (textS n 2 ++ intS g 2 ++ intS i 2 ++ intS t 2 ++ textS (putS [⟨305, a⟩] ++ putS [⟨102, ⟨#[]⟩⟩]) 2)) w) := by
  obtain ⟨HX, HB0⟩ := bxOne w #[.string n, .int .i64 g, .int .i64 i, .int .i64 t, .string a, .bool true] 45
  have hne := By.nonempty h0
  have CA := Lib.hid (fun W => rvalS_any 305 a W (by omega))
  have CW := Lib.hid (fun W => rvalS_any 102 ⟨#[]⟩ W (by decide))
  have CT := Lib.hid (fun W => rtxtS_any n 2 W (by omega))
  have CG := Lib.hid (fun W => rnumS_any g 2 W)
  have CI := Lib.hid (fun W => rnumS_any i 2 W)
  have CK := Lib.hid (fun W => rnumS_any t 2 W)
  have CM := Lib.hid (fun W => rtxtS_any (putS [⟨305, a⟩] ++ putS [⟨102, ⟨#[]⟩⟩]) 2 W (by omega))
  have z0 := textS_len n 2
  have z1 := intS_len g 2
  have z2 := intS_len i 2
  have z3 := intS_len t 2
  have z4 := textS_len (putS [⟨305, a⟩] ++ putS [⟨102, ⟨#[]⟩⟩]) 2
  have z5 : (putS [⟨305, a⟩]).size ≤ a.size + 4 := by
    have := l_val 305 a
    unfold valL at this
    rwa [By.len_size] at this
  have z6 : (putS [⟨102, ⟨#[]⟩⟩]).size ≤ 4 := by
    have := l_val 102 ⟨#[]⟩
    unfold valL at this
    rwa [By.len_size] at this
  clear h0
  generalize textS n 2 = r0 at CT z0 ⊢
  generalize intS g 2 = r1 at CG z1 ⊢
  generalize intS i 2 = r2 at CI z2 ⊢
  generalize intS t 2 = r3 at CK z3 ⊢
  generalize textS (putS [⟨305, a⟩] ++ putS [⟨102, ⟨#[]⟩⟩]) 2 = r4 at CM z4 ⊢
  generalize putS [⟨305, a⟩] = p0 at CA CM z5 z4 hm
  generalize putS [⟨102, ⟨#[]⟩⟩] = p1 at CW CM z6 z4 hm
  obtain ⟨c0, c1, c2, c3, c4, c5⟩ := bx6 HX.out
  go_enter Tryz.func49, Tryz.ntmps49
  go_wp2_with fail
  refine (CA.out _).mono ?_
  rintro e w1 ⟨rfl, hb⟩
  clear c0 c1 c2 c3 c4 c5
  replace HX := kpB hb HX
  have HB1 := trB HB0 hb
  clear hb
  obtain ⟨c0, c1, c2, c3, c4, c5⟩ := bx6 HX.out
  go_wp2_with fail
  clear CA hne
  refine (CW.out _).mono ?_
  rintro e w2 ⟨rfl, hb⟩
  clear c0 c1 c2 c3 c4 c5
  replace HX := kpB hb HX
  have HB2 := trB HB1 hb
  clear hb
  obtain ⟨c0, c1, c2, c3, c4, c5⟩ := bx6 HX.out
  go_wp2_with fail
  clear CW
  have x0 : ∀ y : Ext w2, y.to.cell? _ = _ := fun y => ext_cell y c0
  have x1 : ∀ y : Ext w2, y.to.cell? _ = _ := fun y => ext_cell y c1
  have x2 : ∀ y : Ext w2, y.to.cell? _ = _ := fun y => ext_cell y c2
  have x3 : ∀ y : Ext w2, y.to.cell? _ = _ := fun y => ext_cell y c3
  have x4 : ∀ y : Ext w2, y.to.cell? _ = _ := fun y => ext_cell y c4
  have x5 : ∀ y : Ext w2, y.to.cell? _ = _ := fun y => ext_cell y c5
  have X0 : Hid (Xc w2 48 #[.string n, .int .i64 2] (.string r0)) := fun y => CT.out y.to
  have X1 : Hid (Xc w2 46 #[.int .i64 g, .int .i64 2] (.string r1)) := fun y => CG.out y.to
  have X2 : Hid (Xc w2 46 #[.int .i64 i, .int .i64 2] (.string r2)) := fun y => CI.out y.to
  have X3 : Hid (Xc w2 46 #[.int .i64 t, .int .i64 2] (.string r3)) := fun y => CK.out y.to
  have X4 : Hid (Xc w2 48 #[.string (p0 ++ p1), .int .i64 2] (.string r4)) := fun y => CM.out y.to
  have hsome := extSome w2
  clear CT CG CI CK CM HX c0 c1 c2 c3 c4 c5
  refine ext_region (by kernel_rfl) (by kernel_rfl) ?_
  repeat (go_big_quiet_step ((first | (go_at_call 48; with_reducible exact ext_call _ (X0.out _)) | (go_at_call 48; with_reducible exact ext_call _ (X4.out _)) | (go_at_call 46; with_reducible exact ext_call _ (X1.out _)) | (go_at_call 46; with_reducible exact ext_call _ (X2.out _)) | (go_at_call 46; with_reducible exact ext_call _ (X3.out _)))))
  refine wpQuiet_nil ?_
  rintro _ ⟨y, hy⟩
  subst hy
  have HBf := trB HB2 y.below
  clear x0 x1 x2 x3 x4 x5
  go_wp2_with fail
  go_ret
  exact ⟨rfl, HBf.out⟩
theorem nil_cat (s : ByteArray) : (⟨#[]⟩ : ByteArray) ++ s = s := By.bytes_ext (by simp)
theorem mk_cat (a b : ByteArray) : mk (a.data.toList ++ b.data.toList) = a ++ b := By.bytes_ext (by simp [mk_list])
theorem cat_list (a b : ByteArray) : (a ++ b).data.toList = a.data.toList ++ b.data.toList := by simp
theorem ritemS_any (x : It) (w : World) (hn : x.n.size ≤ 1000000) (ha : x.a.size ≤ 1000000) : Calls Tryz.prog 49 #[.agg #[.string x.n, .int .i64 x.g, .int .i64 x.i, .int .i64 x.t, .string x.a, .bool x.w]] w (Gives (.string (mk (itL x))) w) := by
  have hm := mrk_len x
  have e : mk (itL x) = textS x.n 2 ++ intS x.g 2 ++ intS x.i 2 ++ intS x.t 2 ++ textS (mk (mrkL x)) 2 := by
    apply By.bytes_ext
    rw [mk_list]
    simp only [cat_list]
    rfl
  rw [e]
  have hz : (mk (mrkL x)).size ≤ 140737488000000 := by rw [mk_size]; omega
  clear e hm
  obtain ⟨n, g, i, t, a, v⟩ := x
  have hn : n.size ≤ 1000000 := hn
  have ha : a.size ≤ 1000000 := ha
  by_cases h0 : a.size = 0
  · obtain rfl := By.empty_of h0
    cases v
    · have em : mk (mrkL ⟨n, g, i, t, ⟨#[]⟩, false⟩) = ⟨#[]⟩ := rfl
      rw [em] at hz ⊢
      exact ritemS_00 n g i t w hn hz
    · have em : mk (mrkL ⟨n, g, i, t, ⟨#[]⟩, true⟩) = ⟨#[]⟩ ++ putS [⟨102, ⟨#[]⟩⟩] := by
        show mk ((if (⟨#[]⟩ : ByteArray).size = 0 then [] else valL 305 ⟨#[]⟩) ++ (if true = true then valL 102 ⟨#[]⟩ else [])) = _
        rw [if_pos (show (⟨#[]⟩ : ByteArray).size = 0 from rfl), if_pos rfl, List.nil_append]
        exact (show mk (valL 102 ⟨#[]⟩) = putS [⟨102, ⟨#[]⟩⟩] from mk_self _).trans (nil_cat _).symm
      rw [em] at hz ⊢
      exact ritemS_01 n g i t w hn hz
  · cases v
    · have em : mk (mrkL ⟨n, g, i, t, a, false⟩) = putS [⟨305, a⟩] := by
        show mk ((if a.size = 0 then [] else valL 305 a) ++ (if false = true then valL 102 ⟨#[]⟩ else [])) = _
        rw [if_neg h0, if_neg (by decide), List.append_nil]
        exact mk_self _
      rw [em] at hz ⊢
      exact ritemS_10 n a g i t w hn ha h0 hz
    · have em : mk (mrkL ⟨n, g, i, t, a, true⟩) = putS [⟨305, a⟩] ++ putS [⟨102, ⟨#[]⟩⟩] := by
        show mk ((if a.size = 0 then [] else valL 305 a) ++ (if true = true then valL 102 ⟨#[]⟩ else [])) = _
        rw [if_neg h0, if_pos rfl]
        exact mk_cat (putS [⟨305, a⟩]) (putS [⟨102, ⟨#[]⟩⟩])
      rw [em] at hz ⊢
      exact ritemS_11 n a g i t w hn ha h0 hz
def plT (p : Nat × Nat × Nat) : Value := .tuple #[.int .i64 (p.1 : Int), .int .i64 (p.2.1 : Int), .int .i64 (p.2.2 : Int)]
theorem rplace_1 (w : World) : Calls Tryz.prog 23 #[.int .i64 1] w (Pure (.tuple #[.int .i64 1, .int .i64 0, .int .i64 0]) w) := by
  go_enter Tryz.func23, Tryz.ntmps23
  go_wp2_with fail
  go_ret3
  exact ⟨rfl, rfl⟩
theorem rplace_2 (w : World) : Calls Tryz.prog 23 #[.int .i64 2] w (Pure (.tuple #[.int .i64 1, .int .i64 0, .int .i64 0]) w) := by
  go_enter Tryz.func23, Tryz.ntmps23
  go_wp2_with fail
  go_ret3
  exact ⟨rfl, rfl⟩
theorem rplace_3 (w : World) : Calls Tryz.prog 23 #[.int .i64 3] w (Pure (.tuple #[.int .i64 4, .int .i64 0, .int .i64 0]) w) := by
  go_enter Tryz.func23, Tryz.ntmps23
  go_wp2_with fail
  go_ret3
  exact ⟨rfl, rfl⟩
theorem rplace_4 (w : World) : Calls Tryz.prog 23 #[.int .i64 4] w (Pure (.tuple #[.int .i64 5, .int .i64 0, .int .i64 0]) w) := by
  go_enter Tryz.func23, Tryz.ntmps23
  go_wp2_with fail
  go_ret3
  exact ⟨rfl, rfl⟩
theorem rplace_5 (w : World) : Calls Tryz.prog 23 #[.int .i64 5] w (Pure (.tuple #[.int .i64 2, .int .i64 23, .int .i64 6]) w) := by
  go_enter Tryz.func23, Tryz.ntmps23
  go_wp2_with fail
  go_ret3
  exact ⟨rfl, rfl⟩
theorem rplace_6 (w : World) : Calls Tryz.prog 23 #[.int .i64 6] w (Pure (.tuple #[.int .i64 2, .int .i64 23, .int .i64 7]) w) := by
  go_enter Tryz.func23, Tryz.ntmps23
  go_wp2_with fail
  go_ret3
  exact ⟨rfl, rfl⟩
theorem rplace_7 (w : World) : Calls Tryz.prog 23 #[.int .i64 7] w (Pure (.tuple #[.int .i64 2, .int .i64 23, .int .i64 2]) w) := by
  go_enter Tryz.func23, Tryz.ntmps23
  go_wp2_with fail
  go_ret3
  exact ⟨rfl, rfl⟩
theorem rplace_8 (w : World) : Calls Tryz.prog 23 #[.int .i64 8] w (Pure (.tuple #[.int .i64 2, .int .i64 23, .int .i64 3]) w) := by
  go_enter Tryz.func23, Tryz.ntmps23
  go_wp2_with fail
  go_ret3
  exact ⟨rfl, rfl⟩
theorem rplace_9 (w : World) : Calls Tryz.prog 23 #[.int .i64 9] w (Pure (.tuple #[.int .i64 2, .int .i64 1, .int .i64 3]) w) := by
  go_enter Tryz.func23, Tryz.ntmps23
  go_wp2_with fail
  go_ret3
  exact ⟨rfl, rfl⟩
theorem rplace_10 (w : World) : Calls Tryz.prog 23 #[.int .i64 10] w (Pure (.tuple #[.int .i64 2, .int .i64 1, .int .i64 2]) w) := by
  go_enter Tryz.func23, Tryz.ntmps23
  go_wp2_with fail
  go_ret3
  exact ⟨rfl, rfl⟩
theorem rplace_11 (w : World) : Calls Tryz.prog 23 #[.int .i64 11] w (Pure (.tuple #[.int .i64 2, .int .i64 1, .int .i64 30]) w) := by
  go_enter Tryz.func23, Tryz.ntmps23
  go_wp2_with fail
  go_ret3
  exact ⟨rfl, rfl⟩
theorem rplace_12 (w : World) : Calls Tryz.prog 23 #[.int .i64 12] w (Pure (.tuple #[.int .i64 2, .int .i64 1, .int .i64 17]) w) := by
  go_enter Tryz.func23, Tryz.ntmps23
  go_wp2_with fail
  go_ret3
  exact ⟨rfl, rfl⟩
theorem rplace_13 (w : World) : Calls Tryz.prog 23 #[.int .i64 13] w (Pure (.tuple #[.int .i64 2, .int .i64 3, .int .i64 11]) w) := by
  go_enter Tryz.func23, Tryz.ntmps23
  go_wp2_with fail
  go_ret3
  exact ⟨rfl, rfl⟩
theorem rplace_14 (w : World) : Calls Tryz.prog 23 #[.int .i64 14] w (Pure (.tuple #[.int .i64 2, .int .i64 3, .int .i64 12]) w) := by
  go_enter Tryz.func23, Tryz.ntmps23
  go_wp2_with fail
  go_ret3
  exact ⟨rfl, rfl⟩
theorem rplace_15 (w : World) : Calls Tryz.prog 23 #[.int .i64 15] w (Pure (.tuple #[.int .i64 2, .int .i64 4, .int .i64 6]) w) := by
  go_enter Tryz.func23, Tryz.ntmps23
  go_wp2_with fail
  go_ret3
  exact ⟨rfl, rfl⟩
theorem rplace_16 (w : World) : Calls Tryz.prog 23 #[.int .i64 16] w (Pure (.tuple #[.int .i64 2, .int .i64 4, .int .i64 7]) w) := by
  go_enter Tryz.func23, Tryz.ntmps23
  go_wp2_with fail
  go_ret3
  exact ⟨rfl, rfl⟩
theorem rplace_17 (w : World) : Calls Tryz.prog 23 #[.int .i64 17] w (Pure (.tuple #[.int .i64 2, .int .i64 19, .int .i64 5]) w) := by
  go_enter Tryz.func23, Tryz.ntmps23
  go_wp2_with fail
  go_ret3
  exact ⟨rfl, rfl⟩
theorem rplace_18 (w : World) : Calls Tryz.prog 23 #[.int .i64 18] w (Pure (.tuple #[.int .i64 2, .int .i64 19, .int .i64 6]) w) := by
  go_enter Tryz.func23, Tryz.ntmps23
  go_wp2_with fail
  go_ret3
  exact ⟨rfl, rfl⟩
theorem rplace_19 (w : World) : Calls Tryz.prog 23 #[.int .i64 19] w (Pure (.tuple #[.int .i64 2, .int .i64 19, .int .i64 15]) w) := by
  go_enter Tryz.func23, Tryz.ntmps23
  go_wp2_with fail
  go_ret3
  exact ⟨rfl, rfl⟩
theorem rplace_20 (w : World) : Calls Tryz.prog 23 #[.int .i64 20] w (Pure (.tuple #[.int .i64 2, .int .i64 19, .int .i64 8]) w) := by
  go_enter Tryz.func23, Tryz.ntmps23
  go_wp2_with fail
  go_ret3
  exact ⟨rfl, rfl⟩
theorem rplace_21 (w : World) : Calls Tryz.prog 23 #[.int .i64 21] w (Pure (.tuple #[.int .i64 2, .int .i64 19, .int .i64 9]) w) := by
  go_enter Tryz.func23, Tryz.ntmps23
  go_wp2_with fail
  go_ret3
  exact ⟨rfl, rfl⟩
theorem rplace_22 (w : World) : Calls Tryz.prog 23 #[.int .i64 22] w (Pure (.tuple #[.int .i64 2, .int .i64 19, .int .i64 10]) w) := by
  go_enter Tryz.func23, Tryz.ntmps23
  go_wp2_with fail
  go_ret3
  exact ⟨rfl, rfl⟩
theorem rplace_23 (w : World) : Calls Tryz.prog 23 #[.int .i64 23] w (Pure (.tuple #[.int .i64 2, .int .i64 19, .int .i64 17]) w) := by
  go_enter Tryz.func23, Tryz.ntmps23
  go_wp2_with fail
  go_ret3
  exact ⟨rfl, rfl⟩
theorem rplace_24 (w : World) : Calls Tryz.prog 23 #[.int .i64 24] w (Pure (.tuple #[.int .i64 2, .int .i64 19, .int .i64 18]) w) := by
  go_enter Tryz.func23, Tryz.ntmps23
  go_wp2_with fail
  go_ret3
  exact ⟨rfl, rfl⟩
theorem rplace_25 (w : World) : Calls Tryz.prog 23 #[.int .i64 25] w (Pure (.tuple #[.int .i64 2, .int .i64 19, .int .i64 14]) w) := by
  go_enter Tryz.func23, Tryz.ntmps23
  go_wp2_with fail
  go_ret3
  exact ⟨rfl, rfl⟩
theorem rplace_26 (w : World) : Calls Tryz.prog 23 #[.int .i64 26] w (Pure (.tuple #[.int .i64 2, .int .i64 19, .int .i64 24]) w) := by
  go_enter Tryz.func23, Tryz.ntmps23
  go_wp2_with fail
  go_ret3
  exact ⟨rfl, rfl⟩
theorem rplace_27 (w : World) : Calls Tryz.prog 23 #[.int .i64 27] w (Pure (.tuple #[.int .i64 2, .int .i64 19, .int .i64 25]) w) := by
  go_enter Tryz.func23, Tryz.ntmps23
  go_wp2_with fail
  go_ret3
  exact ⟨rfl, rfl⟩
theorem rplace_28 (w : World) : Calls Tryz.prog 23 #[.int .i64 28] w (Pure (.tuple #[.int .i64 2, .int .i64 19, .int .i64 26]) w) := by
  go_enter Tryz.func23, Tryz.ntmps23
  go_wp2_with fail
  go_ret3
  exact ⟨rfl, rfl⟩
theorem rplace_29 (w : World) : Calls Tryz.prog 23 #[.int .i64 29] w (Pure (.tuple #[.int .i64 2, .int .i64 19, .int .i64 27]) w) := by
  go_enter Tryz.func23, Tryz.ntmps23
  go_wp2_with fail
  go_ret3
  exact ⟨rfl, rfl⟩
theorem rplace_no (k : Int) (w : World) (e1 : (k == 1) = false) (e2 : (k == 2) = false) (e3 : (k == 3) = false) (e4 : (k == 4) = false) (e5 : (k == 5) = false) (e6 : (k == 6) = false) (e7 : (k == 7) = false) (e8 : (k == 8) = false) (e9 : (k == 9) = false) (e10 : (k == 10) = false) (e11 : (k == 11) = false) (e12 : (k == 12) = false) (e13 : (k == 13) = false) (e14 : (k == 14) = false) (e15 : (k == 15) = false) (e16 : (k == 16) = false) (e17 : (k == 17) = false) (e18 : (k == 18) = false) (e19 : (k == 19) = false) (e20 : (k == 20) = false) (e21 : (k == 21) = false) (e22 : (k == 22) = false) (e23 : (k == 23) = false) (e24 : (k == 24) = false) (e25 : (k == 25) = false) (e26 : (k == 26) = false) (e27 : (k == 27) = false) (e28 : (k == 28) = false) (e29 : (k == 29) = false) : Calls Tryz.prog 23 #[.int .i64 k] w (Pure (.tuple #[.int .i64 0, .int .i64 0, .int .i64 0]) w) := by
  go_enter Tryz.func23, Tryz.ntmps23
  go_wp2_with fail
  go_ret3
  exact ⟨rfl, rfl⟩
theorem rplace_any (k : Int) (w : World) : Calls Tryz.prog 23 #[.int .i64 k] w (Pure (plT (plc k)) w) := by
  by_cases hk : 1 ≤ k ∧ k ≤ 29
  · have hC : k = 1 ∨ k = 2 ∨ k = 3 ∨ k = 4 ∨ k = 5 ∨ k = 6 ∨ k = 7 ∨ k = 8 ∨ k = 9 ∨ k = 10 ∨ k = 11 ∨ k = 12 ∨ k = 13 ∨ k = 14 ∨ k = 15 ∨ k = 16 ∨ k = 17 ∨ k = 18 ∨ k = 19 ∨ k = 20 ∨ k = 21 ∨ k = 22 ∨ k = 23 ∨ k = 24 ∨ k = 25 ∨ k = 26 ∨ k = 27 ∨ k = 28 ∨ k = 29 := by omega
    rcases hC with rfl | rfl | rfl | rfl | rfl | rfl | rfl | rfl | rfl | rfl | rfl | rfl | rfl | rfl | rfl | rfl | rfl | rfl | rfl | rfl | rfl | rfl | rfl | rfl | rfl | rfl | rfl | rfl | rfl
    · exact rplace_1 w
    · exact rplace_2 w
    · exact rplace_3 w
    · exact rplace_4 w
    · exact rplace_5 w
    · exact rplace_6 w
    · exact rplace_7 w
    · exact rplace_8 w
    · exact rplace_9 w
    · exact rplace_10 w
    · exact rplace_11 w
    · exact rplace_12 w
    · exact rplace_13 w
    · exact rplace_14 w
    · exact rplace_15 w
    · exact rplace_16 w
    · exact rplace_17 w
    · exact rplace_18 w
    · exact rplace_19 w
    · exact rplace_20 w
    · exact rplace_21 w
    · exact rplace_22 w
    · exact rplace_23 w
    · exact rplace_24 w
    · exact rplace_25 w
    · exact rplace_26 w
    · exact rplace_27 w
    · exact rplace_28 w
    · exact rplace_29 w
  · have e : plc k = (0, 0, 0) := by
      unfold plc
      rw [if_neg (fun q => hk (isK_iff.1 q))]
    rw [e]
    have f : ∀ i : Int, 1 ≤ i → i ≤ 29 → (k == i) = false := fun i h1 h2 => beq_eq_false_iff_ne.2 (by omega)
    exact rplace_no k w (f 1 (by decide) (by decide)) (f 2 (by decide) (by decide)) (f 3 (by decide) (by decide)) (f 4 (by decide) (by decide)) (f 5 (by decide) (by decide)) (f 6 (by decide) (by decide)) (f 7 (by decide) (by decide)) (f 8 (by decide) (by decide)) (f 9 (by decide) (by decide)) (f 10 (by decide) (by decide)) (f 11 (by decide) (by decide)) (f 12 (by decide) (by decide)) (f 13 (by decide) (by decide)) (f 14 (by decide) (by decide)) (f 15 (by decide) (by decide)) (f 16 (by decide) (by decide)) (f 17 (by decide) (by decide)) (f 18 (by decide) (by decide)) (f 19 (by decide) (by decide)) (f 20 (by decide) (by decide)) (f 21 (by decide) (by decide)) (f 22 (by decide) (by decide)) (f 23 (by decide) (by decide)) (f 24 (by decide) (by decide)) (f 25 (by decide) (by decide)) (f 26 (by decide) (by decide)) (f 27 (by decide) (by decide)) (f 28 (by decide) (by decide)) (f 29 (by decide) (by decide))
theorem rclass14_any (k : Int) (w : World) : Calls Tryz.prog 15 #[.int .i64 k] w (Pure (.int .i64 (if (plc k).1 = 2 then Q.cls (plc k).2.1 else 0)) w) := by
  have CP := Lib.hid (rplace_any k w)
  unfold plT at CP
  generalize plc k = p at CP ⊢
  obtain ⟨c, f, s⟩ := p
  have CP : Hid (Calls Tryz.prog 23 #[.int .i64 k] w (Pure (.tuple #[.int .i64 (c : Int), .int .i64 (f : Int), .int .i64 (s : Int)]) w)) := CP
  have CC := Lib.hid (fun W => Q.rclass_any (f : Int) (s : Int) W)
  show Calls _ _ _ _ (Pure (.int .i64 (if c = 2 then Q.cls f else 0)) w)
  by_cases h : c = 2
  · subst h
    rw [if_pos rfl]
    generalize Q.cls f = z at CC ⊢
    go_enter Tryz.func15, Tryz.ntmps15
    go_wp2_with fail
    refine CP.out.mono ?_
    rintro e wz ⟨rfl, hw⟩
    have hw := hw.symm
    subst hw
    go_wp2_with fail
    refine (CC.out _).mono ?_
    rintro e wz ⟨rfl, hw⟩
    have hw := hw.symm
    subst hw
    go_wp2_with fail
    go_ret
    exact ⟨rfl, rfl⟩
  · rw [if_neg h]
    have q : ((c : Int) != 2) = true := by rw [bne_iff_ne]; omega
    go_enter Tryz.func15, Tryz.ntmps15
    go_wp2_with fail
    refine CP.out.mono ?_
    rintro e wz ⟨rfl, hw⟩
    have hw := hw.symm
    subst hw
    go_wp2_with fail
    go_ret
    exact ⟨rfl, rfl⟩
end Go.Proofs.YtiodjaeonoheiaaGreatDoor.T
