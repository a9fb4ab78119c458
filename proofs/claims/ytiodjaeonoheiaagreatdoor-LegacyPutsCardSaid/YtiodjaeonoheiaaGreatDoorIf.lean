/- The document's Is, kinds 25, 26, 27, 28, 29, k. Conditions: those of each theorem's head. -/
import Derived.Test.YtiodjaeonoheiaaGreatDoorIb
set_option maxRecDepth 100000
set_option maxHeartbeats 8000000
namespace Go.Proofs.YtiodjaeonoheiaaGreatDoor.T
open Go.RowKit Go.Lib
theorem ris_25_0 (n : Nt) (ai az : Option Addr) (ci cz : Nat) (w : World) (h : NtL w ai az n) (h1 : (inB n.z.length 1 100 && n.z.all fun c => inB c 0 65535) = false) : IsC 25 n ai az ci cz w false := by
  unfold IsC
  obtain ⟨HB0, HX, HY⟩ := nTwo 25 n ai az ci cz w
  have HR := Lib.hid (fun W (hb : Below w.heap.size w W) => h.below hb)
  have CN := Lib.hid (fun W => risN_any n.n W (Nat.le_trans h.hn (by decide)))
  generalize nmB n.n true = qn at CN
  have C1 := Lib.hid (fun W (hb : Below w.heap.size w W) => rcodes_any n.z az cz W (h.hZ.below hb) h.hzn)
  rw [h1] at C1
  clear h1
  clear h
  have mX := bx11 HX.out
  go_enter Tryz.func11, Tryz.ntmps11
  go_wp2_with fail
  clear mX
  refine (CN.out _).mono ?_
  rintro e w1 ⟨rfl, hb⟩
  replace HX := kpB hb HX
  replace HY := kpB hb HY
  have HB1 := trB HB0 hb
  clear hb
  have mX := bx11 HX.out
  have kX := bx22 HY.out
  go_wp2_with fail
  clear CN
  refine (C1.out _ HB1.out).mono ?_
  rintro e w2 ⟨rfl, hb⟩
  clear mX
  clear kX
  replace HX := kpB hb HX
  replace HY := kpB hb HY
  have HB2 := trB HB1 hb
  clear hb
  have mX := bx11 HX.out
  have kX := bx22 HY.out
  go_wp2_with fail
  clear C1
  go_ret
  exact ⟨rfl, (HB2.out.setCell (p := ⟨w.heap.size + 1, _, none⟩) (Nat.le_succ _) _)⟩
theorem ris_25_y (n : Nt) (ai az : Option Addr) (ci cz : Nat) (w : World) (h : NtL w ai az n) (h1 : (inB n.z.length 1 100 && n.z.all fun c => inB c 0 65535) = true) : Calls Tryz.prog 11 #[.agg #[.int .i64 25, .string n.n, .string n.x, .string n.d, .int .i64 n.c, .int .i64 n.s, .int .i64 n.e, .int .i64 n.t, .bool n.o, .slice ai n.l.length ci, .slice az n.z.length cz]] w (Gives (.bool (eqv (⟨0, n.n, n.x, n.d, n.c, n.s, n.e, n.t, n.o, n.l, []⟩ : Nt) zN)) w) := by
  obtain ⟨HB0, HX, HY⟩ := nTwo 25 n ai az ci cz w
  have HR := Lib.hid (fun W (hb : Below w.heap.size w W) => h.below hb)
  have CN := Lib.hid (fun W => risN_any n.n W (Nat.le_trans h.hn (by decide)))
  generalize nmB n.n true = qn at CN
  have C1 := Lib.hid (fun W (hb : Below w.heap.size w W) => rcodes_any n.z az cz W (h.hZ.below hb) h.hzn)
  rw [h1] at C1
  clear h1
  have CE : Hid (∀ W, Below w.heap.size w W → Calls Tryz.prog 13 #[.agg #[.int .i64 0, .string n.n, .string n.x, .string n.d, .int .i64 n.c, .int .i64 n.s, .int .i64 n.e, .int .i64 n.t, .bool n.o, .slice ai n.l.length ci, .slice none 0 0], .agg #[.int .i64 0, .string ⟨#[]⟩, .string ⟨#[]⟩, .string ⟨#[]⟩, .int .i64 0, .int .i64 0, .int .i64 0, .int .i64 0, .bool false, .slice none 0 0, .slice none 0 0]] W (Gives (.bool (eqv (⟨0, n.n, n.x, n.d, n.c, n.s, n.e, n.t, n.o, n.l, []⟩ : Nt) zN)) W)) := fun W hb => by
    have hl := h.below hb
    have k := rsame_any (⟨0, n.n, n.x, n.d, n.c, n.s, n.e, n.t, n.o, n.l, []⟩ : Nt) zN ai none none none ci 0 0 0 W ⟨⟨hl.hn, hl.hx, hl.hd, hl.hI, CdS.nil _ _⟩, hl.hin, hl.hiz, Nat.zero_le _⟩ ⟨⟨Nat.zero_le _, Nat.zero_le _, Nat.zero_le _, ItS.nil _ _, CdS.nil _ _⟩, Nat.zero_le _, (fun y hy => by cases hy), Nat.zero_le _⟩
    exact k
  generalize eqv (⟨0, n.n, n.x, n.d, n.c, n.s, n.e, n.t, n.o, n.l, []⟩ : Nt) zN = R at CE ⊢
  clear h
  have mX := bx11 HX.out
  go_enter Tryz.func11, Tryz.ntmps11
  go_wp2_with fail
  clear mX
  refine (CN.out _).mono ?_
  rintro e w1 ⟨rfl, hb⟩
  replace HX := kpB hb HX
  replace HY := kpB hb HY
  have HB1 := trB HB0 hb
  clear hb
  have mX := bx11 HX.out
  have kX := bx22 HY.out
  go_wp2_with fail
  clear CN
  refine (C1.out _ HB1.out).mono ?_
  rintro e w2 ⟨rfl, hb⟩
  clear mX
  clear kX
  replace HX := kpB hb HX
  replace HY := kpB hb HY
  have HB2 := trB HB1 hb
  clear hb
  have mX := bx11 HX.out
  have kX := bx22 HY.out
  go_wp2_with fail
  clear C1
  refine (CE.out _ (HB2.out.setCell (p := ⟨w.heap.size + 1, _, none⟩) (Nat.le_succ _) _)).mono ?_
  rintro e wf ⟨rfl, hb⟩
  clear mX
  clear kX
  have HBf := Lib.hid (Below.trans (HB2.out.setCell (p := ⟨w.heap.size + 1, _, none⟩) (Nat.le_succ _) _) (hb.mono (Nat.le_trans HB2.out.size (by simp [World.setCell]))))
  clear hb
  go_wp2_with fail
  go_ret
  exact ⟨rfl, HBf.out⟩
theorem ris_26_0 (n : Nt) (ai az : Option Addr) (ci cz : Nat) (w : World) (h : NtL w ai az n) (hN : nmB n.n true = false) : IsC 26 n ai az ci cz w false := by
  unfold IsC
  obtain ⟨HB0, HX, HY⟩ := nTwo 26 n ai az ci cz w
  have HR := Lib.hid (fun W (hb : Below w.heap.size w W) => h.below hb)
  have CN := Lib.hid (fun W => risN_any n.n W (Nat.le_trans h.hn (by decide)))
  rw [hN] at CN
  clear hN
  clear h
  have mX := bx11 HX.out
  go_enter Tryz.func11, Tryz.ntmps11
  go_wp2_with fail
  clear mX
  refine (CN.out _).mono ?_
  rintro e w1 ⟨rfl, hb⟩
  replace HX := kpB hb HX
  replace HY := kpB hb HY
  have HB1 := trB HB0 hb
  clear hb
  have mX := bx11 HX.out
  have kX := bx22 HY.out
  go_wp2_with fail
  clear CN
  go_ret
  exact ⟨rfl, ((HB1.out.setCell (p := ⟨w.heap.size + 1, _, none⟩) (Nat.le_succ _) _).setCell (p := ⟨w.heap.size + 1, _, none⟩) (Nat.le_succ _) _)⟩
theorem ris_26_1 (n : Nt) (ai az : Option Addr) (ci cz : Nat) (w : World) (h : NtL w ai az n) (hN : nmB n.n true = true) (h2 : txB n.x 2000 = false) : IsC 26 n ai az ci cz w false := by
  unfold IsC
  obtain ⟨HB0, HX, HY⟩ := nTwo 26 n ai az ci cz w
  have HR := Lib.hid (fun W (hb : Below w.heap.size w W) => h.below hb)
  have CN := Lib.hid (fun W => risN_any n.n W (Nat.le_trans h.hn (by decide)))
  rw [hN] at CN
  clear hN
  have C2 := Lib.hid (fun W => rtext14_any n.x 2000 W (Nat.le_trans h.hx (by decide)))
  rw [h2] at C2
  clear h2
  clear h
  have mX := bx11 HX.out
  go_enter Tryz.func11, Tryz.ntmps11
  go_wp2_with fail
  clear mX
  refine (CN.out _).mono ?_
  rintro e w1 ⟨rfl, hb⟩
  replace HX := kpB hb HX
  replace HY := kpB hb HY
  have HB1 := trB HB0 hb
  clear hb
  have mX := bx11 HX.out
  have kX := bx22 HY.out
  go_wp2_with fail
  clear CN
  refine (C2.out _).mono ?_
  rintro e w2 ⟨rfl, hb⟩
  clear mX
  clear kX
  replace HX := kpB hb HX
  replace HY := kpB hb HY
  have HB2 := trB HB1 hb
  clear hb
  have mX := bx11 HX.out
  have kX := bx22 HY.out
  go_wp2_with fail
  clear C2
  go_ret
  exact ⟨rfl, ((HB2.out.setCell (p := ⟨w.heap.size + 1, _, none⟩) (Nat.le_succ _) _).setCell (p := ⟨w.heap.size + 1, _, none⟩) (Nat.le_succ _) _)⟩
theorem ris_26_y (n : Nt) (ai az : Option Addr) (ci cz : Nat) (w : World) (h : NtL w ai az n) (hN : nmB n.n true = true) (h2 : txB n.x 2000 = true) : Calls Tryz.prog 11 #[.agg #[.int .i64 26, .string n.n, .string n.x, .string n.d, .int .i64 n.c, .int .i64 n.s, .int .i64 n.e, .int .i64 n.t, .bool n.o, .slice ai n.l.length ci, .slice az n.z.length cz]] w (Gives (.bool (eqv (⟨0, ⟨#[]⟩, ⟨#[]⟩, n.d, n.c, n.s, n.e, n.t, n.o, n.l, n.z⟩ : Nt) zN)) w) := by
  obtain ⟨HB0, HX, HY⟩ := nTwo 26 n ai az ci cz w
  have HR := Lib.hid (fun W (hb : Below w.heap.size w W) => h.below hb)
  have CN := Lib.hid (fun W => risN_any n.n W (Nat.le_trans h.hn (by decide)))
  rw [hN] at CN
  clear hN
  have C2 := Lib.hid (fun W => rtext14_any n.x 2000 W (Nat.le_trans h.hx (by decide)))
  rw [h2] at C2
  clear h2
  have CE : Hid (∀ W, Below w.heap.size w W → Calls Tryz.prog 13 #[.agg #[.int .i64 0, .string ⟨#[]⟩, .string ⟨#[]⟩, .string n.d, .int .i64 n.c, .int .i64 n.s, .int .i64 n.e, .int .i64 n.t, .bool n.o, .slice ai n.l.length ci, .slice az n.z.length cz], .agg #[.int .i64 0, .string ⟨#[]⟩, .string ⟨#[]⟩, .string ⟨#[]⟩, .int .i64 0, .int .i64 0, .int .i64 0, .int .i64 0, .bool false, .slice none 0 0, .slice none 0 0]] W (Gives (.bool (eqv (⟨0, ⟨#[]⟩, ⟨#[]⟩, n.d, n.c, n.s, n.e, n.t, n.o, n.l, n.z⟩ : Nt) zN)) W)) := fun W hb => by
    have hl := h.below hb
    have k := rsame_any (⟨0, ⟨#[]⟩, ⟨#[]⟩, n.d, n.c, n.s, n.e, n.t, n.o, n.l, n.z⟩ : Nt) zN ai az none none ci cz 0 0 W ⟨⟨Nat.zero_le _, Nat.zero_le _, hl.hd, hl.hI, hl.hZ⟩, hl.hin, hl.hiz, hl.hzn⟩ ⟨⟨Nat.zero_le _, Nat.zero_le _, Nat.zero_le _, ItS.nil _ _, CdS.nil _ _⟩, Nat.zero_le _, (fun y hy => by cases hy), Nat.zero_le _⟩
    exact k
  generalize eqv (⟨0, ⟨#[]⟩, ⟨#[]⟩, n.d, n.c, n.s, n.e, n.t, n.o, n.l, n.z⟩ : Nt) zN = R at CE ⊢
  clear h
  have mX := bx11 HX.out
  go_enter Tryz.func11, Tryz.ntmps11
  go_wp2_with fail
  clear mX
  refine (CN.out _).mono ?_
  rintro e w1 ⟨rfl, hb⟩
  replace HX := kpB hb HX
  replace HY := kpB hb HY
  have HB1 := trB HB0 hb
  clear hb
  have mX := bx11 HX.out
  have kX := bx22 HY.out
  go_wp2_with fail
  clear CN
  refine (C2.out _).mono ?_
  rintro e w2 ⟨rfl, hb⟩
  clear mX
  clear kX
  replace HX := kpB hb HX
  replace HY := kpB hb HY
  have HB2 := trB HB1 hb
  clear hb
  have mX := bx11 HX.out
  have kX := bx22 HY.out
  go_wp2_with fail
  clear C2
  refine (CE.out _ ((HB2.out.setCell (p := ⟨w.heap.size + 1, _, none⟩) (Nat.le_succ _) _).setCell (p := ⟨w.heap.size + 1, _, none⟩) (Nat.le_succ _) _)).mono ?_
  rintro e wf ⟨rfl, hb⟩
  clear mX
  clear kX
  have HBf := Lib.hid (Below.trans ((HB2.out.setCell (p := ⟨w.heap.size + 1, _, none⟩) (Nat.le_succ _) _).setCell (p := ⟨w.heap.size + 1, _, none⟩) (Nat.le_succ _) _) (hb.mono (Nat.le_trans HB2.out.size (by simp [World.setCell]))))
  clear hb
  go_wp2_with fail
  go_ret
  exact ⟨rfl, HBf.out⟩
theorem ris_27_0 (n : Nt) (ai az : Option Addr) (ci cz : Nat) (w : World) (h : NtL w ai az n) (hN : nmB n.n true = false) : IsC 27 n ai az ci cz w false := by
  unfold IsC
  obtain ⟨HB0, HX, HY⟩ := nTwo 27 n ai az ci cz w
  have HR := Lib.hid (fun W (hb : Below w.heap.size w W) => h.below hb)
  have CN := Lib.hid (fun W => risN_any n.n W (Nat.le_trans h.hn (by decide)))
  rw [hN] at CN
  clear hN
  clear h
  have mX := bx11 HX.out
  go_enter Tryz.func11, Tryz.ntmps11
  go_wp2_with fail
  clear mX
  refine (CN.out _).mono ?_
  rintro e w1 ⟨rfl, hb⟩
  replace HX := kpB hb HX
  replace HY := kpB hb HY
  have HB1 := trB HB0 hb
  clear hb
  have mX := bx11 HX.out
  have kX := bx22 HY.out
  go_wp2_with fail
  clear CN
  go_ret
  exact ⟨rfl, ((HB1.out.setCell (p := ⟨w.heap.size + 1, _, none⟩) (Nat.le_succ _) _).setCell (p := ⟨w.heap.size + 1, _, none⟩) (Nat.le_succ _) _)⟩
theorem ris_27_1 (n : Nt) (ai az : Option Addr) (ci cz : Nat) (w : World) (h : NtL w ai az n) (hN : nmB n.n true = true) (h2 : txB n.x 2000 = false) : IsC 27 n ai az ci cz w false := by
  unfold IsC
  obtain ⟨HB0, HX, HY⟩ := nTwo 27 n ai az ci cz w
  have HR := Lib.hid (fun W (hb : Below w.heap.size w W) => h.below hb)
  have CN := Lib.hid (fun W => risN_any n.n W (Nat.le_trans h.hn (by decide)))
  rw [hN] at CN
  clear hN
  have C2 := Lib.hid (fun W => rtext14_any n.x 2000 W (Nat.le_trans h.hx (by decide)))
  rw [h2] at C2
  clear h2
  clear h
  have mX := bx11 HX.out
  go_enter Tryz.func11, Tryz.ntmps11
  go_wp2_with fail
  clear mX
  refine (CN.out _).mono ?_
  rintro e w1 ⟨rfl, hb⟩
  replace HX := kpB hb HX
  replace HY := kpB hb HY
  have HB1 := trB HB0 hb
  clear hb
  have mX := bx11 HX.out
  have kX := bx22 HY.out
  go_wp2_with fail
  clear CN
  refine (C2.out _).mono ?_
  rintro e w2 ⟨rfl, hb⟩
  clear mX
  clear kX
  replace HX := kpB hb HX
  replace HY := kpB hb HY
  have HB2 := trB HB1 hb
  clear hb
  have mX := bx11 HX.out
  have kX := bx22 HY.out
  go_wp2_with fail
  clear C2
  go_ret
  exact ⟨rfl, ((HB2.out.setCell (p := ⟨w.heap.size + 1, _, none⟩) (Nat.le_succ _) _).setCell (p := ⟨w.heap.size + 1, _, none⟩) (Nat.le_succ _) _)⟩
theorem ris_27_y (n : Nt) (ai az : Option Addr) (ci cz : Nat) (w : World) (h : NtL w ai az n) (hN : nmB n.n true = true) (h2 : txB n.x 2000 = true) : Calls Tryz.prog 11 #[.agg #[.int .i64 27, .string n.n, .string n.x, .string n.d, .int .i64 n.c, .int .i64 n.s, .int .i64 n.e, .int .i64 n.t, .bool n.o, .slice ai n.l.length ci, .slice az n.z.length cz]] w (Gives (.bool (eqv (⟨0, ⟨#[]⟩, ⟨#[]⟩, n.d, n.c, n.s, n.e, n.t, n.o, n.l, n.z⟩ : Nt) zN)) w) := by
  obtain ⟨HB0, HX, HY⟩ := nTwo 27 n ai az ci cz w
  have HR := Lib.hid (fun W (hb : Below w.heap.size w W) => h.below hb)
  have CN := Lib.hid (fun W => risN_any n.n W (Nat.le_trans h.hn (by decide)))
  rw [hN] at CN
  clear hN
  have C2 := Lib.hid (fun W => rtext14_any n.x 2000 W (Nat.le_trans h.hx (by decide)))
  rw [h2] at C2
  clear h2
  have CE : Hid (∀ W, Below w.heap.size w W → Calls Tryz.prog 13 #[.agg #[.int .i64 0, .string ⟨#[]⟩, .string ⟨#[]⟩, .string n.d, .int .i64 n.c, .int .i64 n.s, .int .i64 n.e, .int .i64 n.t, .bool n.o, .slice ai n.l.length ci, .slice az n.z.length cz], .agg #[.int .i64 0, .string ⟨#[]⟩, .string ⟨#[]⟩, .string ⟨#[]⟩, .int .i64 0, .int .i64 0, .int .i64 0, .int .i64 0, .bool false, .slice none 0 0, .slice none 0 0]] W (Gives (.bool (eqv (⟨0, ⟨#[]⟩, ⟨#[]⟩, n.d, n.c, n.s, n.e, n.t, n.o, n.l, n.z⟩ : Nt) zN)) W)) := fun W hb => by
    have hl := h.below hb
    have k := rsame_any (⟨0, ⟨#[]⟩, ⟨#[]⟩, n.d, n.c, n.s, n.e, n.t, n.o, n.l, n.z⟩ : Nt) zN ai az none none ci cz 0 0 W ⟨⟨Nat.zero_le _, Nat.zero_le _, hl.hd, hl.hI, hl.hZ⟩, hl.hin, hl.hiz, hl.hzn⟩ ⟨⟨Nat.zero_le _, Nat.zero_le _, Nat.zero_le _, ItS.nil _ _, CdS.nil _ _⟩, Nat.zero_le _, (fun y hy => by cases hy), Nat.zero_le _⟩
    exact k
  generalize eqv (⟨0, ⟨#[]⟩, ⟨#[]⟩, n.d, n.c, n.s, n.e, n.t, n.o, n.l, n.z⟩ : Nt) zN = R at CE ⊢
  clear h
  have mX := bx11 HX.out
  go_enter Tryz.func11, Tryz.ntmps11
  go_wp2_with fail
  clear mX
  refine (CN.out _).mono ?_
  rintro e w1 ⟨rfl, hb⟩
  replace HX := kpB hb HX
  replace HY := kpB hb HY
  have HB1 := trB HB0 hb
  clear hb
  have mX := bx11 HX.out
  have kX := bx22 HY.out
  go_wp2_with fail
  clear CN
  refine (C2.out _).mono ?_
  rintro e w2 ⟨rfl, hb⟩
  clear mX
  clear kX
  replace HX := kpB hb HX
  replace HY := kpB hb HY
  have HB2 := trB HB1 hb
  clear hb
  have mX := bx11 HX.out
  have kX := bx22 HY.out
  go_wp2_with fail
  clear C2
  refine (CE.out _ ((HB2.out.setCell (p := ⟨w.heap.size + 1, _, none⟩) (Nat.le_succ _) _).setCell (p := ⟨w.heap.size + 1, _, none⟩) (Nat.le_succ _) _)).mono ?_
  rintro e wf ⟨rfl, hb⟩
  clear mX
  clear kX
  have HBf := Lib.hid (Below.trans ((HB2.out.setCell (p := ⟨w.heap.size + 1, _, none⟩) (Nat.le_succ _) _).setCell (p := ⟨w.heap.size + 1, _, none⟩) (Nat.le_succ _) _) (hb.mono (Nat.le_trans HB2.out.size (by simp [World.setCell]))))
  clear hb
  go_wp2_with fail
  go_ret
  exact ⟨rfl, HBf.out⟩
theorem ris_28_0 (n : Nt) (ai az : Option Addr) (ci cz : Nat) (w : World) (h : NtL w ai az n) (hN : nmB n.n true = false) : IsC 28 n ai az ci cz w false := by
  unfold IsC
  obtain ⟨HB0, HX, HY⟩ := nTwo 28 n ai az ci cz w
  have HR := Lib.hid (fun W (hb : Below w.heap.size w W) => h.below hb)
  have CN := Lib.hid (fun W => risN_any n.n W (Nat.le_trans h.hn (by decide)))
  rw [hN] at CN
  clear hN
  clear h
  have mX := bx11 HX.out
  go_enter Tryz.func11, Tryz.ntmps11
  go_wp2_with fail
  clear mX
  refine (CN.out _).mono ?_
  rintro e w1 ⟨rfl, hb⟩
  replace HX := kpB hb HX
  replace HY := kpB hb HY
  have HB1 := trB HB0 hb
  clear hb
  have mX := bx11 HX.out
  have kX := bx22 HY.out
  go_wp2_with fail
  clear CN
  go_ret
  exact ⟨rfl, (((HB1.out.setCell (p := ⟨w.heap.size + 1, _, none⟩) (Nat.le_succ _) _).setCell (p := ⟨w.heap.size + 1, _, none⟩) (Nat.le_succ _) _).setCell (p := ⟨w.heap.size + 1, _, none⟩) (Nat.le_succ _) _)⟩
theorem ris_28_1 (n : Nt) (ai az : Option Addr) (ci cz : Nat) (w : World) (h : NtL w ai az n) (hN : nmB n.n true = true) (h2 : txB n.x 2000 = false) : IsC 28 n ai az ci cz w false := by
  unfold IsC
  obtain ⟨HB0, HX, HY⟩ := nTwo 28 n ai az ci cz w
  have HR := Lib.hid (fun W (hb : Below w.heap.size w W) => h.below hb)
  have CN := Lib.hid (fun W => risN_any n.n W (Nat.le_trans h.hn (by decide)))
  rw [hN] at CN
  clear hN
  have C2 := Lib.hid (fun W => rtext14_any n.x 2000 W (Nat.le_trans h.hx (by decide)))
  rw [h2] at C2
  clear h2
  clear h
  have mX := bx11 HX.out
  go_enter Tryz.func11, Tryz.ntmps11
  go_wp2_with fail
  clear mX
  refine (CN.out _).mono ?_
  rintro e w1 ⟨rfl, hb⟩
  replace HX := kpB hb HX
  replace HY := kpB hb HY
  have HB1 := trB HB0 hb
  clear hb
  have mX := bx11 HX.out
  have kX := bx22 HY.out
  go_wp2_with fail
  clear CN
  refine (C2.out _).mono ?_
  rintro e w2 ⟨rfl, hb⟩
  clear mX
  clear kX
  replace HX := kpB hb HX
  replace HY := kpB hb HY
  have HB2 := trB HB1 hb
  clear hb
  have mX := bx11 HX.out
  have kX := bx22 HY.out
  go_wp2_with fail
  clear C2
  go_ret
  exact ⟨rfl, (((HB2.out.setCell (p := ⟨w.heap.size + 1, _, none⟩) (Nat.le_succ _) _).setCell (p := ⟨w.heap.size + 1, _, none⟩) (Nat.le_succ _) _).setCell (p := ⟨w.heap.size + 1, _, none⟩) (Nat.le_succ _) _)⟩
theorem ris_28_y (n : Nt) (ai az : Option Addr) (ci cz : Nat) (w : World) (h : NtL w ai az n) (hN : nmB n.n true = true) (h2 : txB n.x 2000 = true) : Calls Tryz.prog 11 #[.agg #[.int .i64 28, .string n.n, .string n.x, .string n.d, .int .i64 n.c, .int .i64 n.s, .int .i64 n.e, .int .i64 n.t, .bool n.o, .slice ai n.l.length ci, .slice az n.z.length cz]] w (Gives (.bool (eqv (⟨0, ⟨#[]⟩, ⟨#[]⟩, n.d, n.c, n.s, n.e, n.t, false, n.l, n.z⟩ : Nt) zN)) w) := by
  obtain ⟨HB0, HX, HY⟩ := nTwo 28 n ai az ci cz w
  have HR := Lib.hid (fun W (hb : Below w.heap.size w W) => h.below hb)
  have CN := Lib.hid (fun W => risN_any n.n W (Nat.le_trans h.hn (by decide)))
  rw [hN] at CN
  clear hN
  have C2 := Lib.hid (fun W => rtext14_any n.x 2000 W (Nat.le_trans h.hx (by decide)))
  rw [h2] at C2
  clear h2
  have CE : Hid (∀ W, Below w.heap.size w W → Calls Tryz.prog 13 #[.agg #[.int .i64 0, .string ⟨#[]⟩, .string ⟨#[]⟩, .string n.d, .int .i64 n.c, .int .i64 n.s, .int .i64 n.e, .int .i64 n.t, .bool false, .slice ai n.l.length ci, .slice az n.z.length cz], .agg #[.int .i64 0, .string ⟨#[]⟩, .string ⟨#[]⟩, .string ⟨#[]⟩, .int .i64 0, .int .i64 0, .int .i64 0, .int .i64 0, .bool false, .slice none 0 0, .slice none 0 0]] W (Gives (.bool (eqv (⟨0, ⟨#[]⟩, ⟨#[]⟩, n.d, n.c, n.s, n.e, n.t, false, n.l, n.z⟩ : Nt) zN)) W)) := fun W hb => by
    have hl := h.below hb
    have k := rsame_any (⟨0, ⟨#[]⟩, ⟨#[]⟩, n.d, n.c, n.s, n.e, n.t, false, n.l, n.z⟩ : Nt) zN ai az none none ci cz 0 0 W ⟨⟨Nat.zero_le _, Nat.zero_le _, hl.hd, hl.hI, hl.hZ⟩, hl.hin, hl.hiz, hl.hzn⟩ ⟨⟨Nat.zero_le _, Nat.zero_le _, Nat.zero_le _, ItS.nil _ _, CdS.nil _ _⟩, Nat.zero_le _, (fun y hy => by cases hy), Nat.zero_le _⟩
    exact k
  generalize eqv (⟨0, ⟨#[]⟩, ⟨#[]⟩, n.d, n.c, n.s, n.e, n.t, false, n.l, n.z⟩ : Nt) zN = R at CE ⊢
  clear h
  have mX := bx11 HX.out
  go_enter Tryz.func11, Tryz.ntmps11
  go_wp2_with fail
  clear mX
  refine (CN.out _).mono ?_
  rintro e w1 ⟨rfl, hb⟩
  replace HX := kpB hb HX
  replace HY := kpB hb HY
  have HB1 := trB HB0 hb
  clear hb
  have mX := bx11 HX.out
  have kX := bx22 HY.out
  go_wp2_with fail
  clear CN
  refine (C2.out _).mono ?_
  rintro e w2 ⟨rfl, hb⟩
  clear mX
  clear kX
  replace HX := kpB hb HX
  replace HY := kpB hb HY
  have HB2 := trB HB1 hb
  clear hb
  have mX := bx11 HX.out
  have kX := bx22 HY.out
  go_wp2_with fail
  clear C2
  refine (CE.out _ (((HB2.out.setCell (p := ⟨w.heap.size + 1, _, none⟩) (Nat.le_succ _) _).setCell (p := ⟨w.heap.size + 1, _, none⟩) (Nat.le_succ _) _).setCell (p := ⟨w.heap.size + 1, _, none⟩) (Nat.le_succ _) _)).mono ?_
  rintro e wf ⟨rfl, hb⟩
  clear mX
  clear kX
  have HBf := Lib.hid (Below.trans (((HB2.out.setCell (p := ⟨w.heap.size + 1, _, none⟩) (Nat.le_succ _) _).setCell (p := ⟨w.heap.size + 1, _, none⟩) (Nat.le_succ _) _).setCell (p := ⟨w.heap.size + 1, _, none⟩) (Nat.le_succ _) _) (hb.mono (Nat.le_trans HB2.out.size (by simp [World.setCell]))))
  clear hb
  go_wp2_with fail
  go_ret
  exact ⟨rfl, HBf.out⟩
theorem ris_29_0 (n : Nt) (ai az : Option Addr) (ci cz : Nat) (w : World) (h : NtL w ai az n) (hN : nmB n.n true = false) : IsC 29 n ai az ci cz w false := by
  unfold IsC
  obtain ⟨HB0, HX, HY⟩ := nTwo 29 n ai az ci cz w
  have HR := Lib.hid (fun W (hb : Below w.heap.size w W) => h.below hb)
  have CN := Lib.hid (fun W => risN_any n.n W (Nat.le_trans h.hn (by decide)))
  rw [hN] at CN
  clear hN
  clear h
  have mX := bx11 HX.out
  go_enter Tryz.func11, Tryz.ntmps11
  go_wp2_with fail
  clear mX
  refine (CN.out _).mono ?_
  rintro e w1 ⟨rfl, hb⟩
  replace HX := kpB hb HX
  replace HY := kpB hb HY
  have HB1 := trB HB0 hb
  clear hb
  have mX := bx11 HX.out
  have kX := bx22 HY.out
  go_wp2_with fail
  clear CN
  go_ret
  exact ⟨rfl, (((HB1.out.setCell (p := ⟨w.heap.size + 1, _, none⟩) (Nat.le_succ _) _).setCell (p := ⟨w.heap.size + 1, _, none⟩) (Nat.le_succ _) _).setCell (p := ⟨w.heap.size + 1, _, none⟩) (Nat.le_succ _) _)⟩
theorem ris_29_1 (n : Nt) (ai az : Option Addr) (ci cz : Nat) (w : World) (h : NtL w ai az n) (hN : nmB n.n true = true) (h2 : txB n.x 2000 = false) : IsC 29 n ai az ci cz w false := by
  unfold IsC
  obtain ⟨HB0, HX, HY⟩ := nTwo 29 n ai az ci cz w
  have HR := Lib.hid (fun W (hb : Below w.heap.size w W) => h.below hb)
  have CN := Lib.hid (fun W => risN_any n.n W (Nat.le_trans h.hn (by decide)))
  rw [hN] at CN
  clear hN
  have C2 := Lib.hid (fun W => rtext14_any n.x 2000 W (Nat.le_trans h.hx (by decide)))
  rw [h2] at C2
  clear h2
  clear h
  have mX := bx11 HX.out
  go_enter Tryz.func11, Tryz.ntmps11
  go_wp2_with fail
  clear mX
  refine (CN.out _).mono ?_
  rintro e w1 ⟨rfl, hb⟩
  replace HX := kpB hb HX
  replace HY := kpB hb HY
  have HB1 := trB HB0 hb
  clear hb
  have mX := bx11 HX.out
  have kX := bx22 HY.out
  go_wp2_with fail
  clear CN
  refine (C2.out _).mono ?_
  rintro e w2 ⟨rfl, hb⟩
  clear mX
  clear kX
  replace HX := kpB hb HX
  replace HY := kpB hb HY
  have HB2 := trB HB1 hb
  clear hb
  have mX := bx11 HX.out
  have kX := bx22 HY.out
  go_wp2_with fail
  clear C2
  go_ret
  exact ⟨rfl, (((HB2.out.setCell (p := ⟨w.heap.size + 1, _, none⟩) (Nat.le_succ _) _).setCell (p := ⟨w.heap.size + 1, _, none⟩) (Nat.le_succ _) _).setCell (p := ⟨w.heap.size + 1, _, none⟩) (Nat.le_succ _) _)⟩
theorem ris_29_y (n : Nt) (ai az : Option Addr) (ci cz : Nat) (w : World) (h : NtL w ai az n) (hN : nmB n.n true = true) (h2 : txB n.x 2000 = true) : Calls Tryz.prog 11 #[.agg #[.int .i64 29, .string n.n, .string n.x, .string n.d, .int .i64 n.c, .int .i64 n.s, .int .i64 n.e, .int .i64 n.t, .bool n.o, .slice ai n.l.length ci, .slice az n.z.length cz]] w (Gives (.bool (eqv (⟨0, ⟨#[]⟩, ⟨#[]⟩, n.d, n.c, n.s, n.e, n.t, false, n.l, n.z⟩ : Nt) zN)) w) := by
  obtain ⟨HB0, HX, HY⟩ := nTwo 29 n ai az ci cz w
  have HR := Lib.hid (fun W (hb : Below w.heap.size w W) => h.below hb)
  have CN := Lib.hid (fun W => risN_any n.n W (Nat.le_trans h.hn (by decide)))
  rw [hN] at CN
  clear hN
  have C2 := Lib.hid (fun W => rtext14_any n.x 2000 W (Nat.le_trans h.hx (by decide)))
  rw [h2] at C2
  clear h2
  have CE : Hid (∀ W, Below w.heap.size w W → Calls Tryz.prog 13 #[.agg #[.int .i64 0, .string ⟨#[]⟩, .string ⟨#[]⟩, .string n.d, .int .i64 n.c, .int .i64 n.s, .int .i64 n.e, .int .i64 n.t, .bool false, .slice ai n.l.length ci, .slice az n.z.length cz], .agg #[.int .i64 0, .string ⟨#[]⟩, .string ⟨#[]⟩, .string ⟨#[]⟩, .int .i64 0, .int .i64 0, .int .i64 0, .int .i64 0, .bool false, .slice none 0 0, .slice none 0 0]] W (Gives (.bool (eqv (⟨0, ⟨#[]⟩, ⟨#[]⟩, n.d, n.c, n.s, n.e, n.t, false, n.l, n.z⟩ : Nt) zN)) W)) := fun W hb => by
    have hl := h.below hb
    have k := rsame_any (⟨0, ⟨#[]⟩, ⟨#[]⟩, n.d, n.c, n.s, n.e, n.t, false, n.l, n.z⟩ : Nt) zN ai az none none ci cz 0 0 W ⟨⟨Nat.zero_le _, Nat.zero_le _, hl.hd, hl.hI, hl.hZ⟩, hl.hin, hl.hiz, hl.hzn⟩ ⟨⟨Nat.zero_le _, Nat.zero_le _, Nat.zero_le _, ItS.nil _ _, CdS.nil _ _⟩, Nat.zero_le _, (fun y hy => by cases hy), Nat.zero_le _⟩
    exact k
  generalize eqv (⟨0, ⟨#[]⟩, ⟨#[]⟩, n.d, n.c, n.s, n.e, n.t, false, n.l, n.z⟩ : Nt) zN = R at CE ⊢
  clear h
  have mX := bx11 HX.out
  go_enter Tryz.func11, Tryz.ntmps11
  go_wp2_with fail
  clear mX
  refine (CN.out _).mono ?_
  rintro e w1 ⟨rfl, hb⟩
  replace HX := kpB hb HX
  replace HY := kpB hb HY
  have HB1 := trB HB0 hb
  clear hb
  have mX := bx11 HX.out
  have kX := bx22 HY.out
  go_wp2_with fail
  clear CN
  refine (C2.out _).mono ?_
  rintro e w2 ⟨rfl, hb⟩
  clear mX
  clear kX
  replace HX := kpB hb HX
  replace HY := kpB hb HY
  have HB2 := trB HB1 hb
  clear hb
  have mX := bx11 HX.out
  have kX := bx22 HY.out
  go_wp2_with fail
  clear C2
  refine (CE.out _ (((HB2.out.setCell (p := ⟨w.heap.size + 1, _, none⟩) (Nat.le_succ _) _).setCell (p := ⟨w.heap.size + 1, _, none⟩) (Nat.le_succ _) _).setCell (p := ⟨w.heap.size + 1, _, none⟩) (Nat.le_succ _) _)).mono ?_
  rintro e wf ⟨rfl, hb⟩
  clear mX
  clear kX
  have HBf := Lib.hid (Below.trans (((HB2.out.setCell (p := ⟨w.heap.size + 1, _, none⟩) (Nat.le_succ _) _).setCell (p := ⟨w.heap.size + 1, _, none⟩) (Nat.le_succ _) _).setCell (p := ⟨w.heap.size + 1, _, none⟩) (Nat.le_succ _) _) (hb.mono (Nat.le_trans HB2.out.size (by simp [World.setCell]))))
  clear hb
  go_wp2_with fail
  go_ret
  exact ⟨rfl, HBf.out⟩
theorem ris_k (n : Nt) (ai az : Option Addr) (ci cz : Nat) (w : World) (h : NtL w ai az n) (e1 : (n.k == 1) = false) (e2 : (n.k == 2) = false) (e3 : (n.k == 3) = false) (e4 : (n.k == 4) = false) (e5 : (n.k == 5) = false) (e6 : (n.k == 6) = false) (e7 : (n.k == 7) = false) (e8 : (n.k == 8) = false) (e9 : (n.k == 9) = false) (e10 : (n.k == 10) = false) (e11 : (n.k == 11) = false) (e12 : (n.k == 12) = false) (e13 : (n.k == 13) = false) (e14 : (n.k == 14) = false) (e15 : (n.k == 15) = false) (e16 : (n.k == 16) = false) (e17 : (n.k == 17) = false) (e18 : (n.k == 18) = false) (e19 : (n.k == 19) = false) (e20 : (n.k == 20) = false) (e21 : (n.k == 21) = false) (e22 : (n.k == 22) = false) (e23 : (n.k == 23) = false) (e24 : (n.k == 24) = false) (e25 : (n.k == 25) = false) (e26 : (n.k == 26) = false) (e27 : (n.k == 27) = false) (e28 : (n.k == 28) = false) (e29 : (n.k == 29) = false) : IsC n.k n ai az ci cz w false := by
  unfold IsC
  obtain ⟨HB0, HX, HY⟩ := nTwo n.k n ai az ci cz w
  have HR := Lib.hid (fun W (hb : Below w.heap.size w W) => h.below hb)
  have CN := Lib.hid (fun W => risN_any n.n W (Nat.le_trans h.hn (by decide)))
  generalize nmB n.n true = qn at CN
  clear h
  have mX := bx11 HX.out
  go_enter Tryz.func11, Tryz.ntmps11
  go_wp2_with fail
  clear mX
  refine (CN.out _).mono ?_
  rintro e w1 ⟨rfl, hb⟩
  replace HX := kpB hb HX
  replace HY := kpB hb HY
  have HB1 := trB HB0 hb
  clear hb
  have mX := bx11 HX.out
  have kX := bx22 HY.out
  go_wp2_with fail
  clear CN
  go_ret
  exact ⟨rfl, HB1.out⟩
end Go.Proofs.YtiodjaeonoheiaaGreatDoor.T
