/- The document's Is, kinds 17, 18, 19, 20, 21, 22. Conditions: those of each theorem's head. -/
import Derived.Test.YtiodjaeonoheiaaGreatDoorIb
set_option maxRecDepth 100000
set_option maxHeartbeats 8000000
namespace Go.Proofs.YtiodjaeonoheiaaGreatDoor.T
open Go.RowKit Go.Lib
theorem ris_17_0 (n : Nt) (ai az : Option Addr) (ci cz : Nat) (w : World) (h : NtL w ai az n) (h1 : inB n.t 0 4294967295 = false) : IsC 17 n ai az ci cz w false := by
  unfold IsC
  obtain ⟨HB0, HX, HY⟩ := nTwo 17 n ai az ci cz w
  have HR := Lib.hid (fun W (hb : Below w.heap.size w W) => h.below hb)
  have CN := Lib.hid (fun W => risN_any n.n W (Nat.le_trans h.hn (by decide)))
  generalize nmB n.n true = qn at CN
  have C1 := Lib.hid (fun W => rwithin_any n.t 0 4294967295 W)
  rw [h1] at C1
  clear h1
  clear h
  have mX := bx11 HX.out
  go_enter Tryz.func11, Tryz.ntmps11
  go_wp2_with fail
  clear mX
  refine (CN.out _).mono ?_
  rintro e w1 ⟨rfl, hb⟩
  replace HX := kpB hb HX
  replace HY := kpB hb HY
  have HB1 := trB HB0 hb
  clear hb
  have mX := bx11 HX.out
  have kX := bx22 HY.out
  go_wp2_with fail
  clear CN
  refine (C1.out _).mono ?_
  rintro e wz ⟨rfl, hw⟩
  have hw := hw.symm
  subst hw
  go_wp2_with fail
  go_ret
  exact ⟨rfl, ((HB1.out.setCell (p := ⟨w.heap.size + 1, _, none⟩) (Nat.le_succ _) _).setCell (p := ⟨w.heap.size + 1, _, none⟩) (Nat.le_succ _) _)⟩
theorem ris_17_1 (n : Nt) (ai az : Option Addr) (ci cz : Nat) (w : World) (h : NtL w ai az n) (h1 : inB n.t 0 4294967295 = true) (h2 : inB n.c 0 65535 = false) : IsC 17 n ai az ci cz w false := by
  unfold IsC
  obtain ⟨HB0, HX, HY⟩ := nTwo 17 n ai az ci cz w
  have HR := Lib.hid (fun W (hb : Below w.heap.size w W) => h.below hb)
  have CN := Lib.hid (fun W => risN_any n.n W (Nat.le_trans h.hn (by decide)))
  generalize nmB n.n true = qn at CN
  have C1 := Lib.hid (fun W => rwithin_any n.t 0 4294967295 W)
  rw [h1] at C1
  clear h1
  have C2 := Lib.hid (fun W => rwithin_any n.c 0 65535 W)
  rw [h2] at C2
  clear h2
  clear h
  have mX := bx11 HX.out
  go_enter Tryz.func11, Tryz.ntmps11
  go_wp2_with fail
  clear mX
  refine (CN.out _).mono ?_
  rintro e w1 ⟨rfl, hb⟩
  replace HX := kpB hb HX
  replace HY := kpB hb HY
  have HB1 := trB HB0 hb
  clear hb
  have mX := bx11 HX.out
  have kX := bx22 HY.out
  go_wp2_with fail
  clear CN
  refine (C1.out _).mono ?_
  rintro e wz ⟨rfl, hw⟩
  have hw := hw.symm
  subst hw
  go_wp2_with fail
  refine (C2.out _).mono ?_
  rintro e wz ⟨rfl, hw⟩
  have hw := hw.symm
  subst hw
  go_wp2_with fail
  go_ret
  exact ⟨rfl, ((HB1.out.setCell (p := ⟨w.heap.size + 1, _, none⟩) (Nat.le_succ _) _).setCell (p := ⟨w.heap.size + 1, _, none⟩) (Nat.le_succ _) _)⟩
theorem ris_17_y (n : Nt) (ai az : Option Addr) (ci cz : Nat) (w : World) (h : NtL w ai az n) (h1 : inB n.t 0 4294967295 = true) (h2 : inB n.c 0 65535 = true) : Calls Tryz.prog 11 #[.agg #[.int .i64 17, .string n.n, .string n.x, .string n.d, .int .i64 n.c, .int .i64 n.s, .int .i64 n.e, .int .i64 n.t, .bool n.o, .slice ai n.l.length ci, .slice az n.z.length cz]] w (Gives (.bool (eqv (⟨0, n.n, n.x, n.d, 0, n.s, n.e, 0, n.o, n.l, n.z⟩ : Nt) zN)) w) := by
  obtain ⟨HB0, HX, HY⟩ := nTwo 17 n ai az ci cz w
  have HR := Lib.hid (fun W (hb : Below w.heap.size w W) => h.below hb)
  have CN := Lib.hid (fun W => risN_any n.n W (Nat.le_trans h.hn (by decide)))
  generalize nmB n.n true = qn at CN
  have C1 := Lib.hid (fun W => rwithin_any n.t 0 4294967295 W)
  rw [h1] at C1
  clear h1
  have C2 := Lib.hid (fun W => rwithin_any n.c 0 65535 W)
  rw [h2] at C2
  clear h2
  have CE : Hid (∀ W, Below w.heap.size w W → Calls Tryz.prog 13 #[.agg #[.int .i64 0, .string n.n, .string n.x, .string n.d, .int .i64 0, .int .i64 n.s, .int .i64 n.e, .int .i64 0, .bool n.o, .slice ai n.l.length ci, .slice az n.z.length cz], .agg #[.int .i64 0, .string ⟨#[]⟩, .string ⟨#[]⟩, .string ⟨#[]⟩, .int .i64 0, .int .i64 0, .int .i64 0, .int .i64 0, .bool false, .slice none 0 0, .slice none 0 0]] W (Gives (.bool (eqv (⟨0, n.n, n.x, n.d, 0, n.s, n.e, 0, n.o, n.l, n.z⟩ : Nt) zN)) W)) := fun W hb => by
    have hl := h.below hb
    have k := rsame_any (⟨0, n.n, n.x, n.d, 0, n.s, n.e, 0, n.o, n.l, n.z⟩ : Nt) zN ai az none none ci cz 0 0 W ⟨⟨hl.hn, hl.hx, hl.hd, hl.hI, hl.hZ⟩, hl.hin, hl.hiz, hl.hzn⟩ ⟨⟨Nat.zero_le _, Nat.zero_le _, Nat.zero_le _, ItS.nil _ _, CdS.nil _ _⟩, Nat.zero_le _, (fun y hy => by cases hy), Nat.zero_le _⟩
    exact k
  generalize eqv (⟨0, n.n, n.x, n.d, 0, n.s, n.e, 0, n.o, n.l, n.z⟩ : Nt) zN = R at CE ⊢
  clear h
  have mX := bx11 HX.out
  go_enter Tryz.func11, Tryz.ntmps11
  go_wp2_with fail
  clear mX
  refine (CN.out _).mono ?_
  rintro e w1 ⟨rfl, hb⟩
  replace HX := kpB hb HX
  replace HY := kpB hb HY
  have HB1 := trB HB0 hb
  clear hb
  have mX := bx11 HX.out
  have kX := bx22 HY.out
  go_wp2_with fail
  clear CN
  refine (C1.out _).mono ?_
  rintro e wz ⟨rfl, hw⟩
  have hw := hw.symm
  subst hw
  go_wp2_with fail
  refine (C2.out _).mono ?_
  rintro e wz ⟨rfl, hw⟩
  have hw := hw.symm
  subst hw
  go_wp2_with fail
  refine (CE.out _ ((HB1.out.setCell (p := ⟨w.heap.size + 1, _, none⟩) (Nat.le_succ _) _).setCell (p := ⟨w.heap.size + 1, _, none⟩) (Nat.le_succ _) _)).mono ?_
  rintro e wf ⟨rfl, hb⟩
  clear mX
  clear kX
  have HBf := Lib.hid (Below.trans ((HB1.out.setCell (p := ⟨w.heap.size + 1, _, none⟩) (Nat.le_succ _) _).setCell (p := ⟨w.heap.size + 1, _, none⟩) (Nat.le_succ _) _) (hb.mono (Nat.le_trans HB1.out.size (by simp [World.setCell]))))
  clear hb
  go_wp2_with fail
  go_ret
  exact ⟨rfl, HBf.out⟩
theorem ris_18_0 (n : Nt) (ai az : Option Addr) (ci cz : Nat) (w : World) (h : NtL w ai az n) (h1 : (inB n.l.length 0 100 && n.l.all itB) = false) : IsC 18 n ai az ci cz w false := by
  unfold IsC
  obtain ⟨HB0, HX, HY⟩ := nTwo 18 n ai az ci cz w
  have HR := Lib.hid (fun W (hb : Below w.heap.size w W) => h.below hb)
  have CN := Lib.hid (fun W => risN_any n.n W (Nat.le_trans h.hn (by decide)))
  generalize nmB n.n true = qn at CN
  have C1 := Lib.hid (fun W (hb : Below w.heap.size w W) => ritems_any n.l ai ci 0 W (h.hI.below hb) h.hin (fun y hy => ⟨Nat.le_trans (h.hiz y hy).1 (by decide), Nat.le_trans (h.hiz y hy).2 (by decide)⟩))
  rw [h1] at C1
  clear h1
  clear h
  have mX := bx11 HX.out
  go_enter Tryz.func11, Tryz.ntmps11
  go_wp2_with fail
  clear mX
  refine (CN.out _).mono ?_
  rintro e w1 ⟨rfl, hb⟩
  replace HX := kpB hb HX
  replace HY := kpB hb HY
  have HB1 := trB HB0 hb
  clear hb
  have mX := bx11 HX.out
  have kX := bx22 HY.out
  go_wp2_with fail
  clear CN
  refine (C1.out _ HB1.out).mono ?_
  rintro e w2 ⟨rfl, hb⟩
  clear mX
  clear kX
  replace HX := kpB hb HX
  replace HY := kpB hb HY
  have HB2 := trB HB1 hb
  clear hb
  have mX := bx11 HX.out
  have kX := bx22 HY.out
  go_wp2_with fail
  clear C1
  go_ret
  exact ⟨rfl, ((HB2.out.setCell (p := ⟨w.heap.size + 1, _, none⟩) (Nat.le_succ _) _).setCell (p := ⟨w.heap.size + 1, _, none⟩) (Nat.le_succ _) _)⟩
theorem ris_18_1 (n : Nt) (ai az : Option Addr) (ci cz : Nat) (w : World) (h : NtL w ai az n) (h1 : (inB n.l.length 0 100 && n.l.all itB) = true) (h2 : inB n.t 0 4294967295 = false) : IsC 18 n ai az ci cz w false := by
  unfold IsC
  obtain ⟨HB0, HX, HY⟩ := nTwo 18 n ai az ci cz w
  have HR := Lib.hid (fun W (hb : Below w.heap.size w W) => h.below hb)
  have CN := Lib.hid (fun W => risN_any n.n W (Nat.le_trans h.hn (by decide)))
  generalize nmB n.n true = qn at CN
  have C1 := Lib.hid (fun W (hb : Below w.heap.size w W) => ritems_any n.l ai ci 0 W (h.hI.below hb) h.hin (fun y hy => ⟨Nat.le_trans (h.hiz y hy).1 (by decide), Nat.le_trans (h.hiz y hy).2 (by decide)⟩))
  rw [h1] at C1
  clear h1
  have C2 := Lib.hid (fun W => rwithin_any n.t 0 4294967295 W)
  rw [h2] at C2
  clear h2
  clear h
  have mX := bx11 HX.out
  go_enter Tryz.func11, Tryz.ntmps11
  go_wp2_with fail
  clear mX
  refine (CN.out _).mono ?_
  rintro e w1 ⟨rfl, hb⟩
  replace HX := kpB hb HX
  replace HY := kpB hb HY
  have HB1 := trB HB0 hb
  clear hb
  have mX := bx11 HX.out
  have kX := bx22 HY.out
  go_wp2_with fail
  clear CN
  refine (C1.out _ HB1.out).mono ?_
  rintro e w2 ⟨rfl, hb⟩
  clear mX
  clear kX
  replace HX := kpB hb HX
  replace HY := kpB hb HY
  have HB2 := trB HB1 hb
  clear hb
  have mX := bx11 HX.out
  have kX := bx22 HY.out
  go_wp2_with fail
  clear C1
  refine (C2.out _).mono ?_
  rintro e wz ⟨rfl, hw⟩
  have hw := hw.symm
  subst hw
  go_wp2_with fail
  go_ret
  exact ⟨rfl, ((HB2.out.setCell (p := ⟨w.heap.size + 1, _, none⟩) (Nat.le_succ _) _).setCell (p := ⟨w.heap.size + 1, _, none⟩) (Nat.le_succ _) _)⟩
theorem ris_18_y (n : Nt) (ai az : Option Addr) (ci cz : Nat) (w : World) (h : NtL w ai az n) (h1 : (inB n.l.length 0 100 && n.l.all itB) = true) (h2 : inB n.t 0 4294967295 = true) : Calls Tryz.prog 11 #[.agg #[.int .i64 18, .string n.n, .string n.x, .string n.d, .int .i64 n.c, .int .i64 n.s, .int .i64 n.e, .int .i64 n.t, .bool n.o, .slice ai n.l.length ci, .slice az n.z.length cz]] w (Gives (.bool (eqv (⟨0, n.n, n.x, n.d, n.c, n.s, n.e, 0, n.o, [], n.z⟩ : Nt) zN)) w) := by
  obtain ⟨HB0, HX, HY⟩ := nTwo 18 n ai az ci cz w
  have HR := Lib.hid (fun W (hb : Below w.heap.size w W) => h.below hb)
  have CN := Lib.hid (fun W => risN_any n.n W (Nat.le_trans h.hn (by decide)))
  generalize nmB n.n true = qn at CN
  have C1 := Lib.hid (fun W (hb : Below w.heap.size w W) => ritems_any n.l ai ci 0 W (h.hI.below hb) h.hin (fun y hy => ⟨Nat.le_trans (h.hiz y hy).1 (by decide), Nat.le_trans (h.hiz y hy).2 (by decide)⟩))
  rw [h1] at C1
  clear h1
  have C2 := Lib.hid (fun W => rwithin_any n.t 0 4294967295 W)
  rw [h2] at C2
  clear h2
  have CE : Hid (∀ W, Below w.heap.size w W → Calls Tryz.prog 13 #[.agg #[.int .i64 0, .string n.n, .string n.x, .string n.d, .int .i64 n.c, .int .i64 n.s, .int .i64 n.e, .int .i64 0, .bool n.o, .slice none 0 0, .slice az n.z.length cz], .agg #[.int .i64 0, .string ⟨#[]⟩, .string ⟨#[]⟩, .string ⟨#[]⟩, .int .i64 0, .int .i64 0, .int .i64 0, .int .i64 0, .bool false, .slice none 0 0, .slice none 0 0]] W (Gives (.bool (eqv (⟨0, n.n, n.x, n.d, n.c, n.s, n.e, 0, n.o, [], n.z⟩ : Nt) zN)) W)) := fun W hb => by
    have hl := h.below hb
    have k := rsame_any (⟨0, n.n, n.x, n.d, n.c, n.s, n.e, 0, n.o, [], n.z⟩ : Nt) zN none az none none 0 cz 0 0 W ⟨⟨hl.hn, hl.hx, hl.hd, ItS.nil _ _, hl.hZ⟩, Nat.zero_le _, (fun y hy => by cases hy), hl.hzn⟩ ⟨⟨Nat.zero_le _, Nat.zero_le _, Nat.zero_le _, ItS.nil _ _, CdS.nil _ _⟩, Nat.zero_le _, (fun y hy => by cases hy), Nat.zero_le _⟩
    exact k
  generalize eqv (⟨0, n.n, n.x, n.d, n.c, n.s, n.e, 0, n.o, [], n.z⟩ : Nt) zN = R at CE ⊢
  clear h
  have mX := bx11 HX.out
  go_enter Tryz.func11, Tryz.ntmps11
  go_wp2_with fail
  clear mX
  refine (CN.out _).mono ?_
  rintro e w1 ⟨rfl, hb⟩
  replace HX := kpB hb HX
  replace HY := kpB hb HY
  have HB1 := trB HB0 hb
  clear hb
  have mX := bx11 HX.out
  have kX := bx22 HY.out
  go_wp2_with fail
  clear CN
  refine (C1.out _ HB1.out).mono ?_
  rintro e w2 ⟨rfl, hb⟩
  clear mX
  clear kX
  replace HX := kpB hb HX
  replace HY := kpB hb HY
  have HB2 := trB HB1 hb
  clear hb
  have mX := bx11 HX.out
  have kX := bx22 HY.out
  go_wp2_with fail
  clear C1
  refine (C2.out _).mono ?_
  rintro e wz ⟨rfl, hw⟩
  have hw := hw.symm
  subst hw
  go_wp2_with fail
  refine (CE.out _ ((HB2.out.setCell (p := ⟨w.heap.size + 1, _, none⟩) (Nat.le_succ _) _).setCell (p := ⟨w.heap.size + 1, _, none⟩) (Nat.le_succ _) _)).mono ?_
  rintro e wf ⟨rfl, hb⟩
  clear mX
  clear kX
  have HBf := Lib.hid (Below.trans ((HB2.out.setCell (p := ⟨w.heap.size + 1, _, none⟩) (Nat.le_succ _) _).setCell (p := ⟨w.heap.size + 1, _, none⟩) (Nat.le_succ _) _) (hb.mono (Nat.le_trans HB2.out.size (by simp [World.setCell]))))
  clear hb
  go_wp2_with fail
  go_ret
  exact ⟨rfl, HBf.out⟩
theorem ris_19_0 (n : Nt) (ai az : Option Addr) (ci cz : Nat) (w : World) (h : NtL w ai az n) (h1 : inB n.t 0 4294967295 = false) : IsC 19 n ai az ci cz w false := by
  unfold IsC
  obtain ⟨HB0, HX, HY⟩ := nTwo 19 n ai az ci cz w
  have HR := Lib.hid (fun W (hb : Below w.heap.size w W) => h.below hb)
  have CN := Lib.hid (fun W => risN_any n.n W (Nat.le_trans h.hn (by decide)))
  generalize nmB n.n true = qn at CN
  have C1 := Lib.hid (fun W => rwithin_any n.t 0 4294967295 W)
  rw [h1] at C1
  clear h1
  clear h
  have mX := bx11 HX.out
  go_enter Tryz.func11, Tryz.ntmps11
  go_wp2_with fail
  clear mX
  refine (CN.out _).mono ?_
  rintro e w1 ⟨rfl, hb⟩
  replace HX := kpB hb HX
  replace HY := kpB hb HY
  have HB1 := trB HB0 hb
  clear hb
  have mX := bx11 HX.out
  have kX := bx22 HY.out
  go_wp2_with fail
  clear CN
  refine (C1.out _).mono ?_
  rintro e wz ⟨rfl, hw⟩
  have hw := hw.symm
  subst hw
  go_wp2_with fail
  go_ret
  exact ⟨rfl, ((HB1.out.setCell (p := ⟨w.heap.size + 1, _, none⟩) (Nat.le_succ _) _).setCell (p := ⟨w.heap.size + 1, _, none⟩) (Nat.le_succ _) _)⟩
theorem ris_19_1 (n : Nt) (ai az : Option Addr) (ci cz : Nat) (w : World) (h : NtL w ai az n) (h1 : inB n.t 0 4294967295 = true) (h2 : inB n.c 0 65535 = false) : IsC 19 n ai az ci cz w false := by
  unfold IsC
  obtain ⟨HB0, HX, HY⟩ := nTwo 19 n ai az ci cz w
  have HR := Lib.hid (fun W (hb : Below w.heap.size w W) => h.below hb)
  have CN := Lib.hid (fun W => risN_any n.n W (Nat.le_trans h.hn (by decide)))
  generalize nmB n.n true = qn at CN
  have C1 := Lib.hid (fun W => rwithin_any n.t 0 4294967295 W)
  rw [h1] at C1
  clear h1
  have C2 := Lib.hid (fun W => rwithin_any n.c 0 65535 W)
  rw [h2] at C2
  clear h2
  clear h
  have mX := bx11 HX.out
  go_enter Tryz.func11, Tryz.ntmps11
  go_wp2_with fail
  clear mX
  refine (CN.out _).mono ?_
  rintro e w1 ⟨rfl, hb⟩
  replace HX := kpB hb HX
  replace HY := kpB hb HY
  have HB1 := trB HB0 hb
  clear hb
  have mX := bx11 HX.out
  have kX := bx22 HY.out
  go_wp2_with fail
  clear CN
  refine (C1.out _).mono ?_
  rintro e wz ⟨rfl, hw⟩
  have hw := hw.symm
  subst hw
  go_wp2_with fail
  refine (C2.out _).mono ?_
  rintro e wz ⟨rfl, hw⟩
  have hw := hw.symm
  subst hw
  go_wp2_with fail
  go_ret
  exact ⟨rfl, ((HB1.out.setCell (p := ⟨w.heap.size + 1, _, none⟩) (Nat.le_succ _) _).setCell (p := ⟨w.heap.size + 1, _, none⟩) (Nat.le_succ _) _)⟩
theorem ris_19_y (n : Nt) (ai az : Option Addr) (ci cz : Nat) (w : World) (h : NtL w ai az n) (h1 : inB n.t 0 4294967295 = true) (h2 : inB n.c 0 65535 = true) : Calls Tryz.prog 11 #[.agg #[.int .i64 19, .string n.n, .string n.x, .string n.d, .int .i64 n.c, .int .i64 n.s, .int .i64 n.e, .int .i64 n.t, .bool n.o, .slice ai n.l.length ci, .slice az n.z.length cz]] w (Gives (.bool (eqv (⟨0, n.n, n.x, n.d, 0, n.s, n.e, 0, n.o, n.l, n.z⟩ : Nt) zN)) w) := by
  obtain ⟨HB0, HX, HY⟩ := nTwo 19 n ai az ci cz w
  have HR := Lib.hid (fun W (hb : Below w.heap.size w W) => h.below hb)
  have CN := Lib.hid (fun W => risN_any n.n W (Nat.le_trans h.hn (by decide)))
  generalize nmB n.n true = qn at CN
  have C1 := Lib.hid (fun W => rwithin_any n.t 0 4294967295 W)
  rw [h1] at C1
  clear h1
  have C2 := Lib.hid (fun W => rwithin_any n.c 0 65535 W)
  rw [h2] at C2
  clear h2
  have CE : Hid (∀ W, Below w.heap.size w W → Calls Tryz.prog 13 #[.agg #[.int .i64 0, .string n.n, .string n.x, .string n.d, .int .i64 0, .int .i64 n.s, .int .i64 n.e, .int .i64 0, .bool n.o, .slice ai n.l.length ci, .slice az n.z.length cz], .agg #[.int .i64 0, .string ⟨#[]⟩, .string ⟨#[]⟩, .string ⟨#[]⟩, .int .i64 0, .int .i64 0, .int .i64 0, .int .i64 0, .bool false, .slice none 0 0, .slice none 0 0]] W (Gives (.bool (eqv (⟨0, n.n, n.x, n.d, 0, n.s, n.e, 0, n.o, n.l, n.z⟩ : Nt) zN)) W)) := fun W hb => by
    have hl := h.below hb
    have k := rsame_any (⟨0, n.n, n.x, n.d, 0, n.s, n.e, 0, n.o, n.l, n.z⟩ : Nt) zN ai az none none ci cz 0 0 W ⟨⟨hl.hn, hl.hx, hl.hd, hl.hI, hl.hZ⟩, hl.hin, hl.hiz, hl.hzn⟩ ⟨⟨Nat.zero_le _, Nat.zero_le _, Nat.zero_le _, ItS.nil _ _, CdS.nil _ _⟩, Nat.zero_le _, (fun y hy => by cases hy), Nat.zero_le _⟩
    exact k
  generalize eqv (⟨0, n.n, n.x, n.d, 0, n.s, n.e, 0, n.o, n.l, n.z⟩ : Nt) zN = R at CE ⊢
  clear h
  have mX := bx11 HX.out
  go_enter Tryz.func11, Tryz.ntmps11
  go_wp2_with fail
  clear mX
  refine (CN.out _).mono ?_
  rintro e w1 ⟨rfl, hb⟩
  replace HX := kpB hb HX
  replace HY := kpB hb HY
  have HB1 := trB HB0 hb
  clear hb
  have mX := bx11 HX.out
  have kX := bx22 HY.out
  go_wp2_with fail
  clear CN
  refine (C1.out _).mono ?_
  rintro e wz ⟨rfl, hw⟩
  have hw := hw.symm
  subst hw
  go_wp2_with fail
  refine (C2.out _).mono ?_
  rintro e wz ⟨rfl, hw⟩
  have hw := hw.symm
  subst hw
  go_wp2_with fail
  refine (CE.out _ ((HB1.out.setCell (p := ⟨w.heap.size + 1, _, none⟩) (Nat.le_succ _) _).setCell (p := ⟨w.heap.size + 1, _, none⟩) (Nat.le_succ _) _)).mono ?_
  rintro e wf ⟨rfl, hb⟩
  clear mX
  clear kX
  have HBf := Lib.hid (Below.trans ((HB1.out.setCell (p := ⟨w.heap.size + 1, _, none⟩) (Nat.le_succ _) _).setCell (p := ⟨w.heap.size + 1, _, none⟩) (Nat.le_succ _) _) (hb.mono (Nat.le_trans HB1.out.size (by simp [World.setCell]))))
  clear hb
  go_wp2_with fail
  go_ret
  exact ⟨rfl, HBf.out⟩
theorem ris_20_0 (n : Nt) (ai az : Option Addr) (ci cz : Nat) (w : World) (h : NtL w ai az n) (h1 : (inB n.l.length 1 100 && n.l.all itB) = false) : IsC 20 n ai az ci cz w false := by
  unfold IsC
  obtain ⟨HB0, HX, HY⟩ := nTwo 20 n ai az ci cz w
  have HR := Lib.hid (fun W (hb : Below w.heap.size w W) => h.below hb)
  have CN := Lib.hid (fun W => risN_any n.n W (Nat.le_trans h.hn (by decide)))
  generalize nmB n.n true = qn at CN
  have C1 := Lib.hid (fun W (hb : Below w.heap.size w W) => ritems_any n.l ai ci 1 W (h.hI.below hb) h.hin (fun y hy => ⟨Nat.le_trans (h.hiz y hy).1 (by decide), Nat.le_trans (h.hiz y hy).2 (by decide)⟩))
  rw [h1] at C1
  clear h1
  clear h
  have mX := bx11 HX.out
  go_enter Tryz.func11, Tryz.ntmps11
  go_wp2_with fail
  clear mX
  refine (CN.out _).mono ?_
  rintro e w1 ⟨rfl, hb⟩
  replace HX := kpB hb HX
  replace HY := kpB hb HY
  have HB1 := trB HB0 hb
  clear hb
  have mX := bx11 HX.out
  have kX := bx22 HY.out
  go_wp2_with fail
  clear CN
  refine (C1.out _ HB1.out).mono ?_
  rintro e w2 ⟨rfl, hb⟩
  clear mX
  clear kX
  replace HX := kpB hb HX
  replace HY := kpB hb HY
  have HB2 := trB HB1 hb
  clear hb
  have mX := bx11 HX.out
  have kX := bx22 HY.out
  go_wp2_with fail
  clear C1
  go_ret
  exact ⟨rfl, (HB2.out.setCell (p := ⟨w.heap.size + 1, _, none⟩) (Nat.le_succ _) _)⟩
theorem ris_20_y (n : Nt) (ai az : Option Addr) (ci cz : Nat) (w : World) (h : NtL w ai az n) (h1 : (inB n.l.length 1 100 && n.l.all itB) = true) : Calls Tryz.prog 11 #[.agg #[.int .i64 20, .string n.n, .string n.x, .string n.d, .int .i64 n.c, .int .i64 n.s, .int .i64 n.e, .int .i64 n.t, .bool n.o, .slice ai n.l.length ci, .slice az n.z.length cz]] w (Gives (.bool (eqv (⟨0, n.n, n.x, n.d, n.c, n.s, n.e, n.t, n.o, [], n.z⟩ : Nt) zN)) w) := by
  obtain ⟨HB0, HX, HY⟩ := nTwo 20 n ai az ci cz w
  have HR := Lib.hid (fun W (hb : Below w.heap.size w W) => h.below hb)
  have CN := Lib.hid (fun W => risN_any n.n W (Nat.le_trans h.hn (by decide)))
  generalize nmB n.n true = qn at CN
  have C1 := Lib.hid (fun W (hb : Below w.heap.size w W) => ritems_any n.l ai ci 1 W (h.hI.below hb) h.hin (fun y hy => ⟨Nat.le_trans (h.hiz y hy).1 (by decide), Nat.le_trans (h.hiz y hy).2 (by decide)⟩))
  rw [h1] at C1
  clear h1
  have CE : Hid (∀ W, Below w.heap.size w W → Calls Tryz.prog 13 #[.agg #[.int .i64 0, .string n.n, .string n.x, .string n.d, .int .i64 n.c, .int .i64 n.s, .int .i64 n.e, .int .i64 n.t, .bool n.o, .slice none 0 0, .slice az n.z.length cz], .agg #[.int .i64 0, .string ⟨#[]⟩, .string ⟨#[]⟩, .string ⟨#[]⟩, .int .i64 0, .int .i64 0, .int .i64 0, .int .i64 0, .bool false, .slice none 0 0, .slice none 0 0]] W (Gives (.bool (eqv (⟨0, n.n, n.x, n.d, n.c, n.s, n.e, n.t, n.o, [], n.z⟩ : Nt) zN)) W)) := fun W hb => by
    have hl := h.below hb
    have k := rsame_any (⟨0, n.n, n.x, n.d, n.c, n.s, n.e, n.t, n.o, [], n.z⟩ : Nt) zN none az none none 0 cz 0 0 W ⟨⟨hl.hn, hl.hx, hl.hd, ItS.nil _ _, hl.hZ⟩, Nat.zero_le _, (fun y hy => by cases hy), hl.hzn⟩ ⟨⟨Nat.zero_le _, Nat.zero_le _, Nat.zero_le _, ItS.nil _ _, CdS.nil _ _⟩, Nat.zero_le _, (fun y hy => by cases hy), Nat.zero_le _⟩
    exact k
  generalize eqv (⟨0, n.n, n.x, n.d, n.c, n.s, n.e, n.t, n.o, [], n.z⟩ : Nt) zN = R at CE ⊢
  clear h
  have mX := bx11 HX.out
  go_enter Tryz.func11, Tryz.ntmps11
  go_wp2_with fail
  clear mX
  refine (CN.out _).mono ?_
  rintro e w1 ⟨rfl, hb⟩
  replace HX := kpB hb HX
  replace HY := kpB hb HY
  have HB1 := trB HB0 hb
  clear hb
  have mX := bx11 HX.out
  have kX := bx22 HY.out
  go_wp2_with fail
  clear CN
  refine (C1.out _ HB1.out).mono ?_
  rintro e w2 ⟨rfl, hb⟩
  clear mX
  clear kX
  replace HX := kpB hb HX
  replace HY := kpB hb HY
  have HB2 := trB HB1 hb
  clear hb
  have mX := bx11 HX.out
  have kX := bx22 HY.out
  go_wp2_with fail
  clear C1
  refine (CE.out _ (HB2.out.setCell (p := ⟨w.heap.size + 1, _, none⟩) (Nat.le_succ _) _)).mono ?_
  rintro e wf ⟨rfl, hb⟩
  clear mX
  clear kX
  have HBf := Lib.hid (Below.trans (HB2.out.setCell (p := ⟨w.heap.size + 1, _, none⟩) (Nat.le_succ _) _) (hb.mono (Nat.le_trans HB2.out.size (by simp [World.setCell]))))
  clear hb
  go_wp2_with fail
  go_ret
  exact ⟨rfl, HBf.out⟩
theorem ris_21_0 (n : Nt) (ai az : Option Addr) (ci cz : Nat) (w : World) (h : NtL w ai az n) (h1 : (inB n.l.length 1 100 && n.l.all itB) = false) : IsC 21 n ai az ci cz w false := by
  unfold IsC
  obtain ⟨HB0, HX, HY⟩ := nTwo 21 n ai az ci cz w
  have HR := Lib.hid (fun W (hb : Below w.heap.size w W) => h.below hb)
  have CN := Lib.hid (fun W => risN_any n.n W (Nat.le_trans h.hn (by decide)))
  generalize nmB n.n true = qn at CN
  have C1 := Lib.hid (fun W (hb : Below w.heap.size w W) => ritems_any n.l ai ci 1 W (h.hI.below hb) h.hin (fun y hy => ⟨Nat.le_trans (h.hiz y hy).1 (by decide), Nat.le_trans (h.hiz y hy).2 (by decide)⟩))
  rw [h1] at C1
  clear h1
  clear h
  have mX := bx11 HX.out
  go_enter Tryz.func11, Tryz.ntmps11
  go_wp2_with fail
  clear mX
  refine (CN.out _).mono ?_
  rintro e w1 ⟨rfl, hb⟩
  replace HX := kpB hb HX
  replace HY := kpB hb HY
  have HB1 := trB HB0 hb
  clear hb
  have mX := bx11 HX.out
  have kX := bx22 HY.out
  go_wp2_with fail
  clear CN
  refine (C1.out _ HB1.out).mono ?_
  rintro e w2 ⟨rfl, hb⟩
  clear mX
  clear kX
  replace HX := kpB hb HX
  replace HY := kpB hb HY
  have HB2 := trB HB1 hb
  clear hb
  have mX := bx11 HX.out
  have kX := bx22 HY.out
  go_wp2_with fail
  clear C1
  go_ret
  exact ⟨rfl, (HB2.out.setCell (p := ⟨w.heap.size + 1, _, none⟩) (Nat.le_succ _) _)⟩
theorem ris_21_y (n : Nt) (ai az : Option Addr) (ci cz : Nat) (w : World) (h : NtL w ai az n) (h1 : (inB n.l.length 1 100 && n.l.all itB) = true) : Calls Tryz.prog 11 #[.agg #[.int .i64 21, .string n.n, .string n.x, .string n.d, .int .i64 n.c, .int .i64 n.s, .int .i64 n.e, .int .i64 n.t, .bool n.o, .slice ai n.l.length ci, .slice az n.z.length cz]] w (Gives (.bool (eqv (⟨0, n.n, n.x, n.d, n.c, n.s, n.e, n.t, n.o, [], n.z⟩ : Nt) zN)) w) := by
  obtain ⟨HB0, HX, HY⟩ := nTwo 21 n ai az ci cz w
  have HR := Lib.hid (fun W (hb : Below w.heap.size w W) => h.below hb)
  have CN := Lib.hid (fun W => risN_any n.n W (Nat.le_trans h.hn (by decide)))
  generalize nmB n.n true = qn at CN
  have C1 := Lib.hid (fun W (hb : Below w.heap.size w W) => ritems_any n.l ai ci 1 W (h.hI.below hb) h.hin (fun y hy => ⟨Nat.le_trans (h.hiz y hy).1 (by decide), Nat.le_trans (h.hiz y hy).2 (by decide)⟩))
  rw [h1] at C1
  clear h1
  have CE : Hid (∀ W, Below w.heap.size w W → Calls Tryz.prog 13 #[.agg #[.int .i64 0, .string n.n, .string n.x, .string n.d, .int .i64 n.c, .int .i64 n.s, .int .i64 n.e, .int .i64 n.t, .bool n.o, .slice none 0 0, .slice az n.z.length cz], .agg #[.int .i64 0, .string ⟨#[]⟩, .string ⟨#[]⟩, .string ⟨#[]⟩, .int .i64 0, .int .i64 0, .int .i64 0, .int .i64 0, .bool false, .slice none 0 0, .slice none 0 0]] W (Gives (.bool (eqv (⟨0, n.n, n.x, n.d, n.c, n.s, n.e, n.t, n.o, [], n.z⟩ : Nt) zN)) W)) := fun W hb => by
    have hl := h.below hb
    have k := rsame_any (⟨0, n.n, n.x, n.d, n.c, n.s, n.e, n.t, n.o, [], n.z⟩ : Nt) zN none az none none 0 cz 0 0 W ⟨⟨hl.hn, hl.hx, hl.hd, ItS.nil _ _, hl.hZ⟩, Nat.zero_le _, (fun y hy => by cases hy), hl.hzn⟩ ⟨⟨Nat.zero_le _, Nat.zero_le _, Nat.zero_le _, ItS.nil _ _, CdS.nil _ _⟩, Nat.zero_le _, (fun y hy => by cases hy), Nat.zero_le _⟩
    exact k
  generalize eqv (⟨0, n.n, n.x, n.d, n.c, n.s, n.e, n.t, n.o, [], n.z⟩ : Nt) zN = R at CE ⊢
  clear h
  have mX := bx11 HX.out
  go_enter Tryz.func11, Tryz.ntmps11
  go_wp2_with fail
  clear mX
  refine (CN.out _).mono ?_
  rintro e w1 ⟨rfl, hb⟩
  replace HX := kpB hb HX
  replace HY := kpB hb HY
  have HB1 := trB HB0 hb
  clear hb
  have mX := bx11 HX.out
  have kX := bx22 HY.out
  go_wp2_with fail
  clear CN
  refine (C1.out _ HB1.out).mono ?_
  rintro e w2 ⟨rfl, hb⟩
  clear mX
  clear kX
  replace HX := kpB hb HX
  replace HY := kpB hb HY
  have HB2 := trB HB1 hb
  clear hb
  have mX := bx11 HX.out
  have kX := bx22 HY.out
  go_wp2_with fail
  clear C1
  refine (CE.out _ (HB2.out.setCell (p := ⟨w.heap.size + 1, _, none⟩) (Nat.le_succ _) _)).mono ?_
  rintro e wf ⟨rfl, hb⟩
  clear mX
  clear kX
  have HBf := Lib.hid (Below.trans (HB2.out.setCell (p := ⟨w.heap.size + 1, _, none⟩) (Nat.le_succ _) _) (hb.mono (Nat.le_trans HB2.out.size (by simp [World.setCell]))))
  clear hb
  go_wp2_with fail
  go_ret
  exact ⟨rfl, HBf.out⟩
theorem ris_22_0 (n : Nt) (ai az : Option Addr) (ci cz : Nat) (w : World) (h : NtL w ai az n) (h1 : (inB n.l.length 1 100 && n.l.all itB) = false) : IsC 22 n ai az ci cz w false := by
  unfold IsC
  obtain ⟨HB0, HX, HY⟩ := nTwo 22 n ai az ci cz w
  have HR := Lib.hid (fun W (hb : Below w.heap.size w W) => h.below hb)
  have CN := Lib.hid (fun W => risN_any n.n W (Nat.le_trans h.hn (by decide)))
  generalize nmB n.n true = qn at CN
  have C1 := Lib.hid (fun W (hb : Below w.heap.size w W) => ritems_any n.l ai ci 1 W (h.hI.below hb) h.hin (fun y hy => ⟨Nat.le_trans (h.hiz y hy).1 (by decide), Nat.le_trans (h.hiz y hy).2 (by decide)⟩))
  rw [h1] at C1
  clear h1
  clear h
  have mX := bx11 HX.out
  go_enter Tryz.func11, Tryz.ntmps11
  go_wp2_with fail
  clear mX
  refine (CN.out _).mono ?_
  rintro e w1 ⟨rfl, hb⟩
  replace HX := kpB hb HX
  replace HY := kpB hb HY
  have HB1 := trB HB0 hb
  clear hb
  have mX := bx11 HX.out
  have kX := bx22 HY.out
  go_wp2_with fail
  clear CN
  refine (C1.out _ HB1.out).mono ?_
  rintro e w2 ⟨rfl, hb⟩
  clear mX
  clear kX
  replace HX := kpB hb HX
  replace HY := kpB hb HY
  have HB2 := trB HB1 hb
  clear hb
  have mX := bx11 HX.out
  have kX := bx22 HY.out
  go_wp2_with fail
  clear C1
  go_ret
  exact ⟨rfl, (HB2.out.setCell (p := ⟨w.heap.size + 1, _, none⟩) (Nat.le_succ _) _)⟩
theorem ris_22_y (n : Nt) (ai az : Option Addr) (ci cz : Nat) (w : World) (h : NtL w ai az n) (h1 : (inB n.l.length 1 100 && n.l.all itB) = true) : Calls Tryz.prog 11 #[.agg #[.int .i64 22, .string n.n, .string n.x, .string n.d, .int .i64 n.c, .int .i64 n.s, .int .i64 n.e, .int .i64 n.t, .bool n.o, .slice ai n.l.length ci, .slice az n.z.length cz]] w (Gives (.bool (eqv (⟨0, n.n, n.x, n.d, n.c, n.s, n.e, n.t, n.o, [], n.z⟩ : Nt) zN)) w) := by
  obtain ⟨HB0, HX, HY⟩ := nTwo 22 n ai az ci cz w
  have HR := Lib.hid (fun W (hb : Below w.heap.size w W) => h.below hb)
  have CN := Lib.hid (fun W => risN_any n.n W (Nat.le_trans h.hn (by decide)))
  generalize nmB n.n true = qn at CN
  have C1 := Lib.hid (fun W (hb : Below w.heap.size w W) => ritems_any n.l ai ci 1 W (h.hI.below hb) h.hin (fun y hy => ⟨Nat.le_trans (h.hiz y hy).1 (by decide), Nat.le_trans (h.hiz y hy).2 (by decide)⟩))
  rw [h1] at C1
  clear h1
  have CE : Hid (∀ W, Below w.heap.size w W → Calls Tryz.prog 13 #[.agg #[.int .i64 0, .string n.n, .string n.x, .string n.d, .int .i64 n.c, .int .i64 n.s, .int .i64 n.e, .int .i64 n.t, .bool n.o, .slice none 0 0, .slice az n.z.length cz], .agg #[.int .i64 0, .string ⟨#[]⟩, .string ⟨#[]⟩, .string ⟨#[]⟩, .int .i64 0, .int .i64 0, .int .i64 0, .int .i64 0, .bool false, .slice none 0 0, .slice none 0 0]] W (Gives (.bool (eqv (⟨0, n.n, n.x, n.d, n.c, n.s, n.e, n.t, n.o, [], n.z⟩ : Nt) zN)) W)) := fun W hb => by
    have hl := h.below hb
    have k := rsame_any (⟨0, n.n, n.x, n.d, n.c, n.s, n.e, n.t, n.o, [], n.z⟩ : Nt) zN none az none none 0 cz 0 0 W ⟨⟨hl.hn, hl.hx, hl.hd, ItS.nil _ _, hl.hZ⟩, Nat.zero_le _, (fun y hy => by cases hy), hl.hzn⟩ ⟨⟨Nat.zero_le _, Nat.zero_le _, Nat.zero_le _, ItS.nil _ _, CdS.nil _ _⟩, Nat.zero_le _, (fun y hy => by cases hy), Nat.zero_le _⟩
    exact k
  generalize eqv (⟨0, n.n, n.x, n.d, n.c, n.s, n.e, n.t, n.o, [], n.z⟩ : Nt) zN = R at CE ⊢
  clear h
  have mX := bx11 HX.out
  go_enter Tryz.func11, Tryz.ntmps11
  go_wp2_with fail
  clear mX
  refine (CN.out _).mono ?_
  rintro e w1 ⟨rfl, hb⟩
  replace HX := kpB hb HX
  replace HY := kpB hb HY
  have HB1 := trB HB0 hb
  clear hb
  have mX := bx11 HX.out
  have kX := bx22 HY.out
  go_wp2_with fail
  clear CN
  refine (C1.out _ HB1.out).mono ?_
  rintro e w2 ⟨rfl, hb⟩
  clear mX
  clear kX
  replace HX := kpB hb HX
  replace HY := kpB hb HY
  have HB2 := trB HB1 hb
  clear hb
  have mX := bx11 HX.out
  have kX := bx22 HY.out
  go_wp2_with fail
  clear C1
  refine (CE.out _ (HB2.out.setCell (p := ⟨w.heap.size + 1, _, none⟩) (Nat.le_succ _) _)).mono ?_
  rintro e wf ⟨rfl, hb⟩
  clear mX
  clear kX
  have HBf := Lib.hid (Below.trans (HB2.out.setCell (p := ⟨w.heap.size + 1, _, none⟩) (Nat.le_succ _) _) (hb.mono (Nat.le_trans HB2.out.size (by simp [World.setCell]))))
  clear hb
  go_wp2_with fail
  go_ret
  exact ⟨rfl, HBf.out⟩
end Go.Proofs.YtiodjaeonoheiaaGreatDoor.T
