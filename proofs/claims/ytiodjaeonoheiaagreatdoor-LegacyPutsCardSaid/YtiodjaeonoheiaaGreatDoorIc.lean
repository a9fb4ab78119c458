/- The document's Is, kinds 5, 14, 6. Conditions: those of each theorem's head. -/
import Derived.Test.YtiodjaeonoheiaaGreatDoorIb
set_option maxRecDepth 100000
set_option maxHeartbeats 8000000
namespace Go.Proofs.YtiodjaeonoheiaaGreatDoor.T
open Go.RowKit Go.Lib
theorem ris_5_0 (n : Nt) (ai az : Option Addr) (ci cz : Nat) (w : World) (h : NtL w ai az n) (hN : nmB n.n true = false) : IsC 5 n ai az ci cz w false := by
  unfold IsC
  obtain ⟨HB0, HX, HY⟩ := nTwo 5 n ai az ci cz w
  have HR := Lib.hid (fun W (hb : Below w.heap.size w W) => h.below hb)
  have CN := Lib.hid (fun W => risN_any n.n W (Nat.le_trans h.hn (by decide)))
  rw [hN] at CN
  clear hN
  clear h
  have mX := bx11 HX.out
  go_enter Tryz.func11, Tryz.ntmps11
  go_wp2_with fail
  clear mX
  refine (CN.out _).mono ?_
  rintro e w1 ⟨rfl, hb⟩
  replace HX := kpB hb HX
  replace HY := kpB hb HY
  have HB1 := trB HB0 hb
  clear hb
  have mX := bx11 HX.out
  have kX := bx22 HY.out
  go_wp2_with fail
  clear CN
  go_ret
  exact ⟨rfl, (HB1.out.setCell (p := ⟨w.heap.size + 1, _, none⟩) (Nat.le_succ _) _)⟩
theorem ris_5_y (n : Nt) (ai az : Option Addr) (ci cz : Nat) (w : World) (h : NtL w ai az n) (hN : nmB n.n true = true) : Calls Tryz.prog 11 #[.agg #[.int .i64 5, .string n.n, .string n.x, .string n.d, .int .i64 n.c, .int .i64 n.s, .int .i64 n.e, .int .i64 n.t, .bool n.o, .slice ai n.l.length ci, .slice az n.z.length cz]] w (Gives (.bool (eqv (⟨0, ⟨#[]⟩, n.x, n.d, n.c, n.s, n.e, n.t, n.o, n.l, n.z⟩ : Nt) zN)) w) := by
  obtain ⟨HB0, HX, HY⟩ := nTwo 5 n ai az ci cz w
  have HR := Lib.hid (fun W (hb : Below w.heap.size w W) => h.below hb)
  have CN := Lib.hid (fun W => risN_any n.n W (Nat.le_trans h.hn (by decide)))
  rw [hN] at CN
  clear hN
  have CE : Hid (∀ W, Below w.heap.size w W → Calls Tryz.prog 13 #[.agg #[.int .i64 0, .string ⟨#[]⟩, .string n.x, .string n.d, .int .i64 n.c, .int .i64 n.s, .int .i64 n.e, .int .i64 n.t, .bool n.o, .slice ai n.l.length ci, .slice az n.z.length cz], .agg #[.int .i64 0, .string ⟨#[]⟩, .string ⟨#[]⟩, .string ⟨#[]⟩, .int .i64 0, .int .i64 0, .int .i64 0, .int .i64 0, .bool false, .slice none 0 0, .slice none 0 0]] W (Gives (.bool (eqv (⟨0, ⟨#[]⟩, n.x, n.d, n.c, n.s, n.e, n.t, n.o, n.l, n.z⟩ : Nt) zN)) W)) := fun W hb => by
    have hl := h.below hb
    have k := rsame_any (⟨0, ⟨#[]⟩, n.x, n.d, n.c, n.s, n.e, n.t, n.o, n.l, n.z⟩ : Nt) zN ai az none none ci cz 0 0 W ⟨⟨Nat.zero_le _, hl.hx, hl.hd, hl.hI, hl.hZ⟩, hl.hin, hl.hiz, hl.hzn⟩ ⟨⟨Nat.zero_le _, Nat.zero_le _, Nat.zero_le _, ItS.nil _ _, CdS.nil _ _⟩, Nat.zero_le _, (fun y hy => by cases hy), Nat.zero_le _⟩
    exact k
  generalize eqv (⟨0, ⟨#[]⟩, n.x, n.d, n.c, n.s, n.e, n.t, n.o, n.l, n.z⟩ : Nt) zN = R at CE ⊢
  clear h
  have mX := bx11 HX.out
  go_enter Tryz.func11, Tryz.ntmps11
  go_wp2_with fail
  clear mX
  refine (CN.out _).mono ?_
  rintro e w1 ⟨rfl, hb⟩
  replace HX := kpB hb HX
  replace HY := kpB hb HY
  have HB1 := trB HB0 hb
  clear hb
  have mX := bx11 HX.out
  have kX := bx22 HY.out
  go_wp2_with fail
  clear CN
  refine (CE.out _ (HB1.out.setCell (p := ⟨w.heap.size + 1, _, none⟩) (Nat.le_succ _) _)).mono ?_
  rintro e wf ⟨rfl, hb⟩
  clear mX
  clear kX
  have HBf := Lib.hid (Below.trans (HB1.out.setCell (p := ⟨w.heap.size + 1, _, none⟩) (Nat.le_succ _) _) (hb.mono (Nat.le_trans HB1.out.size (by simp [World.setCell]))))
  clear hb
  go_wp2_with fail
  go_ret
  exact ⟨rfl, HBf.out⟩
theorem ris_14_0 (n : Nt) (ai az : Option Addr) (ci cz : Nat) (w : World) (h : NtL w ai az n) (hN : nmB n.n true = false) : IsC 14 n ai az ci cz w false := by
  unfold IsC
  obtain ⟨HB0, HX, HY⟩ := nTwo 14 n ai az ci cz w
  have HR := Lib.hid (fun W (hb : Below w.heap.size w W) => h.below hb)
  have CN := Lib.hid (fun W => risN_any n.n W (Nat.le_trans h.hn (by decide)))
  rw [hN] at CN
  clear hN
  clear h
  have mX := bx11 HX.out
  go_enter Tryz.func11, Tryz.ntmps11
  go_wp2_with fail
  clear mX
  refine (CN.out _).mono ?_
  rintro e w1 ⟨rfl, hb⟩
  replace HX := kpB hb HX
  replace HY := kpB hb HY
  have HB1 := trB HB0 hb
  clear hb
  have mX := bx11 HX.out
  have kX := bx22 HY.out
  go_wp2_with fail
  clear CN
  go_ret
  exact ⟨rfl, (HB1.out.setCell (p := ⟨w.heap.size + 1, _, none⟩) (Nat.le_succ _) _)⟩
theorem ris_14_y (n : Nt) (ai az : Option Addr) (ci cz : Nat) (w : World) (h : NtL w ai az n) (hN : nmB n.n true = true) : Calls Tryz.prog 11 #[.agg #[.int .i64 14, .string n.n, .string n.x, .string n.d, .int .i64 n.c, .int .i64 n.s, .int .i64 n.e, .int .i64 n.t, .bool n.o, .slice ai n.l.length ci, .slice az n.z.length cz]] w (Gives (.bool (eqv (⟨0, ⟨#[]⟩, n.x, n.d, n.c, n.s, n.e, n.t, n.o, n.l, n.z⟩ : Nt) zN)) w) := by
  obtain ⟨HB0, HX, HY⟩ := nTwo 14 n ai az ci cz w
  have HR := Lib.hid (fun W (hb : Below w.heap.size w W) => h.below hb)
  have CN := Lib.hid (fun W => risN_any n.n W (Nat.le_trans h.hn (by decide)))
  rw [hN] at CN
  clear hN
  have CE : Hid (∀ W, Below w.heap.size w W → Calls Tryz.prog 13 #[.agg #[.int .i64 0, .string ⟨#[]⟩, .string n.x, .string n.d, .int .i64 n.c, .int .i64 n.s, .int .i64 n.e, .int .i64 n.t, .bool n.o, .slice ai n.l.length ci, .slice az n.z.length cz], .agg #[.int .i64 0, .string ⟨#[]⟩, .string ⟨#[]⟩, .string ⟨#[]⟩, .int .i64 0, .int .i64 0, .int .i64 0, .int .i64 0, .bool false, .slice none 0 0, .slice none 0 0]] W (Gives (.bool (eqv (⟨0, ⟨#[]⟩, n.x, n.d, n.c, n.s, n.e, n.t, n.o, n.l, n.z⟩ : Nt) zN)) W)) := fun W hb => by
    have hl := h.below hb
    have k := rsame_any (⟨0, ⟨#[]⟩, n.x, n.d, n.c, n.s, n.e, n.t, n.o, n.l, n.z⟩ : Nt) zN ai az none none ci cz 0 0 W ⟨⟨Nat.zero_le _, hl.hx, hl.hd, hl.hI, hl.hZ⟩, hl.hin, hl.hiz, hl.hzn⟩ ⟨⟨Nat.zero_le _, Nat.zero_le _, Nat.zero_le _, ItS.nil _ _, CdS.nil _ _⟩, Nat.zero_le _, (fun y hy => by cases hy), Nat.zero_le _⟩
    exact k
  generalize eqv (⟨0, ⟨#[]⟩, n.x, n.d, n.c, n.s, n.e, n.t, n.o, n.l, n.z⟩ : Nt) zN = R at CE ⊢
  clear h
  have mX := bx11 HX.out
  go_enter Tryz.func11, Tryz.ntmps11
  go_wp2_with fail
  clear mX
  refine (CN.out _).mono ?_
  rintro e w1 ⟨rfl, hb⟩
  replace HX := kpB hb HX
  replace HY := kpB hb HY
  have HB1 := trB HB0 hb
  clear hb
  have mX := bx11 HX.out
  have kX := bx22 HY.out
  go_wp2_with fail
  clear CN
  refine (CE.out _ (HB1.out.setCell (p := ⟨w.heap.size + 1, _, none⟩) (Nat.le_succ _) _)).mono ?_
  rintro e wf ⟨rfl, hb⟩
  clear mX
  clear kX
  have HBf := Lib.hid (Below.trans (HB1.out.setCell (p := ⟨w.heap.size + 1, _, none⟩) (Nat.le_succ _) _) (hb.mono (Nat.le_trans HB1.out.size (by simp [World.setCell]))))
  clear hb
  go_wp2_with fail
  go_ret
  exact ⟨rfl, HBf.out⟩
theorem ris_6_0 (n : Nt) (ai az : Option Addr) (ci cz : Nat) (w : World) (h : NtL w ai az n) (h1 : inB n.d.size 1 64 = false) : IsC 6 n ai az ci cz w false := by
  unfold IsC
  obtain ⟨HB0, HX, HY⟩ := nTwo 6 n ai az ci cz w
  have HR := Lib.hid (fun W (hb : Below w.heap.size w W) => h.below hb)
  have CN := Lib.hid (fun W => risN_any n.n W (Nat.le_trans h.hn (by decide)))
  generalize nmB n.n true = qn at CN
  have C1 := Lib.hid (fun W => rwithin_any n.d.size 1 64 W)
  rw [h1] at C1
  clear h1
  clear h
  have mX := bx11 HX.out
  go_enter Tryz.func11, Tryz.ntmps11
  go_wp2_with fail
  clear mX
  refine (CN.out _).mono ?_
  rintro e w1 ⟨rfl, hb⟩
  replace HX := kpB hb HX
  replace HY := kpB hb HY
  have HB1 := trB HB0 hb
  clear hb
  have mX := bx11 HX.out
  have kX := bx22 HY.out
  go_wp2_with fail
  clear CN
  refine (C1.out _).mono ?_
  rintro e wz ⟨rfl, hw⟩
  have hw := hw.symm
  subst hw
  go_wp2_with fail
  go_ret
  exact ⟨rfl, (HB1.out.setCell (p := ⟨w.heap.size + 1, _, none⟩) (Nat.le_succ _) _)⟩
theorem ris_6_y (n : Nt) (ai az : Option Addr) (ci cz : Nat) (w : World) (h : NtL w ai az n) (h1 : inB n.d.size 1 64 = true) : Calls Tryz.prog 11 #[.agg #[.int .i64 6, .string n.n, .string n.x, .string n.d, .int .i64 n.c, .int .i64 n.s, .int .i64 n.e, .int .i64 n.t, .bool n.o, .slice ai n.l.length ci, .slice az n.z.length cz]] w (Gives (.bool (eqv (⟨0, n.n, n.x, ⟨#[]⟩, n.c, n.s, n.e, n.t, n.o, n.l, n.z⟩ : Nt) zN)) w) := by
  obtain ⟨HB0, HX, HY⟩ := nTwo 6 n ai az ci cz w
  have HR := Lib.hid (fun W (hb : Below w.heap.size w W) => h.below hb)
  have CN := Lib.hid (fun W => risN_any n.n W (Nat.le_trans h.hn (by decide)))
  generalize nmB n.n true = qn at CN
  have C1 := Lib.hid (fun W => rwithin_any n.d.size 1 64 W)
  rw [h1] at C1
  clear h1
  have CE : Hid (∀ W, Below w.heap.size w W → Calls Tryz.prog 13 #[.agg #[.int .i64 0, .string n.n, .string n.x, .string ⟨#[]⟩, .int .i64 n.c, .int .i64 n.s, .int .i64 n.e, .int .i64 n.t, .bool n.o, .slice ai n.l.length ci, .slice az n.z.length cz], .agg #[.int .i64 0, .string ⟨#[]⟩, .string ⟨#[]⟩, .string ⟨#[]⟩, .int .i64 0, .int .i64 0, .int .i64 0, .int .i64 0, .bool false, .slice none 0 0, .slice none 0 0]] W (Gives (.bool (eqv (⟨0, n.n, n.x, ⟨#[]⟩, n.c, n.s, n.e, n.t, n.o, n.l, n.z⟩ : Nt) zN)) W)) := fun W hb => by
    have hl := h.below hb
    have k := rsame_any (⟨0, n.n, n.x, ⟨#[]⟩, n.c, n.s, n.e, n.t, n.o, n.l, n.z⟩ : Nt) zN ai az none none ci cz 0 0 W ⟨⟨hl.hn, hl.hx, Nat.zero_le _, hl.hI, hl.hZ⟩, hl.hin, hl.hiz, hl.hzn⟩ ⟨⟨Nat.zero_le _, Nat.zero_le _, Nat.zero_le _, ItS.nil _ _, CdS.nil _ _⟩, Nat.zero_le _, (fun y hy => by cases hy), Nat.zero_le _⟩
    exact k
  generalize eqv (⟨0, n.n, n.x, ⟨#[]⟩, n.c, n.s, n.e, n.t, n.o, n.l, n.z⟩ : Nt) zN = R at CE ⊢
  clear h
  have mX := bx11 HX.out
  go_enter Tryz.func11, Tryz.ntmps11
  go_wp2_with fail
  clear mX
  refine (CN.out _).mono ?_
  rintro e w1 ⟨rfl, hb⟩
  replace HX := kpB hb HX
  replace HY := kpB hb HY
  have HB1 := trB HB0 hb
  clear hb
  have mX := bx11 HX.out
  have kX := bx22 HY.out
  go_wp2_with fail
  clear CN
  refine (C1.out _).mono ?_
  rintro e wz ⟨rfl, hw⟩
  have hw := hw.symm
  subst hw
  go_wp2_with fail
  refine (CE.out _ (HB1.out.setCell (p := ⟨w.heap.size + 1, _, none⟩) (Nat.le_succ _) _)).mono ?_
  rintro e wf ⟨rfl, hb⟩
  clear mX
  clear kX
  have HBf := Lib.hid (Below.trans (HB1.out.setCell (p := ⟨w.heap.size + 1, _, none⟩) (Nat.le_succ _) _) (hb.mono (Nat.le_trans HB1.out.size (by simp [World.setCell]))))
  clear hb
  go_wp2_with fail
  go_ret
  exact ⟨rfl, HBf.out⟩
end Go.Proofs.YtiodjaeonoheiaaGreatDoor.T
