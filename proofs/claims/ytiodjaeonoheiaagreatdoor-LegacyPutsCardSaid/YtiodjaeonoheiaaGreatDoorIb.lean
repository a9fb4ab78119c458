/- The document's Is, kinds 1, 4, 9, 10, 23, 24, 2, 3. Conditions: those of each theorem's head. -/
import Derived.Test.YtiodjaeonoheiaaGreatDoorIa
set_option maxRecDepth 100000
set_option maxHeartbeats 8000000
namespace Go.Proofs.YtiodjaeonoheiaaGreatDoor.T
open Go.RowKit Go.Lib
def IsC (k : Int) (n : Nt) (ai az : Option Addr) (ci cz : Nat) (w : World) (b : Bool) : Prop := Calls Tryz.prog 11 #[.agg #[.int .i64 k, .string n.n, .string n.x, .string n.d, .int .i64 n.c, .int .i64 n.s, .int .i64 n.e, .int .i64 n.t, .bool n.o, .slice ai n.l.length ci, .slice az n.z.length cz]] w (Gives (.bool b) w)
theorem bx22 {w : World} {b : Nat} {v0 v1 v2 v3 v4 v5 v6 v7 v8 v9 v10 : Value} {t : TypeId} (h : w.heap[b]? = some (.cells #[v0, v1, v2, v3, v4, v5, v6, v7, v8, v9, v10] t (0, 0))) : w.cell? ⟨b, 0, none⟩ = some v0 ∧ w.cell? ⟨b, 1, none⟩ = some v1 ∧ w.cell? ⟨b, 2, none⟩ = some v2 ∧ w.cell? ⟨b, 3, none⟩ = some v3 ∧ w.cell? ⟨b, 4, none⟩ = some v4 ∧ w.cell? ⟨b, 5, none⟩ = some v5 ∧ w.cell? ⟨b, 6, none⟩ = some v6 ∧ w.cell? ⟨b, 7, none⟩ = some v7 ∧ w.cell? ⟨b, 8, none⟩ = some v8 ∧ w.cell? ⟨b, 9, none⟩ = some v9 ∧ w.cell? ⟨b, 10, none⟩ = some v10 ∧ w.frozen? ⟨b, 0, none⟩ = false ∧ w.frozen? ⟨b, 1, none⟩ = false ∧ w.frozen? ⟨b, 2, none⟩ = false ∧ w.frozen? ⟨b, 3, none⟩ = false ∧ w.frozen? ⟨b, 4, none⟩ = false ∧ w.frozen? ⟨b, 5, none⟩ = false ∧ w.frozen? ⟨b, 6, none⟩ = false ∧ w.frozen? ⟨b, 7, none⟩ = false ∧ w.frozen? ⟨b, 8, none⟩ = false ∧ w.frozen? ⟨b, 9, none⟩ = false ∧ w.frozen? ⟨b, 10, none⟩ = false := by
  obtain ⟨a0, a1, a2, a3, a4, a5, a6, a7, a8, a9, a10⟩ := bx11 h
  exact ⟨a0, a1, a2, a3, a4, a5, a6, a7, a8, a9, a10, bx11f h⟩
theorem ris_1_y (n : Nt) (ai az : Option Addr) (ci cz : Nat) (w : World) (h : NtL w ai az n) : Calls Tryz.prog 11 #[.agg #[.int .i64 1, .string n.n, .string n.x, .string n.d, .int .i64 n.c, .int .i64 n.s, .int .i64 n.e, .int .i64 n.t, .bool n.o, .slice ai n.l.length ci, .slice az n.z.length cz]] w (Gives (.bool (eqv (⟨0, n.n, n.x, n.d, n.c, n.s, n.e, n.t, n.o, n.l, n.z⟩ : Nt) zN)) w) := by
  obtain ⟨HB0, HX, HY⟩ := nTwo 1 n ai az ci cz w
  have HR := Lib.hid (fun W (hb : Below w.heap.size w W) => h.below hb)
  have CN := Lib.hid (fun W => risN_any n.n W (Nat.le_trans h.hn (by decide)))
  generalize nmB n.n true = qn at CN
  have CE : Hid (∀ W, Below w.heap.size w W → Calls Tryz.prog 13 #[.agg #[.int .i64 0, .string n.n, .string n.x, .string n.d, .int .i64 n.c, .int .i64 n.s, .int .i64 n.e, .int .i64 n.t, .bool n.o, .slice ai n.l.length ci, .slice az n.z.length cz], .agg #[.int .i64 0, .string ⟨#[]⟩, .string ⟨#[]⟩, .string ⟨#[]⟩, .int .i64 0, .int .i64 0, .int .i64 0, .int .i64 0, .bool false, .slice none 0 0, .slice none 0 0]] W (Gives (.bool (eqv (⟨0, n.n, n.x, n.d, n.c, n.s, n.e, n.t, n.o, n.l, n.z⟩ : Nt) zN)) W)) := fun W hb => by
    have hl := h.below hb
    have k := rsame_any (⟨0, n.n, n.x, n.d, n.c, n.s, n.e, n.t, n.o, n.l, n.z⟩ : Nt) zN ai az none none ci cz 0 0 W ⟨⟨hl.hn, hl.hx, hl.hd, hl.hI, hl.hZ⟩, hl.hin, hl.hiz, hl.hzn⟩ ⟨⟨Nat.zero_le _, Nat.zero_le _, Nat.zero_le _, ItS.nil _ _, CdS.nil _ _⟩, Nat.zero_le _, (fun y hy => by cases hy), Nat.zero_le _⟩
    exact k
  generalize eqv (⟨0, n.n, n.x, n.d, n.c, n.s, n.e, n.t, n.o, n.l, n.z⟩ : Nt) zN = R at CE ⊢
  clear h
  have mX := bx11 HX.out
  go_enter Tryz.func11, Tryz.ntmps11
  go_wp2_with fail
  clear mX
  refine (CN.out _).mono ?_
  rintro e w1 ⟨rfl, hb⟩
  replace HX := kpB hb HX
  replace HY := kpB hb HY
  have HB1 := trB HB0 hb
  clear hb
  have mX := bx11 HX.out
  have kX := bx22 HY.out
  go_wp2_with fail
  clear CN
  refine (CE.out _ HB1.out).mono ?_
  rintro e wf ⟨rfl, hb⟩
  clear mX
  clear kX
  have HBf := Lib.hid (Below.trans HB1.out (hb.mono (Nat.le_trans HB1.out.size (by simp))))
  clear hb
  go_wp2_with fail
  go_ret
  exact ⟨rfl, HBf.out⟩
theorem ris_4_y (n : Nt) (ai az : Option Addr) (ci cz : Nat) (w : World) (h : NtL w ai az n) : Calls Tryz.prog 11 #[.agg #[.int .i64 4, .string n.n, .string n.x, .string n.d, .int .i64 n.c, .int .i64 n.s, .int .i64 n.e, .int .i64 n.t, .bool n.o, .slice ai n.l.length ci, .slice az n.z.length cz]] w (Gives (.bool (eqv (⟨0, n.n, n.x, n.d, n.c, n.s, n.e, n.t, n.o, n.l, n.z⟩ : Nt) zN)) w) := by
  obtain ⟨HB0, HX, HY⟩ := nTwo 4 n ai az ci cz w
  have HR := Lib.hid (fun W (hb : Below w.heap.size w W) => h.below hb)
  have CN := Lib.hid (fun W => risN_any n.n W (Nat.le_trans h.hn (by decide)))
  generalize nmB n.n true = qn at CN
  have CE : Hid (∀ W, Below w.heap.size w W → Calls Tryz.prog 13 #[.agg #[.int .i64 0, .string n.n, .string n.x, .string n.d, .int .i64 n.c, .int .i64 n.s, .int .i64 n.e, .int .i64 n.t, .bool n.o, .slice ai n.l.length ci, .slice az n.z.length cz], .agg #[.int .i64 0, .string ⟨#[]⟩, .string ⟨#[]⟩, .string ⟨#[]⟩, .int .i64 0, .int .i64 0, .int .i64 0, .int .i64 0, .bool false, .slice none 0 0, .slice none 0 0]] W (Gives (.bool (eqv (⟨0, n.n, n.x, n.d, n.c, n.s, n.e, n.t, n.o, n.l, n.z⟩ : Nt) zN)) W)) := fun W hb => by
    have hl := h.below hb
    have k := rsame_any (⟨0, n.n, n.x, n.d, n.c, n.s, n.e, n.t, n.o, n.l, n.z⟩ : Nt) zN ai az none none ci cz 0 0 W ⟨⟨hl.hn, hl.hx, hl.hd, hl.hI, hl.hZ⟩, hl.hin, hl.hiz, hl.hzn⟩ ⟨⟨Nat.zero_le _, Nat.zero_le _, Nat.zero_le _, ItS.nil _ _, CdS.nil _ _⟩, Nat.zero_le _, (fun y hy => by cases hy), Nat.zero_le _⟩
    exact k
  generalize eqv (⟨0, n.n, n.x, n.d, n.c, n.s, n.e, n.t, n.o, n.l, n.z⟩ : Nt) zN = R at CE ⊢
  clear h
  have mX := bx11 HX.out
  go_enter Tryz.func11, Tryz.ntmps11
  go_wp2_with fail
  clear mX
  refine (CN.out _).mono ?_
  rintro e w1 ⟨rfl, hb⟩
  replace HX := kpB hb HX
  replace HY := kpB hb HY
  have HB1 := trB HB0 hb
  clear hb
  have mX := bx11 HX.out
  have kX := bx22 HY.out
  go_wp2_with fail
  clear CN
  refine (CE.out _ HB1.out).mono ?_
  rintro e wf ⟨rfl, hb⟩
  clear mX
  clear kX
  have HBf := Lib.hid (Below.trans HB1.out (hb.mono (Nat.le_trans HB1.out.size (by simp))))
  clear hb
  go_wp2_with fail
  go_ret
  exact ⟨rfl, HBf.out⟩
theorem ris_9_y (n : Nt) (ai az : Option Addr) (ci cz : Nat) (w : World) (h : NtL w ai az n) : Calls Tryz.prog 11 #[.agg #[.int .i64 9, .string n.n, .string n.x, .string n.d, .int .i64 n.c, .int .i64 n.s, .int .i64 n.e, .int .i64 n.t, .bool n.o, .slice ai n.l.length ci, .slice az n.z.length cz]] w (Gives (.bool (eqv (⟨0, n.n, n.x, n.d, n.c, n.s, n.e, n.t, n.o, n.l, n.z⟩ : Nt) zN)) w) := by
  obtain ⟨HB0, HX, HY⟩ := nTwo 9 n ai az ci cz w
  have HR := Lib.hid (fun W (hb : Below w.heap.size w W) => h.below hb)
  have CN := Lib.hid (fun W => risN_any n.n W (Nat.le_trans h.hn (by decide)))
  generalize nmB n.n true = qn at CN
  have CE : Hid (∀ W, Below w.heap.size w W → Calls Tryz.prog 13 #[.agg #[.int .i64 0, .string n.n, .string n.x, .string n.d, .int .i64 n.c, .int .i64 n.s, .int .i64 n.e, .int .i64 n.t, .bool n.o, .slice ai n.l.length ci, .slice az n.z.length cz], .agg #[.int .i64 0, .string ⟨#[]⟩, .string ⟨#[]⟩, .string ⟨#[]⟩, .int .i64 0, .int .i64 0, .int .i64 0, .int .i64 0, .bool false, .slice none 0 0, .slice none 0 0]] W (Gives (.bool (eqv (⟨0, n.n, n.x, n.d, n.c, n.s, n.e, n.t, n.o, n.l, n.z⟩ : Nt) zN)) W)) := fun W hb => by
    have hl := h.below hb
    have k := rsame_any (⟨0, n.n, n.x, n.d, n.c, n.s, n.e, n.t, n.o, n.l, n.z⟩ : Nt) zN ai az none none ci cz 0 0 W ⟨⟨hl.hn, hl.hx, hl.hd, hl.hI, hl.hZ⟩, hl.hin, hl.hiz, hl.hzn⟩ ⟨⟨Nat.zero_le _, Nat.zero_le _, Nat.zero_le _, ItS.nil _ _, CdS.nil _ _⟩, Nat.zero_le _, (fun y hy => by cases hy), Nat.zero_le _⟩
    exact k
  generalize eqv (⟨0, n.n, n.x, n.d, n.c, n.s, n.e, n.t, n.o, n.l, n.z⟩ : Nt) zN = R at CE ⊢
  clear h
  have mX := bx11 HX.out
  go_enter Tryz.func11, Tryz.ntmps11
  go_wp2_with fail
  clear mX
  refine (CN.out _).mono ?_
  rintro e w1 ⟨rfl, hb⟩
  replace HX := kpB hb HX
  replace HY := kpB hb HY
  have HB1 := trB HB0 hb
  clear hb
  have mX := bx11 HX.out
  have kX := bx22 HY.out
  go_wp2_with fail
  clear CN
  refine (CE.out _ HB1.out).mono ?_
  rintro e wf ⟨rfl, hb⟩
  clear mX
  clear kX
  have HBf := Lib.hid (Below.trans HB1.out (hb.mono (Nat.le_trans HB1.out.size (by simp))))
  clear hb
  go_wp2_with fail
  go_ret
  exact ⟨rfl, HBf.out⟩
theorem ris_10_y (n : Nt) (ai az : Option Addr) (ci cz : Nat) (w : World) (h : NtL w ai az n) : Calls Tryz.prog 11 #[.agg #[.int .i64 10, .string n.n, .string n.x, .string n.d, .int .i64 n.c, .int .i64 n.s, .int .i64 n.e, .int .i64 n.t, .bool n.o, .slice ai n.l.length ci, .slice az n.z.length cz]] w (Gives (.bool (eqv (⟨0, n.n, n.x, n.d, n.c, n.s, n.e, n.t, n.o, n.l, n.z⟩ : Nt) zN)) w) := by
  obtain ⟨HB0, HX, HY⟩ := nTwo 10 n ai az ci cz w
  have HR := Lib.hid (fun W (hb : Below w.heap.size w W) => h.below hb)
  have CN := Lib.hid (fun W => risN_any n.n W (Nat.le_trans h.hn (by decide)))
  generalize nmB n.n true = qn at CN
  have CE : Hid (∀ W, Below w.heap.size w W → Calls Tryz.prog 13 #[.agg #[.int .i64 0, .string n.n, .string n.x, .string n.d, .int .i64 n.c, .int .i64 n.s, .int .i64 n.e, .int .i64 n.t, .bool n.o, .slice ai n.l.length ci, .slice az n.z.length cz], .agg #[.int .i64 0, .string ⟨#[]⟩, .string ⟨#[]⟩, .string ⟨#[]⟩, .int .i64 0, .int .i64 0, .int .i64 0, .int .i64 0, .bool false, .slice none 0 0, .slice none 0 0]] W (Gives (.bool (eqv (⟨0, n.n, n.x, n.d, n.c, n.s, n.e, n.t, n.o, n.l, n.z⟩ : Nt) zN)) W)) := fun W hb => by
    have hl := h.below hb
    have k := rsame_any (⟨0, n.n, n.x, n.d, n.c, n.s, n.e, n.t, n.o, n.l, n.z⟩ : Nt) zN ai az none none ci cz 0 0 W ⟨⟨hl.hn, hl.hx, hl.hd, hl.hI, hl.hZ⟩, hl.hin, hl.hiz, hl.hzn⟩ ⟨⟨Nat.zero_le _, Nat.zero_le _, Nat.zero_le _, ItS.nil _ _, CdS.nil _ _⟩, Nat.zero_le _, (fun y hy => by cases hy), Nat.zero_le _⟩
    exact k
  generalize eqv (⟨0, n.n, n.x, n.d, n.c, n.s, n.e, n.t, n.o, n.l, n.z⟩ : Nt) zN = R at CE ⊢
  clear h
  have mX := bx11 HX.out
  go_enter Tryz.func11, Tryz.ntmps11
  go_wp2_with fail
  clear mX
  refine (CN.out _).mono ?_
  rintro e w1 ⟨rfl, hb⟩
  replace HX := kpB hb HX
  replace HY := kpB hb HY
  have HB1 := trB HB0 hb
  clear hb
  have mX := bx11 HX.out
  have kX := bx22 HY.out
  go_wp2_with fail
  clear CN
  refine (CE.out _ HB1.out).mono ?_
  rintro e wf ⟨rfl, hb⟩
  clear mX
  clear kX
  have HBf := Lib.hid (Below.trans HB1.out (hb.mono (Nat.le_trans HB1.out.size (by simp))))
  clear hb
  go_wp2_with fail
  go_ret
  exact ⟨rfl, HBf.out⟩
theorem ris_23_y (n : Nt) (ai az : Option Addr) (ci cz : Nat) (w : World) (h : NtL w ai az n) : Calls Tryz.prog 11 #[.agg #[.int .i64 23, .string n.n, .string n.x, .string n.d, .int .i64 n.c, .int .i64 n.s, .int .i64 n.e, .int .i64 n.t, .bool n.o, .slice ai n.l.length ci, .slice az n.z.length cz]] w (Gives (.bool (eqv (⟨0, n.n, n.x, n.d, n.c, n.s, n.e, n.t, n.o, n.l, n.z⟩ : Nt) zN)) w) := by
  obtain ⟨HB0, HX, HY⟩ := nTwo 23 n ai az ci cz w
  have HR := Lib.hid (fun W (hb : Below w.heap.size w W) => h.below hb)
  have CN := Lib.hid (fun W => risN_any n.n W (Nat.le_trans h.hn (by decide)))
  generalize nmB n.n true = qn at CN
  have CE : Hid (∀ W, Below w.heap.size w W → Calls Tryz.prog 13 #[.agg #[.int .i64 0, .string n.n, .string n.x, .string n.d, .int .i64 n.c, .int .i64 n.s, .int .i64 n.e, .int .i64 n.t, .bool n.o, .slice ai n.l.length ci, .slice az n.z.length cz], .agg #[.int .i64 0, .string ⟨#[]⟩, .string ⟨#[]⟩, .string ⟨#[]⟩, .int .i64 0, .int .i64 0, .int .i64 0, .int .i64 0, .bool false, .slice none 0 0, .slice none 0 0]] W (Gives (.bool (eqv (⟨0, n.n, n.x, n.d, n.c, n.s, n.e, n.t, n.o, n.l, n.z⟩ : Nt) zN)) W)) := fun W hb => by
    have hl := h.below hb
    have k := rsame_any (⟨0, n.n, n.x, n.d, n.c, n.s, n.e, n.t, n.o, n.l, n.z⟩ : Nt) zN ai az none none ci cz 0 0 W ⟨⟨hl.hn, hl.hx, hl.hd, hl.hI, hl.hZ⟩, hl.hin, hl.hiz, hl.hzn⟩ ⟨⟨Nat.zero_le _, Nat.zero_le _, Nat.zero_le _, ItS.nil _ _, CdS.nil _ _⟩, Nat.zero_le _, (fun y hy => by cases hy), Nat.zero_le _⟩
    exact k
  generalize eqv (⟨0, n.n, n.x, n.d, n.c, n.s, n.e, n.t, n.o, n.l, n.z⟩ : Nt) zN = R at CE ⊢
  clear h
  have mX := bx11 HX.out
  go_enter Tryz.func11, Tryz.ntmps11
  go_wp2_with fail
  clear mX
  refine (CN.out _).mono ?_
  rintro e w1 ⟨rfl, hb⟩
  replace HX := kpB hb HX
  replace HY := kpB hb HY
  have HB1 := trB HB0 hb
  clear hb
  have mX := bx11 HX.out
  have kX := bx22 HY.out
  go_wp2_with fail
  clear CN
  refine (CE.out _ HB1.out).mono ?_
  rintro e wf ⟨rfl, hb⟩
  clear mX
  clear kX
  have HBf := Lib.hid (Below.trans HB1.out (hb.mono (Nat.le_trans HB1.out.size (by simp))))
  clear hb
  go_wp2_with fail
  go_ret
  exact ⟨rfl, HBf.out⟩
theorem ris_24_y (n : Nt) (ai az : Option Addr) (ci cz : Nat) (w : World) (h : NtL w ai az n) : Calls Tryz.prog 11 #[.agg #[.int .i64 24, .string n.n, .string n.x, .string n.d, .int .i64 n.c, .int .i64 n.s, .int .i64 n.e, .int .i64 n.t, .bool n.o, .slice ai n.l.length ci, .slice az n.z.length cz]] w (Gives (.bool (eqv (⟨0, n.n, n.x, n.d, n.c, n.s, n.e, n.t, n.o, n.l, n.z⟩ : Nt) zN)) w) := by
  obtain ⟨HB0, HX, HY⟩ := nTwo 24 n ai az ci cz w
  have HR := Lib.hid (fun W (hb : Below w.heap.size w W) => h.below hb)
  have CN := Lib.hid (fun W => risN_any n.n W (Nat.le_trans h.hn (by decide)))
  generalize nmB n.n true = qn at CN
  have CE : Hid (∀ W, Below w.heap.size w W → Calls Tryz.prog 13 #[.agg #[.int .i64 0, .string n.n, .string n.x, .string n.d, .int .i64 n.c, .int .i64 n.s, .int .i64 n.e, .int .i64 n.t, .bool n.o, .slice ai n.l.length ci, .slice az n.z.length cz], .agg #[.int .i64 0, .string ⟨#[]⟩, .string ⟨#[]⟩, .string ⟨#[]⟩, .int .i64 0, .int .i64 0, .int .i64 0, .int .i64 0, .bool false, .slice none 0 0, .slice none 0 0]] W (Gives (.bool (eqv (⟨0, n.n, n.x, n.d, n.c, n.s, n.e, n.t, n.o, n.l, n.z⟩ : Nt) zN)) W)) := fun W hb => by
    have hl := h.below hb
    have k := rsame_any (⟨0, n.n, n.x, n.d, n.c, n.s, n.e, n.t, n.o, n.l, n.z⟩ : Nt) zN ai az none none ci cz 0 0 W ⟨⟨hl.hn, hl.hx, hl.hd, hl.hI, hl.hZ⟩, hl.hin, hl.hiz, hl.hzn⟩ ⟨⟨Nat.zero_le _, Nat.zero_le _, Nat.zero_le _, ItS.nil _ _, CdS.nil _ _⟩, Nat.zero_le _, (fun y hy => by cases hy), Nat.zero_le _⟩
    exact k
  generalize eqv (⟨0, n.n, n.x, n.d, n.c, n.s, n.e, n.t, n.o, n.l, n.z⟩ : Nt) zN = R at CE ⊢
  clear h
  have mX := bx11 HX.out
  go_enter Tryz.func11, Tryz.ntmps11
  go_wp2_with fail
  clear mX
  refine (CN.out _).mono ?_
  rintro e w1 ⟨rfl, hb⟩
  replace HX := kpB hb HX
  replace HY := kpB hb HY
  have HB1 := trB HB0 hb
  clear hb
  have mX := bx11 HX.out
  have kX := bx22 HY.out
  go_wp2_with fail
  clear CN
  refine (CE.out _ HB1.out).mono ?_
  rintro e wf ⟨rfl, hb⟩
  clear mX
  clear kX
  have HBf := Lib.hid (Below.trans HB1.out (hb.mono (Nat.le_trans HB1.out.size (by simp))))
  clear hb
  go_wp2_with fail
  go_ret
  exact ⟨rfl, HBf.out⟩
theorem ris_2_0 (n : Nt) (ai az : Option Addr) (ci cz : Nat) (w : World) (h : NtL w ai az n) (h1 : inB n.d.size 1 256 = false) : IsC 2 n ai az ci cz w false := by
  unfold IsC
  obtain ⟨HB0, HX, HY⟩ := nTwo 2 n ai az ci cz w
  have HR := Lib.hid (fun W (hb : Below w.heap.size w W) => h.below hb)
  have CN := Lib.hid (fun W => risN_any n.n W (Nat.le_trans h.hn (by decide)))
  generalize nmB n.n true = qn at CN
  have C1 := Lib.hid (fun W => rwithin_any n.d.size 1 256 W)
  rw [h1] at C1
  clear h1
  clear h
  have mX := bx11 HX.out
  go_enter Tryz.func11, Tryz.ntmps11
  go_wp2_with fail
  clear mX
  refine (CN.out _).mono ?_
  rintro e w1 ⟨rfl, hb⟩
  replace HX := kpB hb HX
  replace HY := kpB hb HY
  have HB1 := trB HB0 hb
  clear hb
  have mX := bx11 HX.out
  have kX := bx22 HY.out
  go_wp2_with fail
  clear CN
  refine (C1.out _).mono ?_
  rintro e wz ⟨rfl, hw⟩
  have hw := hw.symm
  subst hw
  go_wp2_with fail
  go_ret
  exact ⟨rfl, (HB1.out.setCell (p := ⟨w.heap.size + 1, _, none⟩) (Nat.le_succ _) _)⟩
theorem ris_2_y (n : Nt) (ai az : Option Addr) (ci cz : Nat) (w : World) (h : NtL w ai az n) (h1 : inB n.d.size 1 256 = true) : Calls Tryz.prog 11 #[.agg #[.int .i64 2, .string n.n, .string n.x, .string n.d, .int .i64 n.c, .int .i64 n.s, .int .i64 n.e, .int .i64 n.t, .bool n.o, .slice ai n.l.length ci, .slice az n.z.length cz]] w (Gives (.bool (eqv (⟨0, n.n, n.x, ⟨#[]⟩, n.c, n.s, n.e, n.t, n.o, n.l, n.z⟩ : Nt) zN)) w) := by
  obtain ⟨HB0, HX, HY⟩ := nTwo 2 n ai az ci cz w
  have HR := Lib.hid (fun W (hb : Below w.heap.size w W) => h.below hb)
  have CN := Lib.hid (fun W => risN_any n.n W (Nat.le_trans h.hn (by decide)))
  generalize nmB n.n true = qn at CN
  have C1 := Lib.hid (fun W => rwithin_any n.d.size 1 256 W)
  rw [h1] at C1
  clear h1
  have CE : Hid (∀ W, Below w.heap.size w W → Calls Tryz.prog 13 #[.agg #[.int .i64 0, .string n.n, .string n.x, .string ⟨#[]⟩, .int .i64 n.c, .int .i64 n.s, .int .i64 n.e, .int .i64 n.t, .bool n.o, .slice ai n.l.length ci, .slice az n.z.length cz], .agg #[.int .i64 0, .string ⟨#[]⟩, .string ⟨#[]⟩, .string ⟨#[]⟩, .int .i64 0, .int .i64 0, .int .i64 0, .int .i64 0, .bool false, .slice none 0 0, .slice none 0 0]] W (Gives (.bool (eqv (⟨0, n.n, n.x, ⟨#[]⟩, n.c, n.s, n.e, n.t, n.o, n.l, n.z⟩ : Nt) zN)) W)) := fun W hb => by
    have hl := h.below hb
    have k := rsame_any (⟨0, n.n, n.x, ⟨#[]⟩, n.c, n.s, n.e, n.t, n.o, n.l, n.z⟩ : Nt) zN ai az none none ci cz 0 0 W ⟨⟨hl.hn, hl.hx, Nat.zero_le _, hl.hI, hl.hZ⟩, hl.hin, hl.hiz, hl.hzn⟩ ⟨⟨Nat.zero_le _, Nat.zero_le _, Nat.zero_le _, ItS.nil _ _, CdS.nil _ _⟩, Nat.zero_le _, (fun y hy => by cases hy), Nat.zero_le _⟩
    exact k
  generalize eqv (⟨0, n.n, n.x, ⟨#[]⟩, n.c, n.s, n.e, n.t, n.o, n.l, n.z⟩ : Nt) zN = R at CE ⊢
  clear h
  have mX := bx11 HX.out
  go_enter Tryz.func11, Tryz.ntmps11
  go_wp2_with fail
  clear mX
  refine (CN.out _).mono ?_
  rintro e w1 ⟨rfl, hb⟩
  replace HX := kpB hb HX
  replace HY := kpB hb HY
  have HB1 := trB HB0 hb
  clear hb
  have mX := bx11 HX.out
  have kX := bx22 HY.out
  go_wp2_with fail
  clear CN
  refine (C1.out _).mono ?_
  rintro e wz ⟨rfl, hw⟩
  have hw := hw.symm
  subst hw
  go_wp2_with fail
  refine (CE.out _ (HB1.out.setCell (p := ⟨w.heap.size + 1, _, none⟩) (Nat.le_succ _) _)).mono ?_
  rintro e wf ⟨rfl, hb⟩
  clear mX
  clear kX
  have HBf := Lib.hid (Below.trans (HB1.out.setCell (p := ⟨w.heap.size + 1, _, none⟩) (Nat.le_succ _) _) (hb.mono (Nat.le_trans HB1.out.size (by simp [World.setCell]))))
  clear hb
  go_wp2_with fail
  go_ret
  exact ⟨rfl, HBf.out⟩
theorem ris_3_0 (n : Nt) (ai az : Option Addr) (ci cz : Nat) (w : World) (h : NtL w ai az n) (h1 : inB n.c 0 65535 = false) : IsC 3 n ai az ci cz w false := by
  unfold IsC
  obtain ⟨HB0, HX, HY⟩ := nTwo 3 n ai az ci cz w
  have HR := Lib.hid (fun W (hb : Below w.heap.size w W) => h.below hb)
  have CN := Lib.hid (fun W => risN_any n.n W (Nat.le_trans h.hn (by decide)))
  generalize nmB n.n true = qn at CN
  have C1 := Lib.hid (fun W => rwithin_any n.c 0 65535 W)
  rw [h1] at C1
  clear h1
  clear h
  have mX := bx11 HX.out
  go_enter Tryz.func11, Tryz.ntmps11
  go_wp2_with fail
  clear mX
  refine (CN.out _).mono ?_
  rintro e w1 ⟨rfl, hb⟩
  replace HX := kpB hb HX
  replace HY := kpB hb HY
  have HB1 := trB HB0 hb
  clear hb
  have mX := bx11 HX.out
  have kX := bx22 HY.out
  go_wp2_with fail
  clear CN
  refine (C1.out _).mono ?_
  rintro e wz ⟨rfl, hw⟩
  have hw := hw.symm
  subst hw
  go_wp2_with fail
  go_ret
  exact ⟨rfl, (HB1.out.setCell (p := ⟨w.heap.size + 1, _, none⟩) (Nat.le_succ _) _)⟩
theorem ris_3_y (n : Nt) (ai az : Option Addr) (ci cz : Nat) (w : World) (h : NtL w ai az n) (h1 : inB n.c 0 65535 = true) : Calls Tryz.prog 11 #[.agg #[.int .i64 3, .string n.n, .string n.x, .string n.d, .int .i64 n.c, .int .i64 n.s, .int .i64 n.e, .int .i64 n.t, .bool n.o, .slice ai n.l.length ci, .slice az n.z.length cz]] w (Gives (.bool (eqv (⟨0, n.n, n.x, n.d, 0, n.s, n.e, n.t, n.o, n.l, n.z⟩ : Nt) zN)) w) := by
  obtain ⟨HB0, HX, HY⟩ := nTwo 3 n ai az ci cz w
  have HR := Lib.hid (fun W (hb : Below w.heap.size w W) => h.below hb)
  have CN := Lib.hid (fun W => risN_any n.n W (Nat.le_trans h.hn (by decide)))
  generalize nmB n.n true = qn at CN
  have C1 := Lib.hid (fun W => rwithin_any n.c 0 65535 W)
  rw [h1] at C1
  clear h1
  have CE : Hid (∀ W, Below w.heap.size w W → Calls Tryz.prog 13 #[.agg #[.int .i64 0, .string n.n, .string n.x, .string n.d, .int .i64 0, .int .i64 n.s, .int .i64 n.e, .int .i64 n.t, .bool n.o, .slice ai n.l.length ci, .slice az n.z.length cz], .agg #[.int .i64 0, .string ⟨#[]⟩, .string ⟨#[]⟩, .string ⟨#[]⟩, .int .i64 0, .int .i64 0, .int .i64 0, .int .i64 0, .bool false, .slice none 0 0, .slice none 0 0]] W (Gives (.bool (eqv (⟨0, n.n, n.x, n.d, 0, n.s, n.e, n.t, n.o, n.l, n.z⟩ : Nt) zN)) W)) := fun W hb => by
    have hl := h.below hb
    have k := rsame_any (⟨0, n.n, n.x, n.d, 0, n.s, n.e, n.t, n.o, n.l, n.z⟩ : Nt) zN ai az none none ci cz 0 0 W ⟨⟨hl.hn, hl.hx, hl.hd, hl.hI, hl.hZ⟩, hl.hin, hl.hiz, hl.hzn⟩ ⟨⟨Nat.zero_le _, Nat.zero_le _, Nat.zero_le _, ItS.nil _ _, CdS.nil _ _⟩, Nat.zero_le _, (fun y hy => by cases hy), Nat.zero_le _⟩
    exact k
  generalize eqv (⟨0, n.n, n.x, n.d, 0, n.s, n.e, n.t, n.o, n.l, n.z⟩ : Nt) zN = R at CE ⊢
  clear h
  have mX := bx11 HX.out
  go_enter Tryz.func11, Tryz.ntmps11
  go_wp2_with fail
  clear mX
  refine (CN.out _).mono ?_
  rintro e w1 ⟨rfl, hb⟩
  replace HX := kpB hb HX
  replace HY := kpB hb HY
  have HB1 := trB HB0 hb
  clear hb
  have mX := bx11 HX.out
  have kX := bx22 HY.out
  go_wp2_with fail
  clear CN
  refine (C1.out _).mono ?_
  rintro e wz ⟨rfl, hw⟩
  have hw := hw.symm
  subst hw
  go_wp2_with fail
  refine (CE.out _ (HB1.out.setCell (p := ⟨w.heap.size + 1, _, none⟩) (Nat.le_succ _) _)).mono ?_
  rintro e wf ⟨rfl, hb⟩
  clear mX
  clear kX
  have HBf := Lib.hid (Below.trans (HB1.out.setCell (p := ⟨w.heap.size + 1, _, none⟩) (Nat.le_succ _) _) (hb.mono (Nat.le_trans HB1.out.size (by simp [World.setCell]))))
  clear hb
  go_wp2_with fail
  go_ret
  exact ⟨rfl, HBf.out⟩
end Go.Proofs.YtiodjaeonoheiaaGreatDoor.T
