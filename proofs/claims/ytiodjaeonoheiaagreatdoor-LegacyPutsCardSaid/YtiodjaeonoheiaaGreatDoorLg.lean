/- The walk of the law LegacyPuts. Conditions: the tables of places and of widths hold what the program's text lays; a note takes at most what a machine can hold. -/
import Derived.Test.YtiodjaeonoheiaaGreatDoorZu
import Derived.Test.YtiodjaeonoheiaaGreatDoorZv
import Derived.Test.YtiodjaeonoheiaaGreatDoorBd
set_option maxRecDepth 100000
set_option maxHeartbeats 8000000
namespace Go.Proofs.YtiodjaeonoheiaaGreatDoor.T
open Go.RowKit Go.Lib
def lcl (k : Int) : Int := if (plc k).1 = 2 then Q.cls (plc k).2.1 else 0
theorem puts_walk (n m : Nt) (ai az bi bz : Option Addr) (ci cz di dz : Nat) (req kind : Int) (w : World) (h : NtR w ai az n) (h' : NtR w bi bz m) (hG : Gp w) : Calls Tryz.prog 3 #[nA n ai az ci cz, nA m bi bz di dz, .int .i64 req, .int .i64 kind] w (OkL w) := by
  unfold nA
  obtain ⟨HB0, HX, HY⟩ := bxTwo w #[.int .i64 n.k, .string n.n, .string n.x, .string n.d, .int .i64 n.c, .int .i64 n.s, .int .i64 n.e, .int .i64 n.t, .bool n.o, .slice ai n.l.length ci, .slice az n.z.length cz] 25 #[.int .i64 m.k, .string m.n, .string m.x, .string m.d, .int .i64 m.c, .int .i64 m.s, .int .i64 m.e, .int .i64 m.t, .bool m.o, .slice bi m.l.length di, .slice bz m.z.length dz] 25
  have HG := Lib.hid (fun W (hb : Below w.heap.size w W) => hG.below hb)
  have L := Lib.hid (fun W (g : Gp W) => live_any W g)
  have HR := Lib.hid (fun W (hb : Below w.heap.size w W) => h.below hb)
  have HQ := Lib.hid (fun W (hb : Below w.heap.size w W) => h'.below hb)
  have CS : Hid (∀ W, Below w.heap.size w W → Calls Tryz.prog 5 #[.agg #[.int .i64 n.k, .string n.n, .string n.x, .string n.d, .int .i64 n.c, .int .i64 n.s, .int .i64 n.e, .int .i64 n.t, .bool n.o, .slice ai n.l.length ci, .slice az n.z.length cz]] W (SmlP n W)) := fun W hb => small_any n ai az ci cz W (h.below hb)
  have CT : Hid (∀ W, Below w.heap.size w W → Calls Tryz.prog 5 #[.agg #[.int .i64 m.k, .string m.n, .string m.x, .string m.d, .int .i64 m.c, .int .i64 m.s, .int .i64 m.e, .int .i64 m.t, .bool m.o, .slice bi m.l.length di, .slice bz m.z.length dz]] W (SmlP m W)) := fun W hb => small_any m bi bz di dz W (h'.below hb)
  have CP : Hid (∀ W, Gp W → NtL W ai az n → Calls Tryz.prog 7 #[.agg #[.int .i64 n.k, .string n.n, .string n.x, .string n.d, .int .i64 n.c, .int .i64 n.s, .int .i64 n.e, .int .i64 n.t, .bool n.o, .slice ai n.l.length ci, .slice az n.z.length cz], .int .i64 req] W (Gives (.tuple #[.int .i64 (lputC n req), .string (lputB n req), .int .i64 (lputX n req)]) W)) := fun W g hl => lput_any n req ai az ci cz W hl g
  have CR : Hid (∀ W, NtL W ai az n → Calls Tryz.prog 8 #[.agg #[.int .i64 n.k, .string n.n, .string n.x, .string n.d, .int .i64 n.c, .int .i64 n.s, .int .i64 n.e, .int .i64 n.t, .bool n.o, .slice ai n.l.length ci, .slice az n.z.length cz], .int .i64 req] W (Gives (.tuple #[.int .i64 (lputC n req), .string (lputB n req), .int .i64 (lputX n req)]) W)) := fun W hl => rput14_any n req ai az ci cz W hl
  have CK : Hid (∀ W, NtL W ai az n → Calls Tryz.prog 10 #[.agg #[.int .i64 n.k, .string n.n, .string n.x, .string n.d, .int .i64 n.c, .int .i64 n.s, .int .i64 n.e, .int .i64 n.t, .bool n.o, .slice ai n.l.length ci, .slice az n.z.length cz]] W (Gives (.int .i64 (if may n = true then 0 else 140)) W)) := fun W hl => lcheck_any n ai az ci cz W hl
  have CI : Hid (∀ W, NtL W ai az n → Calls Tryz.prog 11 #[.agg #[.int .i64 n.k, .string n.n, .string n.x, .string n.d, .int .i64 n.c, .int .i64 n.s, .int .i64 n.e, .int .i64 n.t, .bool n.o, .slice ai n.l.length ci, .slice az n.z.length cz]] W (Gives (.bool (may n)) W)) := fun W hl => ris_any n ai az ci cz W hl
  have CE : Hid (∀ W, NtL W ai az n → NtL W bi bz m → Calls Tryz.prog 12 #[.agg #[.int .i64 n.k, .string n.n, .string n.x, .string n.d, .int .i64 n.c, .int .i64 n.s, .int .i64 n.e, .int .i64 n.t, .bool n.o, .slice ai n.l.length ci, .slice az n.z.length cz], .agg #[.int .i64 m.k, .string m.n, .string m.x, .string m.d, .int .i64 m.c, .int .i64 m.s, .int .i64 m.e, .int .i64 m.t, .bool m.o, .slice bi m.l.length di, .slice bz m.z.length dz]] W (Gives (.bool (eqv n m)) W)) := fun W a b => lsame_any n m ai az bi bz ci cz di dz W a b
  have CF : Hid (∀ W, NtL W ai az n → NtL W bi bz m → Calls Tryz.prog 13 #[.agg #[.int .i64 n.k, .string n.n, .string n.x, .string n.d, .int .i64 n.c, .int .i64 n.s, .int .i64 n.e, .int .i64 n.t, .bool n.o, .slice ai n.l.length ci, .slice az n.z.length cz], .agg #[.int .i64 m.k, .string m.n, .string m.x, .string m.d, .int .i64 m.c, .int .i64 m.s, .int .i64 m.e, .int .i64 m.t, .bool m.o, .slice bi m.l.length di, .slice bz m.z.length dz]] W (Gives (.bool (eqv n m)) W)) := fun W a b => rsame_any n m ai az bi bz ci cz di dz W a b
  have CC : Hid (∀ W, Gp W → Calls Tryz.prog 14 #[.int .i64 kind] W (Gives (.int .i64 (lcl kind)) W)) := fun W g => lclass_any kind W g
  have CD : Hid (∀ W, Calls Tryz.prog 15 #[.int .i64 kind] W (Pure (.int .i64 (lcl kind)) W)) := fun W => rclass14_any kind W
  have hk : ((if may n = true then (0 : Int) else 140) == 0) = may n := by cases may n <;> rfl
  generalize lputC n req = C9 at CP CR
  generalize lputB n req = B9 at CP CR
  generalize lputX n req = X9 at CP CR
  generalize (if may n = true then (0 : Int) else 140) = K9 at CK hk
  generalize may n = M9 at CI hk
  generalize eqv n m = Q9 at CE CF
  generalize lcl kind = Z9 at CC CD
  have e1 : (C9 == C9) = true := beq_self_eq_true _
  have e2 : (B9.toList == B9.toList) = true := beq_self_eq_true _
  have e3 : (X9 == X9) = true := beq_self_eq_true _
  have e4 : (M9 == M9) = true := beq_self_eq_true _
  have e5 : (Q9 == Q9) = true := beq_self_eq_true _
  have e6 : (Z9 == Z9) = true := beq_self_eq_true _
  clear h h' hG
  have mX := bx11 HX.out
  have kX := bx11 HY.out
  go_enter Tryz.func3, Tryz.ntmps3
  go_wp2_with fail
  refine (CS.out _ HB0.out).mono ?_
  rintro e w1 ⟨b, rfl, hb, hs⟩
  clear kX
  clear mX
  have HX' := Lib.hid ((hb.block _ (heap_lt HX.out)).trans HX.out)
  clear HX
  have HX := HX'
  clear HX'
  have HY' := Lib.hid ((hb.block _ (heap_lt HY.out)).trans HY.out)
  clear HY
  have HY := HY'
  clear HY'
  have HB1 := trB HB0 hb
  have HS := Lib.hid hs
  clear hb hs
  clear CS
  cases b
  · skip
    clear HS CT HR HQ CP CR CK CI CE CF CC CD
    have mX := bx11 HX.out
    have kX := bx11 HY.out
    go_wp2_with fail
    refine (L.out _ (HG.out _ HB1.out)).mono ?_
    rintro e w2 ⟨rfl, hb⟩
    clear kX
    clear mX
    have HX' := Lib.hid ((hb.block _ (heap_lt HX.out)).trans HX.out)
    clear HX
    have HX := HX'
    clear HX'
    have HY' := Lib.hid ((hb.block _ (heap_lt HY.out)).trans HY.out)
    clear HY
    have HY := HY'
    clear HY'
    have HB2 := trB HB1 hb
    clear hb
    have mX := bx11 HX.out
    have kX := bx11 HY.out
    go_wp2_with fail
    go_ret
    exact ⟨rfl, HB2.out⟩
  have HS1 := Lib.hid (HS.out rfl)
  clear HS
  have mX := bx11 HX.out
  have kX := bx11 HY.out
  go_wp2_with fail
  refine (CT.out _ HB1.out).mono ?_
  rintro e w2 ⟨b, rfl, hb, hs⟩
  clear kX
  clear mX
  have HX' := Lib.hid ((hb.block _ (heap_lt HX.out)).trans HX.out)
  clear HX
  have HX := HX'
  clear HX'
  have HY' := Lib.hid ((hb.block _ (heap_lt HY.out)).trans HY.out)
  clear HY
  have HY := HY'
  clear HY'
  have HB2 := trB HB1 hb
  have HS := Lib.hid hs
  clear hb hs
  clear CT
  cases b
  · skip
    clear HS HS1 HR HQ CP CR CK CI CE CF CC CD
    have mX := bx11 HX.out
    have kX := bx11 HY.out
    go_wp2_with fail
    refine (L.out _ (HG.out _ HB2.out)).mono ?_
    rintro e w3 ⟨rfl, hb⟩
    clear kX
    clear mX
    have HX' := Lib.hid ((hb.block _ (heap_lt HX.out)).trans HX.out)
    clear HX
    have HX := HX'
    clear HX'
    have HY' := Lib.hid ((hb.block _ (heap_lt HY.out)).trans HY.out)
    clear HY
    have HY := HY'
    clear HY'
    have HB3 := trB HB2 hb
    clear hb
    have mX := bx11 HX.out
    have kX := bx11 HY.out
    go_wp2_with fail
    go_ret
    exact ⟨rfl, HB3.out⟩
  have HS2 := Lib.hid (HS.out rfl)
  clear HS
  have mX := bx11 HX.out
  have kX := bx11 HY.out
  go_wp2_with fail
  refine (CP.out _ (HG.out _ HB2.out) ((HR.out _ HB2.out).small HS1.out (by decide))).mono ?_
  rintro e w3 ⟨rfl, hb⟩
  clear kX
  clear mX
  have HX' := Lib.hid ((hb.block _ (heap_lt HX.out)).trans HX.out)
  clear HX
  have HX := HX'
  clear HX'
  have HY' := Lib.hid ((hb.block _ (heap_lt HY.out)).trans HY.out)
  clear HY
  have HY := HY'
  clear HY'
  have HB3 := trB HB2 hb
  clear hb
  have mX := bx11 HX.out
  have kX := bx11 HY.out
  go_wp2_with fail
  clear CP
  refine (CR.out _ ((HR.out _ HB3.out).small HS1.out (by decide))).mono ?_
  rintro e w4 ⟨rfl, hb⟩
  clear kX
  clear mX
  have HX' := Lib.hid ((hb.block _ (heap_lt HX.out)).trans HX.out)
  clear HX
  have HX := HX'
  clear HX'
  have HY' := Lib.hid ((hb.block _ (heap_lt HY.out)).trans HY.out)
  clear HY
  have HY := HY'
  clear HY'
  have HB4 := trB HB3 hb
  clear hb
  have mX := bx11 HX.out
  have kX := bx11 HY.out
  clear CR
  go_upto_region 5 with fail
  have NL := Lib.hid (fun y : Ext w4 => (HR.out _ ((HB4.out).trans (y.below.mono (HB4.out).size))).small HS1.out (by decide))
  have ML := Lib.hid (fun y : Ext w4 => (HQ.out _ ((HB4.out).trans (y.below.mono (HB4.out).size))).small HS2.out (by decide))
  have GL := Lib.hid (fun y : Ext w4 => HG.out _ ((HB4.out).trans (y.below.mono (HB4.out).size)))
  obtain ⟨xm0, xm1, xm2, xm3, xm4, xm5, xm6, xm7, xm8, xm9, xm10⟩ := bx11x HX
  obtain ⟨xk0, xk1, xk2, xk3, xk4, xk5, xk6, xk7, xk8, xk9, xk10⟩ := bx11x HY
  have X_num : Hid (∀ i, Xc w4 9 #[.int .i64 i] (.int .i64 i)) := fun i => xc_pure fun W => lnum_any i W
  have X_chk : Hid (Xc w4 10 #[.agg #[.int .i64 n.k, .string n.n, .string n.x, .string n.d, .int .i64 n.c, .int .i64 n.s, .int .i64 n.e, .int .i64 n.t, .bool n.o, .slice ai n.l.length ci, .slice az n.z.length cz]] (.int .i64 K9)) := fun y => CK.out _ (NL.out y)
  have X_is : Hid (Xc w4 11 #[.agg #[.int .i64 n.k, .string n.n, .string n.x, .string n.d, .int .i64 n.c, .int .i64 n.s, .int .i64 n.e, .int .i64 n.t, .bool n.o, .slice ai n.l.length ci, .slice az n.z.length cz]] (.bool M9)) := fun y => CI.out _ (NL.out y)
  have X_sm : Hid (Xc w4 12 #[.agg #[.int .i64 n.k, .string n.n, .string n.x, .string n.d, .int .i64 n.c, .int .i64 n.s, .int .i64 n.e, .int .i64 n.t, .bool n.o, .slice ai n.l.length ci, .slice az n.z.length cz], .agg #[.int .i64 m.k, .string m.n, .string m.x, .string m.d, .int .i64 m.c, .int .i64 m.s, .int .i64 m.e, .int .i64 m.t, .bool m.o, .slice bi m.l.length di, .slice bz m.z.length dz]] (.bool Q9)) := fun y => CE.out _ (NL.out y) (ML.out y)
  have X_sr : Hid (Xc w4 13 #[.agg #[.int .i64 n.k, .string n.n, .string n.x, .string n.d, .int .i64 n.c, .int .i64 n.s, .int .i64 n.e, .int .i64 n.t, .bool n.o, .slice ai n.l.length ci, .slice az n.z.length cz], .agg #[.int .i64 m.k, .string m.n, .string m.x, .string m.d, .int .i64 m.c, .int .i64 m.s, .int .i64 m.e, .int .i64 m.t, .bool m.o, .slice bi m.l.length di, .slice bz m.z.length dz]] (.bool Q9)) := fun y => CF.out _ (NL.out y) (ML.out y)
  have X_cl : Hid (Xc w4 14 #[.int .i64 kind] (.int .i64 Z9)) := fun y => CC.out _ (GL.out y)
  have X_cr : Hid (Xc w4 15 #[.int .i64 kind] (.int .i64 Z9)) := xc_pure fun W => CD.out W
  have X_lv : Hid (Xc w4 6 #[] (.bool true)) := fun y => L.out _ (GL.out y)
  have hsome := extSome w4
  clear kX
  clear mX
  clear CK CI CE CF CC CD NL ML GL HR HQ HG L HX HY HS1 HS2
  refine ext_region (by kernel_rfl) (by kernel_rfl) ?_
  repeat (go_big_quiet_step ((first | (go_at_call 9; with_reducible exact ext_call _ (X_num.out _ _)) | (go_at_call 10; with_reducible exact ext_call _ (X_chk.out _)) | (go_at_call 11; with_reducible exact ext_call _ (X_is.out _)) | (go_at_call 12; with_reducible exact ext_call _ (X_sm.out _)) | (go_at_call 13; with_reducible exact ext_call _ (X_sr.out _)) | (go_at_call 14; with_reducible exact ext_call _ (X_cl.out _)) | (go_at_call 15; with_reducible exact ext_call _ (X_cr.out _)) | (go_at_call 6; with_reducible exact ext_call _ (X_lv.out _)))))
  refine wpQuiet_nil ?_
  rintro _ ⟨y, hy⟩
  subst hy
  have HBz := trB HB4 y.below
  clear xm0 xk0 xm1 xk1 xm2 xk2 xm3 xk3 xm4 xk4 xm5 xk5 xm6 xk6 xm7 xk7 xm8 xk8 xm9 xk9 xm10 xk10
  go_wp2_with fail
  go_ret
  exact ⟨rfl, HBz.out⟩
end Go.Proofs.YtiodjaeonoheiaaGreatDoor.T
