/- stream.Take: the arms of a handshake that has come, and of an end. Conditions: as of Take's others. -/
import Derived.Test.YtolnpfcncmcacaaGreatDoorZg
set_option maxRecDepth 100000
set_option maxHeartbeats 4000000
namespace Go.Proofs.YtolnpfcncmcacaaGreatDoor
open Go.RowKit Go.Lib Go.Shelf Tg Sn
theorem take_sh (d s : ByteArray) (p k er : Int) (e : El) (aA aK : Option Addr) (cA cK : Nat) (w : World) (hp : p = 2) (hh : stB k e.sp e.nm compS shakeN = true) :
    Calls Tryz.prog 18 #[.agg #[.string d, .string s, .int .i64 p], .agg #[.int .i64 k, .string e.sp, .string e.nm, .slice aA e.atr.length cA, .string e.tx, .slice aK e.ks.length cK, .int .i64 er]] w (TkP d s p k er e w) := by
  subst hp
  have e1 : tkP 2 k e = 3 := by unfold tkP; rw [if_neg (by decide), if_neg (fun h => absurd h.1 (by decide)), if_pos ⟨rfl, hh⟩]
  have e2 : tkT 2 k er e s = ⟨#[]⟩ := by unfold tkT; rw [if_neg (by decide), if_neg (fun h => absurd h.1 (by decide)), if_pos ⟨rfl, hh⟩]
  have e3 : tkN 2 k e = 0 := by unfold tkN; rw [if_neg (fun h => absurd h.1 (by decide))]
  unfold TkP
  rw [e1, e2, e3]
  have CH := Lib.hid (fun W => isStanza_any k er e.sp e.nm e.tx aA aK e.atr.length cA e.ks.length cK compS shakeN W)
  rw [hh] at CH
  have HN := Lib.hid (Tke.new #[.string d, .string s, .int .i64 2] #[.int .i64 k, .string e.sp, .string e.nm, .slice aA e.atr.length cA, .string e.tx, .slice aK e.ks.length cK, .int .i64 er] #[.string ⟨#[]⟩, .string ⟨#[]⟩, .int .i64 0] w)
  have CU := Lib.hid (fun W => isUp_any d s 2 W)
  rw [show upB 2 = true from rfl] at CU
  clear hh e1 e2 e3
  go_enter Tryz.func18, Tryz.ntmps18
  go_wp2_with fail
  refine (CU.out _).mono ?_
  rintro r w1 ⟨rfl, hb⟩
  have HT1 := Lib.hid (HN.out.st hb)
  clear hb HN CU
  obtain ⟨x0, x1, x2, fx⟩ := cs3 HT1.out.xb
  obtain ⟨y0, y1, y2, y3, y4, y5, y6⟩ := cs7 HT1.out.yb
  obtain ⟨z0, z1, z2, fz⟩ := cs3 HT1.out.zb
  have fx2 := fx 2
  have fz0 := fz 0
  have fz1 := fz 1
  have fz2 := fz 2
  clear fx fz
  go_wp2_with fail
  refine (CH.out _).mono ?_
  rintro r w2 ⟨rfl, hb⟩
  have HT2 := Lib.hid (HT1.out.st hb)
  clear hb CH HT1
  clear x0 x1 x2 y0 y1 y2 y3 y4 y5 y6 z0 z1 z2 fx2 fz0 fz1 fz2
  obtain ⟨x0, x1, x2, fx⟩ := cs3 HT2.out.xb
  obtain ⟨y0, y1, y2, y3, y4, y5, y6⟩ := cs7 HT2.out.yb
  obtain ⟨z0, z1, z2, fz⟩ := cs3 HT2.out.zb
  have fx2 := fx 2
  have fz0 := fz 0
  have fz1 := fz 1
  have fz2 := fz 2
  clear fx fz
  have HTZ := Lib.hid (HT2.out.putP 3)
  clear HT2 x0 x1 y0 y1 y2 y3 y4 y5 y6 z0 z1 z2 fz0 fz1 fz2
  go_upto_region 11 with fail
  generalize w2.setCell ⟨w.heap.size, 2, none⟩ (.int .i64 3) = W8 at HTZ ⊢
  clear x2 fx2
  obtain ⟨x0, x1, x2, fx⟩ := cs3 HTZ.out.xb
  obtain ⟨z0, z1, z2, fz⟩ := cs3 HTZ.out.zb
  have fz0 := fz 0
  have fz1 := fz 1
  have fz2 := fz 2
  clear fx fz
  go_wp2_with fail
  exact bodyPost_ret (v := .tuple #[.agg #[.string d, .string s, .int .i64 3], .string ⟨#[]⟩, .slice none 0 0]) (by simp [results, Tryz.results18, go_sem, z0, z1, z2]) rfl
    ⟨⟨_, _, rfl⟩, HTZ.out.put3⟩
theorem take_e1 (d s : ByteArray) (p k er : Int) (e : El) (aA aK : Option Addr) (cA cK B : Nat) (w : World) (he : (Lit.int .i64 er).wf = true) (hp : p = 1) (hin : In B w e (.agg #[.string e.sp, .string e.nm, .slice aA e.atr.length cA, .string e.tx, .slice aK e.ks.length cK])) (hB : B ≤ w.heap.size) (hwt : wt e ≤ 20000) (hh : hdB k e.sp e.nm e.atr = false) :
    Calls Tryz.prog 18 #[.agg #[.string d, .string s, .int .i64 p], .agg #[.int .i64 k, .string e.sp, .string e.nm, .slice aA e.atr.length cA, .string e.tx, .slice aK e.ks.length cK, .int .i64 er]] w (TkP d s p k er e w) := by
  subst hp
  have h1 : ¬ ((1 : Int) = 1 ∧ hdB k e.sp e.nm e.atr = true) := fun h => by rw [hh] at h; cases h.2
  have h2 : ¬ ((1 : Int) = 2 ∧ stB k e.sp e.nm compS shakeN = true) := fun h => absurd h.1 (by decide)
  have hno : ¬ ((1 : Int) = 3 ∧ k = 2 ∧ stB k e.sp e.nm spS errN = false) := fun h => absurd h.1 (by decide)
  obtain ⟨hat, hkm, hav⟩ : AtIn B w aA e.atr ∧ e.atr.length ≤ maxLen ∧ ∀ a ∈ e.atr, a.2.size ≤ 1048576 := by
    obtain ⟨a1, c1, a2, c2, hv, ⟨hq1, hq2⟩, _, hat, _⟩ := hin.out
    simp only [Value.agg.injEq, Array.mk.injEq, List.cons.injEq, and_true, Value.slice.injEq] at hv
    obtain ⟨_, _, ⟨rfl, _, rfl⟩, _⟩ := hv
    have hw := wt_eq e
    exact ⟨hat, Nat.le_trans hq1 hq2, fun a ha => by have := wtA_mem ha; omega⟩
  have CH : Hid (∀ W, Below w.heap.size w W → Calls Tryz.prog 35 #[.agg #[.int .i64 k, .string e.sp, .string e.nm, .slice aA e.atr.length cA, .string e.tx, .slice aK e.ks.length cK, .int .i64 er]] W fun r w' => r = .returned (.bool false) ∧ Below W.heap.size W w') := fun W hb => by
    have := isHeader_any k er e.sp e.nm e.tx e.atr aA aK cA e.ks.length cK B W (hat.below (hb.mono hB)) (Nat.le_trans hB hb.size) hkm hav
    rwa [hh] at this
  have e3 : tkN 1 k e = 0 := by unfold tkN; rw [if_neg hno]
  have e1 : tkP 1 k e = 4 := by unfold tkP; rw [if_neg (by decide), if_neg h1, if_neg h2, if_neg hno]
  have e2 : tkT 1 k er e s = endT 1 (reasonOf 1 k er e.sp e.nm) := by unfold tkT; rw [if_neg (by decide), if_neg h1, if_neg h2, if_neg hno]
  unfold TkP
  rw [e1, e2, e3]
  have CR := Lib.hid (fun W => reason_any d s 1 k er e.sp e.nm e.tx aA aK e.atr.length cA e.ks.length cK W he)
  have hz := reasonOf_size 1 k er e.sp e.nm
  generalize reasonOf 1 k er e.sp e.nm = R at CR hz ⊢
  have CE := Lib.hid (fun W => end_any8 d s R 1 W (by omega))
  rw [show endP 1 = 4 from rfl] at CE
  generalize endT 1 R = TT at CE ⊢
  have HN := Lib.hid (Tke.new #[.string d, .string s, .int .i64 1] #[.int .i64 k, .string e.sp, .string e.nm, .slice aA e.atr.length cA, .string e.tx, .slice aK e.ks.length cK, .int .i64 er] #[.string ⟨#[]⟩, .string ⟨#[]⟩, .int .i64 0] w)
  have CU := Lib.hid (fun W => isUp_any d s 1 W)
  rw [show upB 1 = true from rfl] at CU
  clear e1 e2 e3 he hz
  clear hh hin hB hwt hat hkm hav h1 h2 hno
  go_enter Tryz.func18, Tryz.ntmps18
  go_wp2_with fail
  refine (CU.out _).mono ?_
  rintro r w1 ⟨rfl, hb⟩
  have HT1 := Lib.hid (HN.out.st hb)
  clear hb HN CU
  obtain ⟨x0, x1, x2, fx⟩ := cs3 HT1.out.xb
  obtain ⟨y0, y1, y2, y3, y4, y5, y6⟩ := cs7 HT1.out.yb
  obtain ⟨z0, z1, z2, fz⟩ := cs3 HT1.out.zb
  have fx2 := fx 2
  have fz0 := fz 0
  have fz1 := fz 1
  have fz2 := fz 2
  clear fx fz
  go_wp2_with fail
  refine (CH.out _ HT1.out.bel).mono ?_
  rintro r w2 ⟨rfl, hb⟩
  have HT2 := Lib.hid (HT1.out.st hb)
  clear hb CH HT1
  clear x0 x1 x2 y0 y1 y2 y3 y4 y5 y6 z0 z1 z2 fx2 fz0 fz1 fz2
  obtain ⟨x0, x1, x2, fx⟩ := cs3 HT2.out.xb
  obtain ⟨y0, y1, y2, y3, y4, y5, y6⟩ := cs7 HT2.out.yb
  obtain ⟨z0, z1, z2, fz⟩ := cs3 HT2.out.zb
  have fx2 := fx 2
  have fz0 := fz 0
  have fz1 := fz 1
  have fz2 := fz 2
  clear fx fz
  go_wp2_with fail
  have d0 : w2.drew.cell? ⟨w.heap.size, 0, none⟩ = some (.string d) := x0
  have d1 : w2.drew.cell? ⟨w.heap.size, 1, none⟩ = some (.string s) := x1
  have d2 : w2.drew.cell? ⟨w.heap.size, 2, none⟩ = some (.int .i64 1) := x2
  have k0 : w2.drew.cell? ⟨w.heap.size + 1, 0, none⟩ = some (.int .i64 k) := y0
  have k1 : w2.drew.cell? ⟨w.heap.size + 1, 1, none⟩ = some (.string e.sp) := y1
  have k2 : w2.drew.cell? ⟨w.heap.size + 1, 2, none⟩ = some (.string e.nm) := y2
  have k3 : w2.drew.cell? ⟨w.heap.size + 1, 3, none⟩ = some (.slice aA e.atr.length cA) := y3
  have k4 : w2.drew.cell? ⟨w.heap.size + 1, 4, none⟩ = some (.string e.tx) := y4
  have k5 : w2.drew.cell? ⟨w.heap.size + 1, 5, none⟩ = some (.slice aK e.ks.length cK) := y5
  have k6 : w2.drew.cell? ⟨w.heap.size + 1, 6, none⟩ = some (.int .i64 er) := y6
  clear x0 x1 x2 y0 y1 y2 y3 y4 y5 y6 z0 z1 z2 fx2 fz0 fz1 fz2
  go_region_with (first
    | ((go_at_call 41; refine (CR.out _).mono ?_; rintro r w3 ⟨rfl, hb3⟩; have HT3 := Lib.hid (HT2.out.dr.st hb3); obtain ⟨x0, x1, x2, fx⟩ := cs3 HT3.out.xb))
    | ((go_at_call 23; refine (CE.out _).mono ?_; rintro r w4 ⟨rfl, hb4⟩; have HTX := Lib.hid (HT3.out.st hb4); obtain ⟨q0, q1, q2, fq⟩ := cs3 HTX.out.xb; have fq0 := fq 0; have fq1 := fq 1; have fq2 := fq 2)))
  all_goals
    have HTZ := Lib.hid (HTX.out.put3x d s 4)
    obtain ⟨v0, v1, v2, _⟩ := cs3 HTZ.out.xb
    obtain ⟨z0, z1, z2, fz⟩ := cs3 HTZ.out.zb
    have fz0 := fz 0
    have fz1 := fz 1
    have fz2 := fz 2
    clear d0 d1 d2 k0 k1 k2 k3 k4 k5 k6 hb3 hb4 fx fq fq0 fq1 fq2 fz HTX HT3 HT2 CR CE q0 q1 q2 x0 x1 x2
    generalize ((w4.setCell ⟨w.heap.size, 0, none⟩ (.string d)).setCell ⟨w.heap.size, 1, none⟩ (.string s)).setCell ⟨w.heap.size, 2, none⟩ (.int .i64 4) = W8 at *
    go_wp2_with fail
    exact bodyPost_ret (v := .tuple #[.agg #[.string d, .string s, .int .i64 4], .string TT, .slice none 0 0]) (by simp [results, Tryz.results18, go_sem, z0, z1, z2]) rfl
      ⟨⟨_, _, rfl⟩, HTZ.out.put3⟩
theorem take_e2 (d s : ByteArray) (p k er : Int) (e : El) (aA aK : Option Addr) (cA cK : Nat) (w : World) (he : (Lit.int .i64 er).wf = true) (hp : p = 2) (hh : stB k e.sp e.nm compS shakeN = false) :
    Calls Tryz.prog 18 #[.agg #[.string d, .string s, .int .i64 p], .agg #[.int .i64 k, .string e.sp, .string e.nm, .slice aA e.atr.length cA, .string e.tx, .slice aK e.ks.length cK, .int .i64 er]] w (TkP d s p k er e w) := by
  subst hp
  have h1 : ¬ ((2 : Int) = 1 ∧ hdB k e.sp e.nm e.atr = true) := fun h => absurd h.1 (by decide)
  have h2 : ¬ ((2 : Int) = 2 ∧ stB k e.sp e.nm compS shakeN = true) := fun h => by rw [hh] at h; cases h.2
  have hno : ¬ ((2 : Int) = 3 ∧ k = 2 ∧ stB k e.sp e.nm spS errN = false) := fun h => absurd h.1 (by decide)
  have CH := Lib.hid (fun W => isStanza_any k er e.sp e.nm e.tx aA aK e.atr.length cA e.ks.length cK compS shakeN W)
  rw [hh] at CH
  have e3 : tkN 2 k e = 0 := by unfold tkN; rw [if_neg hno]
  have e1 : tkP 2 k e = 4 := by unfold tkP; rw [if_neg (by decide), if_neg h1, if_neg h2, if_neg hno]
  have e2 : tkT 2 k er e s = endT 2 (reasonOf 2 k er e.sp e.nm) := by unfold tkT; rw [if_neg (by decide), if_neg h1, if_neg h2, if_neg hno]
  unfold TkP
  rw [e1, e2, e3]
  have CR := Lib.hid (fun W => reason_any d s 2 k er e.sp e.nm e.tx aA aK e.atr.length cA e.ks.length cK W he)
  have hz := reasonOf_size 2 k er e.sp e.nm
  generalize reasonOf 2 k er e.sp e.nm = R at CR hz ⊢
  have CE := Lib.hid (fun W => end_any8 d s R 2 W (by omega))
  rw [show endP 2 = 4 from rfl] at CE
  generalize endT 2 R = TT at CE ⊢
  have HN := Lib.hid (Tke.new #[.string d, .string s, .int .i64 2] #[.int .i64 k, .string e.sp, .string e.nm, .slice aA e.atr.length cA, .string e.tx, .slice aK e.ks.length cK, .int .i64 er] #[.string ⟨#[]⟩, .string ⟨#[]⟩, .int .i64 0] w)
  have CU := Lib.hid (fun W => isUp_any d s 2 W)
  rw [show upB 2 = true from rfl] at CU
  clear e1 e2 e3 he hz
  clear hh h1 h2 hno
  go_enter Tryz.func18, Tryz.ntmps18
  go_wp2_with fail
  refine (CU.out _).mono ?_
  rintro r w1 ⟨rfl, hb⟩
  have HT1 := Lib.hid (HN.out.st hb)
  clear hb HN CU
  obtain ⟨x0, x1, x2, fx⟩ := cs3 HT1.out.xb
  obtain ⟨y0, y1, y2, y3, y4, y5, y6⟩ := cs7 HT1.out.yb
  obtain ⟨z0, z1, z2, fz⟩ := cs3 HT1.out.zb
  have fx2 := fx 2
  have fz0 := fz 0
  have fz1 := fz 1
  have fz2 := fz 2
  clear fx fz
  go_wp2_with fail
  refine (CH.out _).mono ?_
  rintro r w2 ⟨rfl, hb⟩
  have HT2 := Lib.hid (HT1.out.st hb)
  clear hb CH HT1
  clear x0 x1 x2 y0 y1 y2 y3 y4 y5 y6 z0 z1 z2 fx2 fz0 fz1 fz2
  obtain ⟨x0, x1, x2, fx⟩ := cs3 HT2.out.xb
  obtain ⟨y0, y1, y2, y3, y4, y5, y6⟩ := cs7 HT2.out.yb
  obtain ⟨z0, z1, z2, fz⟩ := cs3 HT2.out.zb
  have fx2 := fx 2
  have fz0 := fz 0
  have fz1 := fz 1
  have fz2 := fz 2
  clear fx fz
  go_wp2_with fail
  have d0 : w2.drew.cell? ⟨w.heap.size, 0, none⟩ = some (.string d) := x0
  have d1 : w2.drew.cell? ⟨w.heap.size, 1, none⟩ = some (.string s) := x1
  have d2 : w2.drew.cell? ⟨w.heap.size, 2, none⟩ = some (.int .i64 2) := x2
  have k0 : w2.drew.cell? ⟨w.heap.size + 1, 0, none⟩ = some (.int .i64 k) := y0
  have k1 : w2.drew.cell? ⟨w.heap.size + 1, 1, none⟩ = some (.string e.sp) := y1
  have k2 : w2.drew.cell? ⟨w.heap.size + 1, 2, none⟩ = some (.string e.nm) := y2
  have k3 : w2.drew.cell? ⟨w.heap.size + 1, 3, none⟩ = some (.slice aA e.atr.length cA) := y3
  have k4 : w2.drew.cell? ⟨w.heap.size + 1, 4, none⟩ = some (.string e.tx) := y4
  have k5 : w2.drew.cell? ⟨w.heap.size + 1, 5, none⟩ = some (.slice aK e.ks.length cK) := y5
  have k6 : w2.drew.cell? ⟨w.heap.size + 1, 6, none⟩ = some (.int .i64 er) := y6
  clear x0 x1 x2 y0 y1 y2 y3 y4 y5 y6 z0 z1 z2 fx2 fz0 fz1 fz2
  go_region_with (first
    | ((go_at_call 41; refine (CR.out _).mono ?_; rintro r w3 ⟨rfl, hb3⟩; have HT3 := Lib.hid (HT2.out.dr.st hb3); obtain ⟨x0, x1, x2, fx⟩ := cs3 HT3.out.xb))
    | ((go_at_call 23; refine (CE.out _).mono ?_; rintro r w4 ⟨rfl, hb4⟩; have HTX := Lib.hid (HT3.out.st hb4); obtain ⟨q0, q1, q2, fq⟩ := cs3 HTX.out.xb; have fq0 := fq 0; have fq1 := fq 1; have fq2 := fq 2)))
  all_goals
    have HTZ := Lib.hid (HTX.out.put3x d s 4)
    obtain ⟨v0, v1, v2, _⟩ := cs3 HTZ.out.xb
    obtain ⟨z0, z1, z2, fz⟩ := cs3 HTZ.out.zb
    have fz0 := fz 0
    have fz1 := fz 1
    have fz2 := fz 2
    clear d0 d1 d2 k0 k1 k2 k3 k4 k5 k6 hb3 hb4 fx fq fq0 fq1 fq2 fz HTX HT3 HT2 CR CE q0 q1 q2 x0 x1 x2
    generalize ((w4.setCell ⟨w.heap.size, 0, none⟩ (.string d)).setCell ⟨w.heap.size, 1, none⟩ (.string s)).setCell ⟨w.heap.size, 2, none⟩ (.int .i64 4) = W8 at *
    go_wp2_with fail
    exact bodyPost_ret (v := .tuple #[.agg #[.string d, .string s, .int .i64 4], .string TT, .slice none 0 0]) (by simp [results, Tryz.results18, go_sem, z0, z1, z2]) rfl
      ⟨⟨_, _, rfl⟩, HTZ.out.put3⟩
theorem take_e3 (d s : ByteArray) (p k er : Int) (e : El) (aA aK : Option Addr) (cA cK : Nat) (w : World) (he : (Lit.int .i64 er).wf = true) (hp : p = 3) (hh : k ≠ 2) :
    Calls Tryz.prog 18 #[.agg #[.string d, .string s, .int .i64 p], .agg #[.int .i64 k, .string e.sp, .string e.nm, .slice aA e.atr.length cA, .string e.tx, .slice aK e.ks.length cK, .int .i64 er]] w (TkP d s p k er e w) := by
  subst hp
  have h1 : ¬ ((3 : Int) = 1 ∧ hdB k e.sp e.nm e.atr = true) := fun h => absurd h.1 (by decide)
  have h2 : ¬ ((3 : Int) = 2 ∧ stB k e.sp e.nm compS shakeN = true) := fun h => absurd h.1 (by decide)
  have hno : ¬ ((3 : Int) = 3 ∧ k = 2 ∧ stB k e.sp e.nm spS errN = false) := fun h => hh h.2.1
  have hk : (k == 2) = false := beq_eq_false_iff_ne.2 hh
  have e3 : tkN 3 k e = 0 := by unfold tkN; rw [if_neg hno]
  have e1 : tkP 3 k e = 4 := by unfold tkP; rw [if_neg (by decide), if_neg h1, if_neg h2, if_neg hno]
  have e2 : tkT 3 k er e s = endT 3 (reasonOf 3 k er e.sp e.nm) := by unfold tkT; rw [if_neg (by decide), if_neg h1, if_neg h2, if_neg hno]
  unfold TkP
  rw [e1, e2, e3]
  have CR := Lib.hid (fun W => reason_any d s 3 k er e.sp e.nm e.tx aA aK e.atr.length cA e.ks.length cK W he)
  have hz := reasonOf_size 3 k er e.sp e.nm
  generalize reasonOf 3 k er e.sp e.nm = R at CR hz ⊢
  have CE := Lib.hid (fun W => end_any8 d s R 3 W (by omega))
  rw [show endP 3 = 4 from rfl] at CE
  generalize endT 3 R = TT at CE ⊢
  have HN := Lib.hid (Tke.new #[.string d, .string s, .int .i64 3] #[.int .i64 k, .string e.sp, .string e.nm, .slice aA e.atr.length cA, .string e.tx, .slice aK e.ks.length cK, .int .i64 er] #[.string ⟨#[]⟩, .string ⟨#[]⟩, .int .i64 0] w)
  have CU := Lib.hid (fun W => isUp_any d s 3 W)
  rw [show upB 3 = true from rfl] at CU
  clear e1 e2 e3 he hz
  clear hh h1 h2 hno
  go_enter Tryz.func18, Tryz.ntmps18
  go_wp2_with fail
  refine (CU.out _).mono ?_
  rintro r w1 ⟨rfl, hb⟩
  have HT1 := Lib.hid (HN.out.st hb)
  clear hb HN CU
  obtain ⟨x0, x1, x2, fx⟩ := cs3 HT1.out.xb
  obtain ⟨y0, y1, y2, y3, y4, y5, y6⟩ := cs7 HT1.out.yb
  obtain ⟨z0, z1, z2, fz⟩ := cs3 HT1.out.zb
  have fx2 := fx 2
  have fz0 := fz 0
  have fz1 := fz 1
  have fz2 := fz 2
  clear fx fz
  go_wp2_with fail
  have d0 : w1.drew.cell? ⟨w.heap.size, 0, none⟩ = some (.string d) := x0
  have d1 : w1.drew.cell? ⟨w.heap.size, 1, none⟩ = some (.string s) := x1
  have d2 : w1.drew.cell? ⟨w.heap.size, 2, none⟩ = some (.int .i64 3) := x2
  have k0 : w1.drew.cell? ⟨w.heap.size + 1, 0, none⟩ = some (.int .i64 k) := y0
  have k1 : w1.drew.cell? ⟨w.heap.size + 1, 1, none⟩ = some (.string e.sp) := y1
  have k2 : w1.drew.cell? ⟨w.heap.size + 1, 2, none⟩ = some (.string e.nm) := y2
  have k3 : w1.drew.cell? ⟨w.heap.size + 1, 3, none⟩ = some (.slice aA e.atr.length cA) := y3
  have k4 : w1.drew.cell? ⟨w.heap.size + 1, 4, none⟩ = some (.string e.tx) := y4
  have k5 : w1.drew.cell? ⟨w.heap.size + 1, 5, none⟩ = some (.slice aK e.ks.length cK) := y5
  have k6 : w1.drew.cell? ⟨w.heap.size + 1, 6, none⟩ = some (.int .i64 er) := y6
  clear x0 x1 x2 y0 y1 y2 y3 y4 y5 y6 z0 z1 z2 fx2 fz0 fz1 fz2
  go_region_with (first
    | ((go_at_call 41; refine (CR.out _).mono ?_; rintro r w3 ⟨rfl, hb3⟩; have HT3 := Lib.hid (HT1.out.dr.st hb3); obtain ⟨x0, x1, x2, fx⟩ := cs3 HT3.out.xb))
    | ((go_at_call 23; refine (CE.out _).mono ?_; rintro r w4 ⟨rfl, hb4⟩; have HTX := Lib.hid (HT3.out.st hb4); obtain ⟨q0, q1, q2, fq⟩ := cs3 HTX.out.xb; have fq0 := fq 0; have fq1 := fq 1; have fq2 := fq 2)))
  all_goals
    have HTZ := Lib.hid (HTX.out.put3x d s 4)
    obtain ⟨v0, v1, v2, _⟩ := cs3 HTZ.out.xb
    obtain ⟨z0, z1, z2, fz⟩ := cs3 HTZ.out.zb
    have fz0 := fz 0
    have fz1 := fz 1
    have fz2 := fz 2
    clear d0 d1 d2 k0 k1 k2 k3 k4 k5 k6 hb3 hb4 fx fq fq0 fq1 fq2 fz HTX HT3 HT1 CR CE q0 q1 q2 x0 x1 x2
    generalize ((w4.setCell ⟨w.heap.size, 0, none⟩ (.string d)).setCell ⟨w.heap.size, 1, none⟩ (.string s)).setCell ⟨w.heap.size, 2, none⟩ (.int .i64 4) = W8 at *
    go_wp2_with fail
    exact bodyPost_ret (v := .tuple #[.agg #[.string d, .string s, .int .i64 4], .string TT, .slice none 0 0]) (by simp [results, Tryz.results18, go_sem, z0, z1, z2]) rfl
      ⟨⟨_, _, rfl⟩, HTZ.out.put3⟩
theorem take_e4 (d s : ByteArray) (p k er : Int) (e : El) (aA aK : Option Addr) (cA cK : Nat) (w : World) (he : (Lit.int .i64 er).wf = true) (hp : p = 3) (hk2 : k = 2) (hh : stB k e.sp e.nm spS errN = true) :
    Calls Tryz.prog 18 #[.agg #[.string d, .string s, .int .i64 p], .agg #[.int .i64 k, .string e.sp, .string e.nm, .slice aA e.atr.length cA, .string e.tx, .slice aK e.ks.length cK, .int .i64 er]] w (TkP d s p k er e w) := by
  subst hp
  have h1 : ¬ ((3 : Int) = 1 ∧ hdB k e.sp e.nm e.atr = true) := fun h => absurd h.1 (by decide)
  have h2 : ¬ ((3 : Int) = 2 ∧ stB k e.sp e.nm compS shakeN = true) := fun h => absurd h.1 (by decide)
  have hno : ¬ ((3 : Int) = 3 ∧ k = 2 ∧ stB k e.sp e.nm spS errN = false) := fun h => by rw [hh] at h; cases h.2.2
  have CH := Lib.hid (fun W => isError_any k er e.sp e.nm e.tx aA aK e.atr.length cA e.ks.length cK W)
  rw [hh] at CH
  have hk : (k == 2) = true := by rw [hk2]; rfl
  have e3 : tkN 3 k e = 0 := by unfold tkN; rw [if_neg hno]
  have e1 : tkP 3 k e = 4 := by unfold tkP; rw [if_neg (by decide), if_neg h1, if_neg h2, if_neg hno]
  have e2 : tkT 3 k er e s = endT 3 (reasonOf 3 k er e.sp e.nm) := by unfold tkT; rw [if_neg (by decide), if_neg h1, if_neg h2, if_neg hno]
  unfold TkP
  rw [e1, e2, e3]
  have CR := Lib.hid (fun W => reason_any d s 3 k er e.sp e.nm e.tx aA aK e.atr.length cA e.ks.length cK W he)
  have hz := reasonOf_size 3 k er e.sp e.nm
  generalize reasonOf 3 k er e.sp e.nm = R at CR hz ⊢
  have CE := Lib.hid (fun W => end_any8 d s R 3 W (by omega))
  rw [show endP 3 = 4 from rfl] at CE
  generalize endT 3 R = TT at CE ⊢
  have HN := Lib.hid (Tke.new #[.string d, .string s, .int .i64 3] #[.int .i64 k, .string e.sp, .string e.nm, .slice aA e.atr.length cA, .string e.tx, .slice aK e.ks.length cK, .int .i64 er] #[.string ⟨#[]⟩, .string ⟨#[]⟩, .int .i64 0] w)
  have CU := Lib.hid (fun W => isUp_any d s 3 W)
  rw [show upB 3 = true from rfl] at CU
  clear e1 e2 e3 he hz
  clear hh h1 h2 hno hk2
  go_enter Tryz.func18, Tryz.ntmps18
  go_wp2_with fail
  refine (CU.out _).mono ?_
  rintro r w1 ⟨rfl, hb⟩
  have HT1 := Lib.hid (HN.out.st hb)
  clear hb HN CU
  obtain ⟨x0, x1, x2, fx⟩ := cs3 HT1.out.xb
  obtain ⟨y0, y1, y2, y3, y4, y5, y6⟩ := cs7 HT1.out.yb
  obtain ⟨z0, z1, z2, fz⟩ := cs3 HT1.out.zb
  have fx2 := fx 2
  have fz0 := fz 0
  have fz1 := fz 1
  have fz2 := fz 2
  clear fx fz
  go_wp2_with fail
  refine (CH.out _).mono ?_
  rintro r w2 ⟨rfl, hb⟩
  have HT2 := Lib.hid (HT1.out.st hb)
  clear hb CH HT1
  clear x0 x1 x2 y0 y1 y2 y3 y4 y5 y6 z0 z1 z2 fx2 fz0 fz1 fz2
  obtain ⟨x0, x1, x2, fx⟩ := cs3 HT2.out.xb
  obtain ⟨y0, y1, y2, y3, y4, y5, y6⟩ := cs7 HT2.out.yb
  obtain ⟨z0, z1, z2, fz⟩ := cs3 HT2.out.zb
  have fx2 := fx 2
  have fz0 := fz 0
  have fz1 := fz 1
  have fz2 := fz 2
  clear fx fz
  go_wp2_with fail
  have d0 : w2.drew.cell? ⟨w.heap.size, 0, none⟩ = some (.string d) := x0
  have d1 : w2.drew.cell? ⟨w.heap.size, 1, none⟩ = some (.string s) := x1
  have d2 : w2.drew.cell? ⟨w.heap.size, 2, none⟩ = some (.int .i64 3) := x2
  have k0 : w2.drew.cell? ⟨w.heap.size + 1, 0, none⟩ = some (.int .i64 k) := y0
  have k1 : w2.drew.cell? ⟨w.heap.size + 1, 1, none⟩ = some (.string e.sp) := y1
  have k2 : w2.drew.cell? ⟨w.heap.size + 1, 2, none⟩ = some (.string e.nm) := y2
  have k3 : w2.drew.cell? ⟨w.heap.size + 1, 3, none⟩ = some (.slice aA e.atr.length cA) := y3
  have k4 : w2.drew.cell? ⟨w.heap.size + 1, 4, none⟩ = some (.string e.tx) := y4
  have k5 : w2.drew.cell? ⟨w.heap.size + 1, 5, none⟩ = some (.slice aK e.ks.length cK) := y5
  have k6 : w2.drew.cell? ⟨w.heap.size + 1, 6, none⟩ = some (.int .i64 er) := y6
  clear x0 x1 x2 y0 y1 y2 y3 y4 y5 y6 z0 z1 z2 fx2 fz0 fz1 fz2
  go_region_with (first
    | ((go_at_call 41; refine (CR.out _).mono ?_; rintro r w3 ⟨rfl, hb3⟩; have HT3 := Lib.hid (HT2.out.dr.st hb3); obtain ⟨x0, x1, x2, fx⟩ := cs3 HT3.out.xb))
    | ((go_at_call 23; refine (CE.out _).mono ?_; rintro r w4 ⟨rfl, hb4⟩; have HTX := Lib.hid (HT3.out.st hb4); obtain ⟨q0, q1, q2, fq⟩ := cs3 HTX.out.xb; have fq0 := fq 0; have fq1 := fq 1; have fq2 := fq 2)))
  all_goals
    have HTZ := Lib.hid (HTX.out.put3x d s 4)
    obtain ⟨v0, v1, v2, _⟩ := cs3 HTZ.out.xb
    obtain ⟨z0, z1, z2, fz⟩ := cs3 HTZ.out.zb
    have fz0 := fz 0
    have fz1 := fz 1
    have fz2 := fz 2
    clear d0 d1 d2 k0 k1 k2 k3 k4 k5 k6 hb3 hb4 fx fq fq0 fq1 fq2 fz HTX HT3 HT2 CR CE q0 q1 q2 x0 x1 x2
    generalize ((w4.setCell ⟨w.heap.size, 0, none⟩ (.string d)).setCell ⟨w.heap.size, 1, none⟩ (.string s)).setCell ⟨w.heap.size, 2, none⟩ (.int .i64 4) = W8 at *
    go_wp2_with fail
    exact bodyPost_ret (v := .tuple #[.agg #[.string d, .string s, .int .i64 4], .string TT, .slice none 0 0]) (by simp [results, Tryz.results18, go_sem, z0, z1, z2]) rfl
      ⟨⟨_, _, rfl⟩, HTZ.out.put3⟩
end Go.Proofs.YtolnpfcncmcacaaGreatDoor
