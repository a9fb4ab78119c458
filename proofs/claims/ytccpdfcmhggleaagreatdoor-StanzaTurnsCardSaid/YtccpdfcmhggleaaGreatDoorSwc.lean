/- The walk of StanzaTurns, each way by itself. Condition: texts and elements of the reach that the form has. -/
import Derived.Test.YtccpdfcmhggleaaGreatDoorSwa
import Derived.Test.YtccpdfcmhggleaaGreatDoorDj
namespace Go.Proofs.YtccpdfcmhggleaaGreatDoor
open Go.RowKit Go.Lib Go.Shelf Tg St

set_option maxRecDepth 100000 in
set_option maxHeartbeats 16000000 in
theorem turns_yy (ld : List El) (kd : Int) (ty fn fd fr tn td tr id sh st bd cd : ByteArray) (aL : Option Addr) (cL : Nat) (cond : ByteArray) (w : World) (her : er ⟨kd, ty, ⟨fn, fd, fr⟩, ⟨tn, td, tr⟩, id, sh, st, bd, ld, cd⟩ cond = some ⟨kd, tErr, ⟨tn, td, tr⟩, ⟨fn, fd, fr⟩, id, E0, E0, E0, [], cond⟩) (hrs : rs ⟨kd, ty, ⟨fn, fd, fr⟩, ⟨tn, td, tr⟩, id, sh, st, bd, ld, cd⟩ [] = some ⟨kd, tRes, ⟨tn, td, tr⟩, ⟨fn, fd, fr⟩, id, E0, E0, E0, [], E0⟩) (hK : KsIn w.heap.size w aL ld) (hcs : cond.size ≤ 140737488351232) (h1 : ty.size ≤ 140737488351232) (h2 : fn.size ≤ 140737488351232) (h3 : fd.size ≤ 140737488351232) (h4 : fr.size ≤ 140737488351232) (h5 : tn.size ≤ 140737488351232) (h6 : td.size ≤ 140737488351232) (h7 : tr.size ≤ 140737488351232) (h8 : id.size ≤ 140737488351232) (h9 : sh.size ≤ 140737488351232) (h10_ : st.size ≤ 140737488351232) (h11 : bd.size ≤ 140737488351232) (h12 : cd.size ≤ 140737488351232) :
    Calls Tryz.prog 4 #[.agg #[.int .i64 kd, .string ty, .string fn, .string fd, .string fr, .string tn, .string td, .string tr, .string id, .string sh, .string st, .string bd, .slice aL ld.length cL, .string cd], .string cond] w fun r w' => r = .returned (.bool true) ∧ Below w.heap.size w w' := by
  have CLV := Lib.hid (fun W => live9_any W)
  have CSM := Lib.hid (fun (W : World) (hb : Below w.heap.size w W) => small_any ld w.heap.size kd ty fn fd fr tn td tr id sh st bd cd aL cL W (hK.below hb) hb.size h1 h2 h3 h4 h5 h6 h7 h8 h9 h10_ h11 h12)
  have HK := Lib.hid hK
  have HB0 : Hid (Below w.heap.size w (w.alloc (.cells #[.int .i64 kd, .string ty, .string fn, .string fd, .string fr, .string tn, .string td, .string tr, .string id, .string sh, .string st, .string bd, .slice aL ld.length cL, .string cd] 26))) := (Below.refl _ w).alloc (Nat.le_refl _) _
  have HX0 := Lib.hid (box_new w #[.int .i64 kd, .string ty, .string fn, .string fd, .string fr, .string tn, .string td, .string tr, .string id, .string sh, .string st, .string bd, .slice aL ld.length cL, .string cd] 26)
  clear hK h1 h2 h3 h4 h5 h6 h7 h8 h9 h10_ h11 h12
  go_enter Tryz.func4, Tryz.ntmps4
  go_upto_region 1 with fail
  generalize w.alloc (.cells #[.int .i64 kd, .string ty, .string fn, .string fd, .string fr, .string tn, .string td, .string tr, .string id, .string sh, .string st, .string bd, .slice aL ld.length cL, .string cd] 26) = w0 at HB0 HX0 ⊢
  obtain ⟨x0, x1, x2, x3, x4, x5, x6, x7, x8, x9, x10, x11, x12, x13⟩ := bx14 HX0.out
  go_wp2_with fail
  refine (CSM.out _ HB0.out).mono ?_
  rintro r w1 ⟨⟨b, rfl, hsm⟩, hb⟩
  have HB1 := Lib.hid (more HB0.out (Nat.le_refl _) hb)
  have HX1 := Lib.hid ((hb.block _ (heap_lt HX0.out)).trans HX0.out)
  clear hb HB0 HX0 CSM x0 x1 x2 x3 x4 x5 x6 x7 x8 x9 x10 x11 x12 x13
  cases b with
  | false =>
    clear hsm
    go_wp2_with fail
    refine (CLV.out _).mono ?_
    rintro r wl ⟨rfl, hb⟩
    have HBL := Lib.hid (more HB1.out (Nat.le_refl _) hb)
    clear hb
    go_wp2_with fail
    go_ret
    exact ⟨rfl, HBL.out⟩
  | true =>
  obtain ⟨hl10, hwt⟩ := hsm rfl
  clear hsm
  by_cases hn : cond.size ≤ 12000
  case neg =>
    have hgt : (12000 : Int) < cond.size := by omega
    go_wp2_with fail
    refine (CLV.out _).mono ?_
    rintro r wl ⟨rfl, hb⟩
    have HBL := Lib.hid (more HB1.out (Nat.le_refl _) hb)
    clear hb
    go_wp2_with fail
    go_ret
    exact ⟨rfl, HBL.out⟩
  case pos =>
  have hngt : ¬ (12000 : Int) < cond.size := by omega
  have CCK : Hid (Calls Tryz.prog 10 #[.agg #[.int .i64 kd, .string ty, .string fn, .string fd, .string fr, .string tn, .string td, .string tr, .string id, .string sh, .string st, .string bd, .slice aL ld.length cL, .string cd]] w1 fun r w' => r = .returned (.int .i64 (cdS (okS ⟨kd, ty, ⟨fn, fd, fr⟩, ⟨tn, td, tr⟩, id, sh, st, bd, ld, cd⟩))) ∧ Below w1.heap.size w1 w') :=
    checkS ⟨kd, ty, ⟨fn, fd, fr⟩, ⟨tn, td, tr⟩, id, sh, st, bd, ld, cd⟩ aL cL w.heap.size w1 (HK.out.below HB1.out) HB1.out.size (by omega) (by have h := hwt; unfold wtS at h; simp only at h ⊢; omega)
  obtain ⟨x0, x1, x2, x3, x4, x5, x6, x7, x8, x9, x10, x11, x12, x13⟩ := bx14 HX1.out
  go_wp2_with fail
  refine CCK.out.mono ?_
  rintro r w3 ⟨rfl, hb⟩
  have HB3 := Lib.hid (more HB1.out (Nat.le_refl _) hb)
  have HX3 := Lib.hid ((hb.block _ (heap_lt HX1.out)).trans HX1.out)
  clear hb HB1 HX1 CCK HK x0 x1 x2 x3 x4 x5 x6 x7 x8 x9 x10 x11 x12 x13
  go_wp2_with fail
  refine (num_any _ _).mono ?_
  rintro r w3' ⟨rfl, rfl⟩
  cases hok : okS ⟨kd, ty, ⟨fn, fd, fr⟩, ⟨tn, td, tr⟩, id, sh, st, bd, ld, cd⟩ with
  | false =>
    dsimp only [cdS]
    go_wp2_with fail
    refine (CLV.out _).mono ?_
    rintro r wl ⟨rfl, hb⟩
    have HBL := Lib.hid (more HB3.out (Nat.le_refl _) hb)
    clear hb
    go_wp2_with fail
    go_ret
    exact ⟨rfl, HBL.out⟩
  | true =>
  have hput : (0 : Int) < ((Jn.putB tn td tr).size : Int) := by
    have h := (ok_parts hok).1
    unfold addrB at h
    simp only [Bool.and_eq_true] at h
    have := put_some h.2
    omega
  have hz : tn.size ≤ 1048576 ∧ td.size ≤ 1048576 ∧ tr.size ≤ 1048576 := by
    have h := hwt
    unfold wtS at h
    simp only at h
    omega
  obtain ⟨hz1, hz2, hz3⟩ := hz
  have CER : Hid (∀ W, Calls Tryz.prog 14 #[.agg #[.int .i64 kd, .string ty, .string fn, .string fd, .string fr, .string tn, .string td, .string tr, .string id, .string sh, .string st, .string bd, .slice aL ld.length cL, .string cd], .string cond] W (AnsP (er ⟨kd, ty, ⟨fn, fd, fr⟩, ⟨tn, td, tr⟩, id, sh, st, bd, ld, cd⟩ cond) W)) := fun W =>
    errorS ⟨kd, ty, ⟨fn, fd, fr⟩, ⟨tn, td, tr⟩, id, sh, st, bd, ld, cd⟩ cond aL cL W (by omega) (by omega)
  have CRR : Hid (∀ W, Calls Tryz.prog 15 #[.agg #[.int .i64 kd, .string ty, .string fn, .string fd, .string fr, .string tn, .string td, .string tr, .string id, .string sh, .string st, .string bd, .slice aL ld.length cL, .string cd], .slice none 0 0] W (AnsP (rs ⟨kd, ty, ⟨fn, fd, fr⟩, ⟨tn, td, tr⟩, id, sh, st, bd, ld, cd⟩ []) W)) := fun W =>
    resultS ⟨kd, ty, ⟨fn, fd, fr⟩, ⟨tn, td, tr⟩, id, sh, st, bd, ld, cd⟩ aL cL W (by omega)
  have HWA : Hid (wtS ⟨kd, tErr, ⟨tn, td, tr⟩, ⟨fn, fd, fr⟩, id, E0, E0, E0, [], cond⟩ ≤ 12010 + cond.size) := wtS_back hwt (by decide)
  have HWB : Hid (wtS ⟨kd, tRes, ⟨tn, td, tr⟩, ⟨fn, fd, fr⟩, id, E0, E0, E0, [], E0⟩ ≤ 12010 + E0.size) := wtS_back hwt (by decide)
  dsimp only [cdS]
  have hoka := (er_someT her).2
  obtain ⟨_, hokb, hk3⟩ := rs_some hrs
  obtain rfl : kd = 3 := hk3
  have CE : Hid (∀ W, Calls Tryz.prog 14 #[.agg #[.int .i64 3, .string ty, .string fn, .string fd, .string fr, .string tn, .string td, .string tr, .string id, .string sh, .string st, .string bd, .slice aL ld.length cL, .string cd], .string cond] W fun r w' => (∃ aq cq, r = .returned (.tuple #[.agg #[.int .i64 3, .string ⟨#[101, 114, 114, 111, 114]⟩, .string tn, .string td, .string tr, .string fn, .string fd, .string fr, .string id, .string ⟨#[]⟩, .string ⟨#[]⟩, .string ⟨#[]⟩, .slice aq 0 cq, .string cond], .bool true]) ∧ KsS (fun b => W.heap.size ≤ b) w' aq []) ∧ Below W.heap.size W w') := by
    intro W
    have h := CER.out W
    rw [her] at h
    exact h
  have CR : Hid (∀ W, Calls Tryz.prog 15 #[.agg #[.int .i64 3, .string ty, .string fn, .string fd, .string fr, .string tn, .string td, .string tr, .string id, .string sh, .string st, .string bd, .slice aL ld.length cL, .string cd], .slice none 0 0] W fun r w' => (∃ aq cq, r = .returned (.tuple #[.agg #[.int .i64 3, .string ⟨#[114, 101, 115, 117, 108, 116]⟩, .string tn, .string td, .string tr, .string fn, .string fd, .string fr, .string id, .string ⟨#[]⟩, .string ⟨#[]⟩, .string ⟨#[]⟩, .slice aq 0 cq, .string ⟨#[]⟩], .bool true]) ∧ KsS (fun b => W.heap.size ≤ b) w' aq []) ∧ Below W.heap.size W w') := by
    intro W
    have h := CRR.out W
    rw [hrs] at h
    exact h
  clear CER CRR
  obtain ⟨x0, x1, x2, x3, x4, x5, x6, x7, x8, x9, x10, x11, x12, x13⟩ := bx14 HX3.out
  go_wp2_with fail
  refine (CE.out _).mono ?_
  rintro r w4 ⟨⟨a4, c4, rfl, _⟩, hb⟩
  have HB4' := Lib.hid (HB3.out.trans (hb.mono HB3.out.size))
  have HX4' := Lib.hid ((hb.block _ (heap_lt HX3.out)).trans HX3.out)
  clear HB3 HX3
  have HB4 := HB4'
  have HX4 := HX4'
  clear HB4' HX4'
  clear hb CE
  clear x0 x1 x2 x3 x4 x5 x6 x7 x8 x9 x10 x11 x12 x13
  have hb : Below w4.heap.size w4 (w4.alloc (.cells #[.int .i64 3, .string ⟨#[101, 114, 114, 111, 114]⟩, .string tn, .string td, .string tr, .string fn, .string fd, .string fr, .string id, .string ⟨#[]⟩, .string ⟨#[]⟩, .string ⟨#[]⟩, .slice a4 0 c4, .string cond] 26)) := (Below.refl _ _).alloc (Nat.le_refl _) _
  have HB5' := Lib.hid (HB4.out.trans (hb.mono HB4.out.size))
  have HX5' := Lib.hid ((hb.block _ (heap_lt HX4.out)).trans HX4.out)
  clear HB4 HX4
  have HB5 := HB5'
  have HX5 := HX5'
  clear HB5' HX5'
  have HA5 := Lib.hid (box_new w4 #[.int .i64 3, .string ⟨#[101, 114, 114, 111, 114]⟩, .string tn, .string td, .string tr, .string fn, .string fd, .string fr, .string id, .string ⟨#[]⟩, .string ⟨#[]⟩, .string ⟨#[]⟩, .slice a4 0 c4, .string cond] 26)
  clear hb
  go_upto_region 4 with fail
  generalize w4.heap.size = T1 at HA5 ⊢
  generalize w4.alloc (.cells #[.int .i64 3, .string ⟨#[101, 114, 114, 111, 114]⟩, .string tn, .string td, .string tr, .string fn, .string fd, .string fr, .string id, .string ⟨#[]⟩, .string ⟨#[]⟩, .string ⟨#[]⟩, .slice a4 0 c4, .string cond] 26) = w5 at HB5 HX5 HA5 ⊢
  obtain ⟨x0, x1, x2, x3, x4, x5, x6, x7, x8, x9, x10, x11, x12, x13⟩ := bx14 HX5.out
  go_wp2_with fail
  refine (CR.out _).mono ?_
  rintro r w6 ⟨⟨a6, c6, rfl, _⟩, hb⟩
  have HB6' := Lib.hid (HB5.out.trans (hb.mono HB5.out.size))
  have HX6' := Lib.hid ((hb.block _ (heap_lt HX5.out)).trans HX5.out)
  have HA6' := Lib.hid ((hb.block _ (heap_lt HA5.out)).trans HA5.out)
  clear HB5 HX5 HA5
  have HB6 := HB6'
  have HX6 := HX6'
  have HA6 := HA6'
  clear HB6' HX6' HA6'
  clear hb CR
  clear x0 x1 x2 x3 x4 x5 x6 x7 x8 x9 x10 x11 x12 x13
  have hb : Below w6.heap.size w6 (w6.alloc (.cells #[.int .i64 3, .string ⟨#[114, 101, 115, 117, 108, 116]⟩, .string tn, .string td, .string tr, .string fn, .string fd, .string fr, .string id, .string ⟨#[]⟩, .string ⟨#[]⟩, .string ⟨#[]⟩, .slice a6 0 c6, .string ⟨#[]⟩] 26)) := (Below.refl _ _).alloc (Nat.le_refl _) _
  have HB7' := Lib.hid (HB6.out.trans (hb.mono HB6.out.size))
  have HX7' := Lib.hid ((hb.block _ (heap_lt HX6.out)).trans HX6.out)
  have HA7' := Lib.hid ((hb.block _ (heap_lt HA6.out)).trans HA6.out)
  clear HB6 HX6 HA6
  have HB7 := HB7'
  have HX7 := HX7'
  have HA7 := HA7'
  clear HB7' HX7' HA7'
  have HR7 := Lib.hid (box_new w6 #[.int .i64 3, .string ⟨#[114, 101, 115, 117, 108, 116]⟩, .string tn, .string td, .string tr, .string fn, .string fd, .string fr, .string id, .string ⟨#[]⟩, .string ⟨#[]⟩, .string ⟨#[]⟩, .slice a6 0 c6, .string ⟨#[]⟩] 26)
  clear hb
  go_upto_region 5 with fail
  generalize w6.heap.size = T2 at HR7 ⊢
  generalize w6.alloc (.cells #[.int .i64 3, .string ⟨#[114, 101, 115, 117, 108, 116]⟩, .string tn, .string td, .string tr, .string fn, .string fd, .string fr, .string id, .string ⟨#[]⟩, .string ⟨#[]⟩, .string ⟨#[]⟩, .slice a6 0 c6, .string ⟨#[]⟩] 26) = w7 at HB7 HX7 HA7 HR7 ⊢
  have CC : Hid (Calls Tryz.prog 10 #[.agg #[.int .i64 3, .string ⟨#[101, 114, 114, 111, 114]⟩, .string tn, .string td, .string tr, .string fn, .string fd, .string fr, .string id, .string ⟨#[]⟩, .string ⟨#[]⟩, .string ⟨#[]⟩, .slice a4 0 c4, .string cond]] w7 fun r w' => r = .returned (.int .i64 0) ∧ Below w7.heap.size w7 w') := by
    have h := checkS ⟨3, tErr, ⟨tn, td, tr⟩, ⟨fn, fd, fr⟩, id, E0, E0, E0, [], cond⟩ a4 c4 0 w7 (fun i h => absurd h (Nat.not_lt_zero _)) (Nat.zero_le _) (by have := HWA.out; show _ ≤ 18900 + cond.size; omega) (by show cond.size ≤ 100000; omega)
    rw [hoka] at h
    exact h
  obtain ⟨x0, x1, x2, x3, x4, x5, x6, x7, x8, x9, x10, x11, x12, x13⟩ := bx14 HX7.out
  obtain ⟨y0, y1, y2, y3, y4, y5, y6, y7, y8, y9, y10, y11, y12, y13⟩ := bx14 HA7.out
  go_wp2_with fail
  refine CC.out.mono ?_
  rintro r w8 ⟨rfl, hb⟩
  have HB8' := Lib.hid (HB7.out.trans (hb.mono HB7.out.size))
  have HX8' := Lib.hid ((hb.block _ (heap_lt HX7.out)).trans HX7.out)
  have HA8' := Lib.hid ((hb.block _ (heap_lt HA7.out)).trans HA7.out)
  have HR8' := Lib.hid ((hb.block _ (heap_lt HR7.out)).trans HR7.out)
  clear HB7 HX7 HA7 HR7
  have HB8 := HB8'
  have HX8 := HX8'
  have HA8 := HA8'
  have HR8 := HR8'
  clear HB8' HX8' HA8' HR8'
  clear hb CC
  clear x0 x1 x2 x3 x4 x5 x6 x7 x8 x9 x10 x11 x12 x13 y0 y1 y2 y3 y4 y5 y6 y7 y8 y9 y10 y11 y12 y13
  go_wp2_with fail
  refine (num_any _ _).mono ?_
  rintro r w8' ⟨rfl, rfl⟩
  obtain ⟨x0, x1, x2, x3, x4, x5, x6, x7, x8, x9, x10, x11, x12, x13⟩ := bx14 HX8.out
  obtain ⟨y0, y1, y2, y3, y4, y5, y6, y7, y8, y9, y10, y11, y12, y13⟩ := bx14 HA8.out
  go_upto_region 7 with fail
  clear x0 x1 x2 x3 x4 x5 x6 x7 x8 x9 x10 x11 x12 x13 y0 y1 y2 y3 y4 y5 y6 y7 y8 y9 y10 y11 y12 y13
  have CC : Hid (Calls Tryz.prog 10 #[.agg #[.int .i64 3, .string ⟨#[114, 101, 115, 117, 108, 116]⟩, .string tn, .string td, .string tr, .string fn, .string fd, .string fr, .string id, .string ⟨#[]⟩, .string ⟨#[]⟩, .string ⟨#[]⟩, .slice a6 0 c6, .string ⟨#[]⟩]] w8 fun r w' => r = .returned (.int .i64 0) ∧ Below w8.heap.size w8 w') := by
    have h := checkS ⟨3, tRes, ⟨tn, td, tr⟩, ⟨fn, fd, fr⟩, id, E0, E0, E0, [], E0⟩ a6 c6 0 w8 (fun i h => absurd h (Nat.not_lt_zero _)) (Nat.zero_le _) (by have := HWB.out; show _ ≤ 18900 + E0.size; omega) (by show E0.size ≤ 100000; decide)
    rw [hokb] at h
    exact h
  obtain ⟨x0, x1, x2, x3, x4, x5, x6, x7, x8, x9, x10, x11, x12, x13⟩ := bx14 HX8.out
  obtain ⟨z0, z1, z2, z3, z4, z5, z6, z7, z8, z9, z10, z11, z12, z13⟩ := bx14 HR8.out
  go_wp2_with fail
  refine CC.out.mono ?_
  rintro r w9 ⟨rfl, hb⟩
  have HB9' := Lib.hid (HB8.out.trans (hb.mono HB8.out.size))
  have HX9' := Lib.hid ((hb.block _ (heap_lt HX8.out)).trans HX8.out)
  have HA9' := Lib.hid ((hb.block _ (heap_lt HA8.out)).trans HA8.out)
  have HR9' := Lib.hid ((hb.block _ (heap_lt HR8.out)).trans HR8.out)
  clear HB8 HX8 HA8 HR8
  have HB9 := HB9'
  have HX9 := HX9'
  have HA9 := HA9'
  have HR9 := HR9'
  clear HB9' HX9' HA9' HR9'
  clear hb CC
  clear x0 x1 x2 x3 x4 x5 x6 x7 x8 x9 x10 x11 x12 x13 z0 z1 z2 z3 z4 z5 z6 z7 z8 z9 z10 z11 z12 z13
  go_wp2_with fail
  refine (num_any _ _).mono ?_
  rintro r w9' ⟨rfl, rfl⟩
  obtain ⟨x0, x1, x2, x3, x4, x5, x6, x7, x8, x9, x10, x11, x12, x13⟩ := bx14 HX9.out
  obtain ⟨z0, z1, z2, z3, z4, z5, z6, z7, z8, z9, z10, z11, z12, z13⟩ := bx14 HR9.out
  go_upto_region 9 with fail
  clear x0 x1 x2 x3 x4 x5 x6 x7 x8 x9 x10 x11 x12 x13 z0 z1 z2 z3 z4 z5 z6 z7 z8 z9 z10 z11 z12 z13
  have CE : Hid (∀ W, Calls Tryz.prog 14 #[.agg #[.int .i64 3, .string ⟨#[101, 114, 114, 111, 114]⟩, .string tn, .string td, .string tr, .string fn, .string fd, .string fr, .string id, .string ⟨#[]⟩, .string ⟨#[]⟩, .string ⟨#[]⟩, .slice a4 0 c4, .string cond], .string cond] W fun r w' => r = .returned (.tuple #[.agg #[.int .i64 0, .string ⟨#[]⟩, .string ⟨#[]⟩, .string ⟨#[]⟩, .string ⟨#[]⟩, .string ⟨#[]⟩, .string ⟨#[]⟩, .string ⟨#[]⟩, .string ⟨#[]⟩, .string ⟨#[]⟩, .string ⟨#[]⟩, .string ⟨#[]⟩, .slice none 0 0, .string ⟨#[]⟩], .bool false]) ∧ Below W.heap.size W w') := by
    intro W
    have h := (by have h := errorS ⟨3, tErr, ⟨tn, td, tr⟩, ⟨fn, fd, fr⟩, id, E0, E0, E0, [], cond⟩ cond a4 c4 W (by have := HWA.out; show _ ≤ 18000 + cond.size; omega) (by omega); rw [er_err] at h; exact h)
    exact h
  obtain ⟨y0, y1, y2, y3, y4, y5, y6, y7, y8, y9, y10, y11, y12, y13⟩ := bx14 HA9.out
  go_wp2_with fail
  refine (CE.out _).mono ?_
  rintro r w10 ⟨rfl, hb⟩
  have HB10' := Lib.hid (HB9.out.trans (hb.mono HB9.out.size))
  have HX10' := Lib.hid ((hb.block _ (heap_lt HX9.out)).trans HX9.out)
  have HA10' := Lib.hid ((hb.block _ (heap_lt HA9.out)).trans HA9.out)
  have HR10' := Lib.hid ((hb.block _ (heap_lt HR9.out)).trans HR9.out)
  clear HB9 HX9 HA9 HR9
  have HB10 := HB10'
  have HX10 := HX10'
  have HA10 := HA10'
  have HR10 := HR10'
  clear HB10' HX10' HA10' HR10'
  clear hb CE
  clear y0 y1 y2 y3 y4 y5 y6 y7 y8 y9 y10 y11 y12 y13
  have hb : Below w10.heap.size w10 (w10.alloc (.cells #[.int .i64 0, .string ⟨#[]⟩, .string ⟨#[]⟩, .string ⟨#[]⟩, .string ⟨#[]⟩, .string ⟨#[]⟩, .string ⟨#[]⟩, .string ⟨#[]⟩, .string ⟨#[]⟩, .string ⟨#[]⟩, .string ⟨#[]⟩, .string ⟨#[]⟩, .slice none 0 0, .string ⟨#[]⟩] 26)) := (Below.refl _ _).alloc (Nat.le_refl _) _
  have HB11' := Lib.hid (HB10.out.trans (hb.mono HB10.out.size))
  have HX11' := Lib.hid ((hb.block _ (heap_lt HX10.out)).trans HX10.out)
  have HA11' := Lib.hid ((hb.block _ (heap_lt HA10.out)).trans HA10.out)
  have HR11' := Lib.hid ((hb.block _ (heap_lt HR10.out)).trans HR10.out)
  clear HB10 HX10 HA10 HR10
  have HB11 := HB11'
  have HX11 := HX11'
  have HA11 := HA11'
  have HR11 := HR11'
  clear HB11' HX11' HA11' HR11'
  have HU11 := Lib.hid (box_new w10 #[.int .i64 0, .string ⟨#[]⟩, .string ⟨#[]⟩, .string ⟨#[]⟩, .string ⟨#[]⟩, .string ⟨#[]⟩, .string ⟨#[]⟩, .string ⟨#[]⟩, .string ⟨#[]⟩, .string ⟨#[]⟩, .string ⟨#[]⟩, .string ⟨#[]⟩, .slice none 0 0, .string ⟨#[]⟩] 26)
  clear hb
  go_upto_region 11 with fail
  generalize w10.heap.size = UHU at HU11 ⊢
  generalize w10.alloc (.cells #[.int .i64 0, .string ⟨#[]⟩, .string ⟨#[]⟩, .string ⟨#[]⟩, .string ⟨#[]⟩, .string ⟨#[]⟩, .string ⟨#[]⟩, .string ⟨#[]⟩, .string ⟨#[]⟩, .string ⟨#[]⟩, .string ⟨#[]⟩, .string ⟨#[]⟩, .slice none 0 0, .string ⟨#[]⟩] 26) = w11 at HB11 HX11 HA11 HR11 HU11 ⊢
  clear HU11
  have CE : Hid (∀ W, Calls Tryz.prog 14 #[.agg #[.int .i64 3, .string ⟨#[114, 101, 115, 117, 108, 116]⟩, .string tn, .string td, .string tr, .string fn, .string fd, .string fr, .string id, .string ⟨#[]⟩, .string ⟨#[]⟩, .string ⟨#[]⟩, .slice a6 0 c6, .string ⟨#[]⟩], .string cond] W fun r w' => r = .returned (.tuple #[.agg #[.int .i64 0, .string ⟨#[]⟩, .string ⟨#[]⟩, .string ⟨#[]⟩, .string ⟨#[]⟩, .string ⟨#[]⟩, .string ⟨#[]⟩, .string ⟨#[]⟩, .string ⟨#[]⟩, .string ⟨#[]⟩, .string ⟨#[]⟩, .string ⟨#[]⟩, .slice none 0 0, .string ⟨#[]⟩], .bool false]) ∧ Below W.heap.size W w') := by
    intro W
    have h := (by have h := errorS ⟨3, tRes, ⟨tn, td, tr⟩, ⟨fn, fd, fr⟩, id, E0, E0, E0, [], E0⟩ cond a6 c6 W (by have := HWB.out; show _ ≤ 18000 + E0.size; omega) (by omega); rw [er_res] at h; exact h)
    exact h
  obtain ⟨z0, z1, z2, z3, z4, z5, z6, z7, z8, z9, z10, z11, z12, z13⟩ := bx14 HR11.out
  go_wp2_with fail
  refine (CE.out _).mono ?_
  rintro r w12 ⟨rfl, hb⟩
  have HB12' := Lib.hid (HB11.out.trans (hb.mono HB11.out.size))
  have HX12' := Lib.hid ((hb.block _ (heap_lt HX11.out)).trans HX11.out)
  have HA12' := Lib.hid ((hb.block _ (heap_lt HA11.out)).trans HA11.out)
  have HR12' := Lib.hid ((hb.block _ (heap_lt HR11.out)).trans HR11.out)
  clear HB11 HX11 HA11 HR11
  have HB12 := HB12'
  have HX12 := HX12'
  have HA12 := HA12'
  have HR12 := HR12'
  clear HB12' HX12' HA12' HR12'
  clear hb CE
  clear z0 z1 z2 z3 z4 z5 z6 z7 z8 z9 z10 z11 z12 z13
  have hb : Below w12.heap.size w12 (w12.alloc (.cells #[.int .i64 0, .string ⟨#[]⟩, .string ⟨#[]⟩, .string ⟨#[]⟩, .string ⟨#[]⟩, .string ⟨#[]⟩, .string ⟨#[]⟩, .string ⟨#[]⟩, .string ⟨#[]⟩, .string ⟨#[]⟩, .string ⟨#[]⟩, .string ⟨#[]⟩, .slice none 0 0, .string ⟨#[]⟩] 26)) := (Below.refl _ _).alloc (Nat.le_refl _) _
  have HB13' := Lib.hid (HB12.out.trans (hb.mono HB12.out.size))
  have HX13' := Lib.hid ((hb.block _ (heap_lt HX12.out)).trans HX12.out)
  have HA13' := Lib.hid ((hb.block _ (heap_lt HA12.out)).trans HA12.out)
  have HR13' := Lib.hid ((hb.block _ (heap_lt HR12.out)).trans HR12.out)
  clear HB12 HX12 HA12 HR12
  have HB13 := HB13'
  have HX13 := HX13'
  have HA13 := HA13'
  have HR13 := HR13'
  clear HB13' HX13' HA13' HR13'
  have HV13 := Lib.hid (box_new w12 #[.int .i64 0, .string ⟨#[]⟩, .string ⟨#[]⟩, .string ⟨#[]⟩, .string ⟨#[]⟩, .string ⟨#[]⟩, .string ⟨#[]⟩, .string ⟨#[]⟩, .string ⟨#[]⟩, .string ⟨#[]⟩, .string ⟨#[]⟩, .string ⟨#[]⟩, .slice none 0 0, .string ⟨#[]⟩] 26)
  clear hb
  go_upto_region 15 with fail
  generalize w12.heap.size = UHV at HV13 ⊢
  generalize w12.alloc (.cells #[.int .i64 0, .string ⟨#[]⟩, .string ⟨#[]⟩, .string ⟨#[]⟩, .string ⟨#[]⟩, .string ⟨#[]⟩, .string ⟨#[]⟩, .string ⟨#[]⟩, .string ⟨#[]⟩, .string ⟨#[]⟩, .string ⟨#[]⟩, .string ⟨#[]⟩, .slice none 0 0, .string ⟨#[]⟩] 26) = w13 at HB13 HX13 HA13 HR13 HV13 ⊢
  clear HV13
  have CE : Hid (∀ W, Calls Tryz.prog 15 #[.agg #[.int .i64 3, .string ⟨#[114, 101, 115, 117, 108, 116]⟩, .string tn, .string td, .string tr, .string fn, .string fd, .string fr, .string id, .string ⟨#[]⟩, .string ⟨#[]⟩, .string ⟨#[]⟩, .slice a6 0 c6, .string ⟨#[]⟩], .slice none 0 0] W fun r w' => r = .returned (.tuple #[.agg #[.int .i64 0, .string ⟨#[]⟩, .string ⟨#[]⟩, .string ⟨#[]⟩, .string ⟨#[]⟩, .string ⟨#[]⟩, .string ⟨#[]⟩, .string ⟨#[]⟩, .string ⟨#[]⟩, .string ⟨#[]⟩, .string ⟨#[]⟩, .string ⟨#[]⟩, .slice none 0 0, .string ⟨#[]⟩], .bool false]) ∧ Below W.heap.size W w') := by
    intro W
    have h := (by have h := resultS ⟨3, tRes, ⟨tn, td, tr⟩, ⟨fn, fd, fr⟩, id, E0, E0, E0, [], E0⟩ a6 c6 W (by have := HWB.out; show _ ≤ 18000 + E0.size; omega); rw [rs_res] at h; exact h)
    exact h
  obtain ⟨z0, z1, z2, z3, z4, z5, z6, z7, z8, z9, z10, z11, z12, z13⟩ := bx14 HR13.out
  go_wp2_with fail
  refine (CE.out _).mono ?_
  rintro r w14 ⟨rfl, hb⟩
  have HB14' := Lib.hid (HB13.out.trans (hb.mono HB13.out.size))
  have HX14' := Lib.hid ((hb.block _ (heap_lt HX13.out)).trans HX13.out)
  have HA14' := Lib.hid ((hb.block _ (heap_lt HA13.out)).trans HA13.out)
  have HR14' := Lib.hid ((hb.block _ (heap_lt HR13.out)).trans HR13.out)
  clear HB13 HX13 HA13 HR13
  have HB14 := HB14'
  have HX14 := HX14'
  have HA14 := HA14'
  have HR14 := HR14'
  clear HB14' HX14' HA14' HR14'
  clear hb CE
  clear z0 z1 z2 z3 z4 z5 z6 z7 z8 z9 z10 z11 z12 z13
  have hb : Below w14.heap.size w14 (w14.alloc (.cells #[.int .i64 0, .string ⟨#[]⟩, .string ⟨#[]⟩, .string ⟨#[]⟩, .string ⟨#[]⟩, .string ⟨#[]⟩, .string ⟨#[]⟩, .string ⟨#[]⟩, .string ⟨#[]⟩, .string ⟨#[]⟩, .string ⟨#[]⟩, .string ⟨#[]⟩, .slice none 0 0, .string ⟨#[]⟩] 26)) := (Below.refl _ _).alloc (Nat.le_refl _) _
  have HB15' := Lib.hid (HB14.out.trans (hb.mono HB14.out.size))
  have HX15' := Lib.hid ((hb.block _ (heap_lt HX14.out)).trans HX14.out)
  have HA15' := Lib.hid ((hb.block _ (heap_lt HA14.out)).trans HA14.out)
  have HR15' := Lib.hid ((hb.block _ (heap_lt HR14.out)).trans HR14.out)
  clear HB14 HX14 HA14 HR14
  have HB15 := HB15'
  have HX15 := HX15'
  have HA15 := HA15'
  have HR15 := HR15'
  clear HB15' HX15' HA15' HR15'
  have HW_15 := Lib.hid (box_new w14 #[.int .i64 0, .string ⟨#[]⟩, .string ⟨#[]⟩, .string ⟨#[]⟩, .string ⟨#[]⟩, .string ⟨#[]⟩, .string ⟨#[]⟩, .string ⟨#[]⟩, .string ⟨#[]⟩, .string ⟨#[]⟩, .string ⟨#[]⟩, .string ⟨#[]⟩, .slice none 0 0, .string ⟨#[]⟩] 26)
  clear hb
  go_upto_region 16 with fail
  generalize w14.heap.size = UHW_ at HW_15 ⊢
  generalize w14.alloc (.cells #[.int .i64 0, .string ⟨#[]⟩, .string ⟨#[]⟩, .string ⟨#[]⟩, .string ⟨#[]⟩, .string ⟨#[]⟩, .string ⟨#[]⟩, .string ⟨#[]⟩, .string ⟨#[]⟩, .string ⟨#[]⟩, .string ⟨#[]⟩, .string ⟨#[]⟩, .slice none 0 0, .string ⟨#[]⟩] 26) = w15 at HB15 HX15 HA15 HR15 HW_15 ⊢
  clear HW_15
  obtain ⟨x0, x1, x2, x3, x4, x5, x6, x7, x8, x9, x10, x11, x12, x13⟩ := bx14 HX15.out
  go_wp2_with fail
  refine (Jn.rPut_any tn td tr _ (by omega) (by omega) (by omega)).mono ?_
  rintro r wp ⟨rfl, hb⟩
  have HB16' := Lib.hid (HB15.out.trans (hb.mono HB15.out.size))
  have HX16' := Lib.hid ((hb.block _ (heap_lt HX15.out)).trans HX15.out)
  have HA16' := Lib.hid ((hb.block _ (heap_lt HA15.out)).trans HA15.out)
  have HR16' := Lib.hid ((hb.block _ (heap_lt HR15.out)).trans HR15.out)
  clear HB15 HX15 HA15 HR15
  have HB16 := HB16'
  have HX16 := HX16'
  have HA16 := HA16'
  have HR16 := HR16'
  clear HB16' HX16' HA16' HR16'
  clear hb
  clear x0 x1 x2 x3 x4 x5 x6 x7 x8 x9 x10 x11 x12 x13
  generalize Jn.putB tn td tr = pt at hput ⊢
  go_wp2_with fail
  refine (CLV.out _).mono ?_
  rintro r wl ⟨rfl, hb⟩
  have HBL := Lib.hid (more HB16.out (Nat.le_refl _) hb)
  clear hb
  go_wp2_with fail
  go_ret
  exact ⟨rfl, HBL.out⟩
end Go.Proofs.YtccpdfcmhggleaaGreatDoor
