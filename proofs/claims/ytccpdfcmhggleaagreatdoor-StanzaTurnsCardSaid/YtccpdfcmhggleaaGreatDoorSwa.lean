/- The walk of StanzaTurns, each way by itself. Condition: texts and elements of the reach that the form has. -/
import Derived.Test.YtccpdfcmhggleaaGreatDoorSu
import Derived.Test.YtccpdfcmhggleaaGreatDoorDj
namespace Go.Proofs.YtccpdfcmhggleaaGreatDoor
open Go.RowKit Go.Lib Go.Shelf Tg St

theorem er_someT {s : S} {c : ByteArray} {t : S} (h : er s c = some t) : t = { St.back s tErr with cd := c } ∧ okS t = true := by
  unfold er at h
  split at h
  · cases h
  · unfold chkd at h
    split at h
    · cases h; exact ⟨rfl, by assumption⟩
    · cases h
theorem rs_some {s t : S} (h : rs s [] = some t) : t = St.back s tRes ∧ okS t = true ∧ s.kd = 3 := by
  unfold rs at h
  split at h
  · rename_i hc
    simp only [Bool.and_eq_true, decide_eq_true_eq] at hc
    unfold chkd at h
    split at h
    · rename_i ho
      cases h; exact ⟨rfl, ho, hc.1⟩
    · cases h
  · cases h
theorem er_err (k : Int) (f t : Ad) (i a b c cd cond : ByteArray) (l : List El) : er ⟨k, tErr, f, t, i, a, b, c, l, cd⟩ cond = none := by
  unfold er
  rw [if_pos (by simp [eqb_self])]
theorem er_res (f t : Ad) (i a b c cd cond : ByteArray) (l : List El) : er ⟨3, tRes, f, t, i, a, b, c, l, cd⟩ cond = none := by
  unfold er
  rw [if_pos (by simp [eqb_self])]
theorem rs_res (k : Int) (f t : Ad) (i a b c cd : ByteArray) (l : List El) : rs ⟨k, tRes, f, t, i, a, b, c, l, cd⟩ [] = none := by
  unfold rs
  rw [if_neg]
  simp only [Bool.and_eq_true, not_and]
  intro _
  have e1 : eqb tRes tGet = false := eqb_ne (by decide)
  have e2 : eqb tRes tSet = false := eqb_ne (by decide)
  simp [e1, e2]
theorem wtS_back {k : Int} {f t : Ad} {i a b c cd c2 ty ty2 : ByteArray} {l : List El} (h : wtS ⟨k, ty, f, t, i, a, b, c, l, cd⟩ ≤ 12000) (h2 : ty2.size ≤ 6) : wtS ⟨k, ty2, t, f, i, E0, E0, E0, [], c2⟩ ≤ 12010 + c2.size := by
  unfold wtS at h ⊢
  simp only at h ⊢
  have e2 : E0.size = 0 := by decide
  have e3 : wts [] = 0 := rfl
  omega
theorem put_some {n d r : ByteArray} (h : Jd.ok (Ad.j ⟨n, d, r⟩) = true) : 0 < (Jn.putB n d r).size := by
  have h1 := (Jd.ok_iff _).1 h
  have h2 : d.data.toList ≠ [] := by
    intro e
    have h3 := h1.2.2.2.2.2
    rw [show (Ad.j ⟨n, d, r⟩).d = d.data.toList from rfl, e] at h3
    simp [Jd.dm] at h3
  unfold Jn.putB Jn.mk Jd.put
  cases hd : d.data.toList with
  | nil => exact absurd hd h2
  | cons x l => simp [ByteArray.size]; omega
set_option maxRecDepth 100000 in
set_option maxHeartbeats 16000000 in
theorem turns_nn (ld : List El) (kd : Int) (ty fn fd fr tn td tr id sh st bd cd : ByteArray) (aL : Option Addr) (cL : Nat) (cond : ByteArray) (w : World) (her : er ⟨kd, ty, ⟨fn, fd, fr⟩, ⟨tn, td, tr⟩, id, sh, st, bd, ld, cd⟩ cond = none) (hrs : rs ⟨kd, ty, ⟨fn, fd, fr⟩, ⟨tn, td, tr⟩, id, sh, st, bd, ld, cd⟩ [] = none) (hK : KsIn w.heap.size w aL ld) (hcs : cond.size ≤ 140737488351232) (h1 : ty.size ≤ 140737488351232) (h2 : fn.size ≤ 140737488351232) (h3 : fd.size ≤ 140737488351232) (h4 : fr.size ≤ 140737488351232) (h5 : tn.size ≤ 140737488351232) (h6 : td.size ≤ 140737488351232) (h7 : tr.size ≤ 140737488351232) (h8 : id.size ≤ 140737488351232) (h9 : sh.size ≤ 140737488351232) (h10_ : st.size ≤ 140737488351232) (h11 : bd.size ≤ 140737488351232) (h12 : cd.size ≤ 140737488351232) :
    Calls Tryz.prog 4 #[.agg #[.int .i64 kd, .string ty, .string fn, .string fd, .string fr, .string tn, .string td, .string tr, .string id, .string sh, .string st, .string bd, .slice aL ld.length cL, .string cd], .string cond] w fun r w' => r = .returned (.bool true) ∧ Below w.heap.size w w' := by
  have CLV := Lib.hid (fun W => live9_any W)
  have CSM := Lib.hid (fun (W : World) (hb : Below w.heap.size w W) => small_any ld w.heap.size kd ty fn fd fr tn td tr id sh st bd cd aL cL W (hK.below hb) hb.size h1 h2 h3 h4 h5 h6 h7 h8 h9 h10_ h11 h12)
  have HK := Lib.hid hK
  have HB0 : Hid (Below w.heap.size w (w.alloc (.cells #[.int .i64 kd, .string ty, .string fn, .string fd, .string fr, .string tn, .string td, .string tr, .string id, .string sh, .string st, .string bd, .slice aL ld.length cL, .string cd] 26))) := (Below.refl _ w).alloc (Nat.le_refl _) _
  have HX0 := Lib.hid (box_new w #[.int .i64 kd, .string ty, .string fn, .string fd, .string fr, .string tn, .string td, .string tr, .string id, .string sh, .string st, .string bd, .slice aL ld.length cL, .string cd] 26)
  clear hK h1 h2 h3 h4 h5 h6 h7 h8 h9 h10_ h11 h12
  go_enter Tryz.func4, Tryz.ntmps4
  go_upto_region 1 with fail
  generalize w.alloc (.cells #[.int .i64 kd, .string ty, .string fn, .string fd, .string fr, .string tn, .string td, .string tr, .string id, .string sh, .string st, .string bd, .slice aL ld.length cL, .string cd] 26) = w0 at HB0 HX0 ⊢
  obtain ⟨x0, x1, x2, x3, x4, x5, x6, x7, x8, x9, x10, x11, x12, x13⟩ := bx14 HX0.out
  go_wp2_with fail
  refine (CSM.out _ HB0.out).mono ?_
  rintro r w1 ⟨⟨b, rfl, hsm⟩, hb⟩
  have HB1 := Lib.hid (more HB0.out (Nat.le_refl _) hb)
  have HX1 := Lib.hid ((hb.block _ (heap_lt HX0.out)).trans HX0.out)
  clear hb HB0 HX0 CSM x0 x1 x2 x3 x4 x5 x6 x7 x8 x9 x10 x11 x12 x13
  cases b with
  | false =>
    clear hsm
    go_wp2_with fail
    refine (CLV.out _).mono ?_
    rintro r wl ⟨rfl, hb⟩
    have HBL := Lib.hid (more HB1.out (Nat.le_refl _) hb)
    clear hb
    go_wp2_with fail
    go_ret
    exact ⟨rfl, HBL.out⟩
  | true =>
  obtain ⟨hl10, hwt⟩ := hsm rfl
  clear hsm
  by_cases hn : cond.size ≤ 12000
  case neg =>
    have hgt : (12000 : Int) < cond.size := by omega
    go_wp2_with fail
    refine (CLV.out _).mono ?_
    rintro r wl ⟨rfl, hb⟩
    have HBL := Lib.hid (more HB1.out (Nat.le_refl _) hb)
    clear hb
    go_wp2_with fail
    go_ret
    exact ⟨rfl, HBL.out⟩
  case pos =>
  have hngt : ¬ (12000 : Int) < cond.size := by omega
  have CCK : Hid (Calls Tryz.prog 10 #[.agg #[.int .i64 kd, .string ty, .string fn, .string fd, .string fr, .string tn, .string td, .string tr, .string id, .string sh, .string st, .string bd, .slice aL ld.length cL, .string cd]] w1 fun r w' => r = .returned (.int .i64 (cdS (okS ⟨kd, ty, ⟨fn, fd, fr⟩, ⟨tn, td, tr⟩, id, sh, st, bd, ld, cd⟩))) ∧ Below w1.heap.size w1 w') :=
    checkS ⟨kd, ty, ⟨fn, fd, fr⟩, ⟨tn, td, tr⟩, id, sh, st, bd, ld, cd⟩ aL cL w.heap.size w1 (HK.out.below HB1.out) HB1.out.size (by omega) (by have h := hwt; unfold wtS at h; simp only at h ⊢; omega)
  obtain ⟨x0, x1, x2, x3, x4, x5, x6, x7, x8, x9, x10, x11, x12, x13⟩ := bx14 HX1.out
  go_wp2_with fail
  refine CCK.out.mono ?_
  rintro r w3 ⟨rfl, hb⟩
  have HB3 := Lib.hid (more HB1.out (Nat.le_refl _) hb)
  have HX3 := Lib.hid ((hb.block _ (heap_lt HX1.out)).trans HX1.out)
  clear hb HB1 HX1 CCK HK x0 x1 x2 x3 x4 x5 x6 x7 x8 x9 x10 x11 x12 x13
  go_wp2_with fail
  refine (num_any _ _).mono ?_
  rintro r w3' ⟨rfl, rfl⟩
  cases hok : okS ⟨kd, ty, ⟨fn, fd, fr⟩, ⟨tn, td, tr⟩, id, sh, st, bd, ld, cd⟩ with
  | false =>
    dsimp only [cdS]
    go_wp2_with fail
    refine (CLV.out _).mono ?_
    rintro r wl ⟨rfl, hb⟩
    have HBL := Lib.hid (more HB3.out (Nat.le_refl _) hb)
    clear hb
    go_wp2_with fail
    go_ret
    exact ⟨rfl, HBL.out⟩
  | true =>
  have hput : (0 : Int) < ((Jn.putB tn td tr).size : Int) := by
    have h := (ok_parts hok).1
    unfold addrB at h
    simp only [Bool.and_eq_true] at h
    have := put_some h.2
    omega
  have hz : tn.size ≤ 1048576 ∧ td.size ≤ 1048576 ∧ tr.size ≤ 1048576 := by
    have h := hwt
    unfold wtS at h
    simp only at h
    omega
  obtain ⟨hz1, hz2, hz3⟩ := hz
  have CER : Hid (∀ W, Calls Tryz.prog 14 #[.agg #[.int .i64 kd, .string ty, .string fn, .string fd, .string fr, .string tn, .string td, .string tr, .string id, .string sh, .string st, .string bd, .slice aL ld.length cL, .string cd], .string cond] W (AnsP (er ⟨kd, ty, ⟨fn, fd, fr⟩, ⟨tn, td, tr⟩, id, sh, st, bd, ld, cd⟩ cond) W)) := fun W =>
    errorS ⟨kd, ty, ⟨fn, fd, fr⟩, ⟨tn, td, tr⟩, id, sh, st, bd, ld, cd⟩ cond aL cL W (by omega) (by omega)
  have CRR : Hid (∀ W, Calls Tryz.prog 15 #[.agg #[.int .i64 kd, .string ty, .string fn, .string fd, .string fr, .string tn, .string td, .string tr, .string id, .string sh, .string st, .string bd, .slice aL ld.length cL, .string cd], .slice none 0 0] W (AnsP (rs ⟨kd, ty, ⟨fn, fd, fr⟩, ⟨tn, td, tr⟩, id, sh, st, bd, ld, cd⟩ []) W)) := fun W =>
    resultS ⟨kd, ty, ⟨fn, fd, fr⟩, ⟨tn, td, tr⟩, id, sh, st, bd, ld, cd⟩ aL cL W (by omega)
  have HWA : Hid (wtS ⟨kd, tErr, ⟨tn, td, tr⟩, ⟨fn, fd, fr⟩, id, E0, E0, E0, [], cond⟩ ≤ 12010 + cond.size) := wtS_back hwt (by decide)
  have HWB : Hid (wtS ⟨kd, tRes, ⟨tn, td, tr⟩, ⟨fn, fd, fr⟩, id, E0, E0, E0, [], E0⟩ ≤ 12010 + E0.size) := wtS_back hwt (by decide)
  dsimp only [cdS]
  have CE : Hid (∀ W, Calls Tryz.prog 14 #[.agg #[.int .i64 kd, .string ty, .string fn, .string fd, .string fr, .string tn, .string td, .string tr, .string id, .string sh, .string st, .string bd, .slice aL ld.length cL, .string cd], .string cond] W fun r w' => r = .returned (.tuple #[.agg #[.int .i64 0, .string ⟨#[]⟩, .string ⟨#[]⟩, .string ⟨#[]⟩, .string ⟨#[]⟩, .string ⟨#[]⟩, .string ⟨#[]⟩, .string ⟨#[]⟩, .string ⟨#[]⟩, .string ⟨#[]⟩, .string ⟨#[]⟩, .string ⟨#[]⟩, .slice none 0 0, .string ⟨#[]⟩], .bool false]) ∧ Below W.heap.size W w') := by
    intro W
    have h := CER.out W
    rw [her] at h
    exact h
  have CR : Hid (∀ W, Calls Tryz.prog 15 #[.agg #[.int .i64 kd, .string ty, .string fn, .string fd, .string fr, .string tn, .string td, .string tr, .string id, .string sh, .string st, .string bd, .slice aL ld.length cL, .string cd], .slice none 0 0] W fun r w' => r = .returned (.tuple #[.agg #[.int .i64 0, .string ⟨#[]⟩, .string ⟨#[]⟩, .string ⟨#[]⟩, .string ⟨#[]⟩, .string ⟨#[]⟩, .string ⟨#[]⟩, .string ⟨#[]⟩, .string ⟨#[]⟩, .string ⟨#[]⟩, .string ⟨#[]⟩, .string ⟨#[]⟩, .slice none 0 0, .string ⟨#[]⟩], .bool false]) ∧ Below W.heap.size W w') := by
    intro W
    have h := CRR.out W
    rw [hrs] at h
    exact h
  clear CER CRR
  obtain ⟨x0, x1, x2, x3, x4, x5, x6, x7, x8, x9, x10, x11, x12, x13⟩ := bx14 HX3.out
  go_wp2_with fail
  refine (CE.out _).mono ?_
  rintro r w4 ⟨rfl, hb⟩
  have HB4' := Lib.hid (HB3.out.trans (hb.mono HB3.out.size))
  have HX4' := Lib.hid ((hb.block _ (heap_lt HX3.out)).trans HX3.out)
  clear HB3 HX3
  have HB4 := HB4'
  have HX4 := HX4'
  clear HB4' HX4'
  clear hb CE
  clear x0 x1 x2 x3 x4 x5 x6 x7 x8 x9 x10 x11 x12 x13
  have hb : Below w4.heap.size w4 (w4.alloc (.cells #[.int .i64 0, .string ⟨#[]⟩, .string ⟨#[]⟩, .string ⟨#[]⟩, .string ⟨#[]⟩, .string ⟨#[]⟩, .string ⟨#[]⟩, .string ⟨#[]⟩, .string ⟨#[]⟩, .string ⟨#[]⟩, .string ⟨#[]⟩, .string ⟨#[]⟩, .slice none 0 0, .string ⟨#[]⟩] 26)) := (Below.refl _ _).alloc (Nat.le_refl _) _
  have HB5' := Lib.hid (HB4.out.trans (hb.mono HB4.out.size))
  have HX5' := Lib.hid ((hb.block _ (heap_lt HX4.out)).trans HX4.out)
  clear HB4 HX4
  have HB5 := HB5'
  have HX5 := HX5'
  clear HB5' HX5'
  have HA5 := Lib.hid (box_new w4 #[.int .i64 0, .string ⟨#[]⟩, .string ⟨#[]⟩, .string ⟨#[]⟩, .string ⟨#[]⟩, .string ⟨#[]⟩, .string ⟨#[]⟩, .string ⟨#[]⟩, .string ⟨#[]⟩, .string ⟨#[]⟩, .string ⟨#[]⟩, .string ⟨#[]⟩, .slice none 0 0, .string ⟨#[]⟩] 26)
  clear hb
  go_upto_region 4 with fail
  generalize w4.heap.size = T1 at HA5 ⊢
  generalize w4.alloc (.cells #[.int .i64 0, .string ⟨#[]⟩, .string ⟨#[]⟩, .string ⟨#[]⟩, .string ⟨#[]⟩, .string ⟨#[]⟩, .string ⟨#[]⟩, .string ⟨#[]⟩, .string ⟨#[]⟩, .string ⟨#[]⟩, .string ⟨#[]⟩, .string ⟨#[]⟩, .slice none 0 0, .string ⟨#[]⟩] 26) = w5 at HB5 HX5 HA5 ⊢
  obtain ⟨x0, x1, x2, x3, x4, x5, x6, x7, x8, x9, x10, x11, x12, x13⟩ := bx14 HX5.out
  go_wp2_with fail
  refine (CR.out _).mono ?_
  rintro r w6 ⟨rfl, hb⟩
  have HB6' := Lib.hid (HB5.out.trans (hb.mono HB5.out.size))
  have HX6' := Lib.hid ((hb.block _ (heap_lt HX5.out)).trans HX5.out)
  have HA6' := Lib.hid ((hb.block _ (heap_lt HA5.out)).trans HA5.out)
  clear HB5 HX5 HA5
  have HB6 := HB6'
  have HX6 := HX6'
  have HA6 := HA6'
  clear HB6' HX6' HA6'
  clear hb CR
  clear x0 x1 x2 x3 x4 x5 x6 x7 x8 x9 x10 x11 x12 x13
  have hb : Below w6.heap.size w6 (w6.alloc (.cells #[.int .i64 0, .string ⟨#[]⟩, .string ⟨#[]⟩, .string ⟨#[]⟩, .string ⟨#[]⟩, .string ⟨#[]⟩, .string ⟨#[]⟩, .string ⟨#[]⟩, .string ⟨#[]⟩, .string ⟨#[]⟩, .string ⟨#[]⟩, .string ⟨#[]⟩, .slice none 0 0, .string ⟨#[]⟩] 26)) := (Below.refl _ _).alloc (Nat.le_refl _) _
  have HB7' := Lib.hid (HB6.out.trans (hb.mono HB6.out.size))
  have HX7' := Lib.hid ((hb.block _ (heap_lt HX6.out)).trans HX6.out)
  have HA7' := Lib.hid ((hb.block _ (heap_lt HA6.out)).trans HA6.out)
  clear HB6 HX6 HA6
  have HB7 := HB7'
  have HX7 := HX7'
  have HA7 := HA7'
  clear HB7' HX7' HA7'
  have HR7 := Lib.hid (box_new w6 #[.int .i64 0, .string ⟨#[]⟩, .string ⟨#[]⟩, .string ⟨#[]⟩, .string ⟨#[]⟩, .string ⟨#[]⟩, .string ⟨#[]⟩, .string ⟨#[]⟩, .string ⟨#[]⟩, .string ⟨#[]⟩, .string ⟨#[]⟩, .string ⟨#[]⟩, .slice none 0 0, .string ⟨#[]⟩] 26)
  clear hb
  go_upto_region 5 with fail
  generalize w6.heap.size = T2 at HR7 ⊢
  generalize w6.alloc (.cells #[.int .i64 0, .string ⟨#[]⟩, .string ⟨#[]⟩, .string ⟨#[]⟩, .string ⟨#[]⟩, .string ⟨#[]⟩, .string ⟨#[]⟩, .string ⟨#[]⟩, .string ⟨#[]⟩, .string ⟨#[]⟩, .string ⟨#[]⟩, .string ⟨#[]⟩, .slice none 0 0, .string ⟨#[]⟩] 26) = w7 at HB7 HX7 HA7 HR7 ⊢
  obtain ⟨x0, x1, x2, x3, x4, x5, x6, x7, x8, x9, x10, x11, x12, x13⟩ := bx14 HX7.out
  go_wp2_with fail
  refine (Jn.rPut_any tn td tr _ (by omega) (by omega) (by omega)).mono ?_
  rintro r wp ⟨rfl, hb⟩
  have HB8' := Lib.hid (HB7.out.trans (hb.mono HB7.out.size))
  have HX8' := Lib.hid ((hb.block _ (heap_lt HX7.out)).trans HX7.out)
  have HA8' := Lib.hid ((hb.block _ (heap_lt HA7.out)).trans HA7.out)
  have HR8' := Lib.hid ((hb.block _ (heap_lt HR7.out)).trans HR7.out)
  clear HB7 HX7 HA7 HR7
  have HB8 := HB8'
  have HX8 := HX8'
  have HA8 := HA8'
  have HR8 := HR8'
  clear HB8' HX8' HA8' HR8'
  clear hb
  clear x0 x1 x2 x3 x4 x5 x6 x7 x8 x9 x10 x11 x12 x13
  generalize Jn.putB tn td tr = pt at hput ⊢
  go_wp2_with fail
  refine (CLV.out _).mono ?_
  rintro r wl ⟨rfl, hb⟩
  have HBL := Lib.hid (more HB8.out (Nat.le_refl _) hb)
  clear hb
  go_wp2_with fail
  go_ret
  exact ⟨rfl, HBL.out⟩
set_option maxRecDepth 100000 in
set_option maxHeartbeats 16000000 in
theorem turns_yn (ld : List El) (kd : Int) (ty fn fd fr tn td tr id sh st bd cd : ByteArray) (aL : Option Addr) (cL : Nat) (cond : ByteArray) (w : World) (her : er ⟨kd, ty, ⟨fn, fd, fr⟩, ⟨tn, td, tr⟩, id, sh, st, bd, ld, cd⟩ cond = some ⟨kd, tErr, ⟨tn, td, tr⟩, ⟨fn, fd, fr⟩, id, E0, E0, E0, [], cond⟩) (hrs : rs ⟨kd, ty, ⟨fn, fd, fr⟩, ⟨tn, td, tr⟩, id, sh, st, bd, ld, cd⟩ [] = none) (hK : KsIn w.heap.size w aL ld) (hcs : cond.size ≤ 140737488351232) (h1 : ty.size ≤ 140737488351232) (h2 : fn.size ≤ 140737488351232) (h3 : fd.size ≤ 140737488351232) (h4 : fr.size ≤ 140737488351232) (h5 : tn.size ≤ 140737488351232) (h6 : td.size ≤ 140737488351232) (h7 : tr.size ≤ 140737488351232) (h8 : id.size ≤ 140737488351232) (h9 : sh.size ≤ 140737488351232) (h10_ : st.size ≤ 140737488351232) (h11 : bd.size ≤ 140737488351232) (h12 : cd.size ≤ 140737488351232) :
    Calls Tryz.prog 4 #[.agg #[.int .i64 kd, .string ty, .string fn, .string fd, .string fr, .string tn, .string td, .string tr, .string id, .string sh, .string st, .string bd, .slice aL ld.length cL, .string cd], .string cond] w fun r w' => r = .returned (.bool true) ∧ Below w.heap.size w w' := by
  have CLV := Lib.hid (fun W => live9_any W)
  have CSM := Lib.hid (fun (W : World) (hb : Below w.heap.size w W) => small_any ld w.heap.size kd ty fn fd fr tn td tr id sh st bd cd aL cL W (hK.below hb) hb.size h1 h2 h3 h4 h5 h6 h7 h8 h9 h10_ h11 h12)
  have HK := Lib.hid hK
  have HB0 : Hid (Below w.heap.size w (w.alloc (.cells #[.int .i64 kd, .string ty, .string fn, .string fd, .string fr, .string tn, .string td, .string tr, .string id, .string sh, .string st, .string bd, .slice aL ld.length cL, .string cd] 26))) := (Below.refl _ w).alloc (Nat.le_refl _) _
  have HX0 := Lib.hid (box_new w #[.int .i64 kd, .string ty, .string fn, .string fd, .string fr, .string tn, .string td, .string tr, .string id, .string sh, .string st, .string bd, .slice aL ld.length cL, .string cd] 26)
  clear hK h1 h2 h3 h4 h5 h6 h7 h8 h9 h10_ h11 h12
  go_enter Tryz.func4, Tryz.ntmps4
  go_upto_region 1 with fail
  generalize w.alloc (.cells #[.int .i64 kd, .string ty, .string fn, .string fd, .string fr, .string tn, .string td, .string tr, .string id, .string sh, .string st, .string bd, .slice aL ld.length cL, .string cd] 26) = w0 at HB0 HX0 ⊢
  obtain ⟨x0, x1, x2, x3, x4, x5, x6, x7, x8, x9, x10, x11, x12, x13⟩ := bx14 HX0.out
  go_wp2_with fail
  refine (CSM.out _ HB0.out).mono ?_
  rintro r w1 ⟨⟨b, rfl, hsm⟩, hb⟩
  have HB1 := Lib.hid (more HB0.out (Nat.le_refl _) hb)
  have HX1 := Lib.hid ((hb.block _ (heap_lt HX0.out)).trans HX0.out)
  clear hb HB0 HX0 CSM x0 x1 x2 x3 x4 x5 x6 x7 x8 x9 x10 x11 x12 x13
  cases b with
  | false =>
    clear hsm
    go_wp2_with fail
    refine (CLV.out _).mono ?_
    rintro r wl ⟨rfl, hb⟩
    have HBL := Lib.hid (more HB1.out (Nat.le_refl _) hb)
    clear hb
    go_wp2_with fail
    go_ret
    exact ⟨rfl, HBL.out⟩
  | true =>
  obtain ⟨hl10, hwt⟩ := hsm rfl
  clear hsm
  by_cases hn : cond.size ≤ 12000
  case neg =>
    have hgt : (12000 : Int) < cond.size := by omega
    go_wp2_with fail
    refine (CLV.out _).mono ?_
    rintro r wl ⟨rfl, hb⟩
    have HBL := Lib.hid (more HB1.out (Nat.le_refl _) hb)
    clear hb
    go_wp2_with fail
    go_ret
    exact ⟨rfl, HBL.out⟩
  case pos =>
  have hngt : ¬ (12000 : Int) < cond.size := by omega
  have CCK : Hid (Calls Tryz.prog 10 #[.agg #[.int .i64 kd, .string ty, .string fn, .string fd, .string fr, .string tn, .string td, .string tr, .string id, .string sh, .string st, .string bd, .slice aL ld.length cL, .string cd]] w1 fun r w' => r = .returned (.int .i64 (cdS (okS ⟨kd, ty, ⟨fn, fd, fr⟩, ⟨tn, td, tr⟩, id, sh, st, bd, ld, cd⟩))) ∧ Below w1.heap.size w1 w') :=
    checkS ⟨kd, ty, ⟨fn, fd, fr⟩, ⟨tn, td, tr⟩, id, sh, st, bd, ld, cd⟩ aL cL w.heap.size w1 (HK.out.below HB1.out) HB1.out.size (by omega) (by have h := hwt; unfold wtS at h; simp only at h ⊢; omega)
  obtain ⟨x0, x1, x2, x3, x4, x5, x6, x7, x8, x9, x10, x11, x12, x13⟩ := bx14 HX1.out
  go_wp2_with fail
  refine CCK.out.mono ?_
  rintro r w3 ⟨rfl, hb⟩
  have HB3 := Lib.hid (more HB1.out (Nat.le_refl _) hb)
  have HX3 := Lib.hid ((hb.block _ (heap_lt HX1.out)).trans HX1.out)
  clear hb HB1 HX1 CCK HK x0 x1 x2 x3 x4 x5 x6 x7 x8 x9 x10 x11 x12 x13
  go_wp2_with fail
  refine (num_any _ _).mono ?_
  rintro r w3' ⟨rfl, rfl⟩
  cases hok : okS ⟨kd, ty, ⟨fn, fd, fr⟩, ⟨tn, td, tr⟩, id, sh, st, bd, ld, cd⟩ with
  | false =>
    dsimp only [cdS]
    go_wp2_with fail
    refine (CLV.out _).mono ?_
    rintro r wl ⟨rfl, hb⟩
    have HBL := Lib.hid (more HB3.out (Nat.le_refl _) hb)
    clear hb
    go_wp2_with fail
    go_ret
    exact ⟨rfl, HBL.out⟩
  | true =>
  have hput : (0 : Int) < ((Jn.putB tn td tr).size : Int) := by
    have h := (ok_parts hok).1
    unfold addrB at h
    simp only [Bool.and_eq_true] at h
    have := put_some h.2
    omega
  have hz : tn.size ≤ 1048576 ∧ td.size ≤ 1048576 ∧ tr.size ≤ 1048576 := by
    have h := hwt
    unfold wtS at h
    simp only at h
    omega
  obtain ⟨hz1, hz2, hz3⟩ := hz
  have CER : Hid (∀ W, Calls Tryz.prog 14 #[.agg #[.int .i64 kd, .string ty, .string fn, .string fd, .string fr, .string tn, .string td, .string tr, .string id, .string sh, .string st, .string bd, .slice aL ld.length cL, .string cd], .string cond] W (AnsP (er ⟨kd, ty, ⟨fn, fd, fr⟩, ⟨tn, td, tr⟩, id, sh, st, bd, ld, cd⟩ cond) W)) := fun W =>
    errorS ⟨kd, ty, ⟨fn, fd, fr⟩, ⟨tn, td, tr⟩, id, sh, st, bd, ld, cd⟩ cond aL cL W (by omega) (by omega)
  have CRR : Hid (∀ W, Calls Tryz.prog 15 #[.agg #[.int .i64 kd, .string ty, .string fn, .string fd, .string fr, .string tn, .string td, .string tr, .string id, .string sh, .string st, .string bd, .slice aL ld.length cL, .string cd], .slice none 0 0] W (AnsP (rs ⟨kd, ty, ⟨fn, fd, fr⟩, ⟨tn, td, tr⟩, id, sh, st, bd, ld, cd⟩ []) W)) := fun W =>
    resultS ⟨kd, ty, ⟨fn, fd, fr⟩, ⟨tn, td, tr⟩, id, sh, st, bd, ld, cd⟩ aL cL W (by omega)
  have HWA : Hid (wtS ⟨kd, tErr, ⟨tn, td, tr⟩, ⟨fn, fd, fr⟩, id, E0, E0, E0, [], cond⟩ ≤ 12010 + cond.size) := wtS_back hwt (by decide)
  have HWB : Hid (wtS ⟨kd, tRes, ⟨tn, td, tr⟩, ⟨fn, fd, fr⟩, id, E0, E0, E0, [], E0⟩ ≤ 12010 + E0.size) := wtS_back hwt (by decide)
  dsimp only [cdS]
  have hoka := (er_someT her).2
  have CE : Hid (∀ W, Calls Tryz.prog 14 #[.agg #[.int .i64 kd, .string ty, .string fn, .string fd, .string fr, .string tn, .string td, .string tr, .string id, .string sh, .string st, .string bd, .slice aL ld.length cL, .string cd], .string cond] W fun r w' => (∃ aq cq, r = .returned (.tuple #[.agg #[.int .i64 kd, .string ⟨#[101, 114, 114, 111, 114]⟩, .string tn, .string td, .string tr, .string fn, .string fd, .string fr, .string id, .string ⟨#[]⟩, .string ⟨#[]⟩, .string ⟨#[]⟩, .slice aq 0 cq, .string cond], .bool true]) ∧ KsS (fun b => W.heap.size ≤ b) w' aq []) ∧ Below W.heap.size W w') := by
    intro W
    have h := CER.out W
    rw [her] at h
    exact h
  have CR : Hid (∀ W, Calls Tryz.prog 15 #[.agg #[.int .i64 kd, .string ty, .string fn, .string fd, .string fr, .string tn, .string td, .string tr, .string id, .string sh, .string st, .string bd, .slice aL ld.length cL, .string cd], .slice none 0 0] W fun r w' => r = .returned (.tuple #[.agg #[.int .i64 0, .string ⟨#[]⟩, .string ⟨#[]⟩, .string ⟨#[]⟩, .string ⟨#[]⟩, .string ⟨#[]⟩, .string ⟨#[]⟩, .string ⟨#[]⟩, .string ⟨#[]⟩, .string ⟨#[]⟩, .string ⟨#[]⟩, .string ⟨#[]⟩, .slice none 0 0, .string ⟨#[]⟩], .bool false]) ∧ Below W.heap.size W w') := by
    intro W
    have h := CRR.out W
    rw [hrs] at h
    exact h
  clear CER CRR
  obtain ⟨x0, x1, x2, x3, x4, x5, x6, x7, x8, x9, x10, x11, x12, x13⟩ := bx14 HX3.out
  go_wp2_with fail
  refine (CE.out _).mono ?_
  rintro r w4 ⟨⟨a4, c4, rfl, _⟩, hb⟩
  have HB4' := Lib.hid (HB3.out.trans (hb.mono HB3.out.size))
  have HX4' := Lib.hid ((hb.block _ (heap_lt HX3.out)).trans HX3.out)
  clear HB3 HX3
  have HB4 := HB4'
  have HX4 := HX4'
  clear HB4' HX4'
  clear hb CE
  clear x0 x1 x2 x3 x4 x5 x6 x7 x8 x9 x10 x11 x12 x13
  have hb : Below w4.heap.size w4 (w4.alloc (.cells #[.int .i64 kd, .string ⟨#[101, 114, 114, 111, 114]⟩, .string tn, .string td, .string tr, .string fn, .string fd, .string fr, .string id, .string ⟨#[]⟩, .string ⟨#[]⟩, .string ⟨#[]⟩, .slice a4 0 c4, .string cond] 26)) := (Below.refl _ _).alloc (Nat.le_refl _) _
  have HB5' := Lib.hid (HB4.out.trans (hb.mono HB4.out.size))
  have HX5' := Lib.hid ((hb.block _ (heap_lt HX4.out)).trans HX4.out)
  clear HB4 HX4
  have HB5 := HB5'
  have HX5 := HX5'
  clear HB5' HX5'
  have HA5 := Lib.hid (box_new w4 #[.int .i64 kd, .string ⟨#[101, 114, 114, 111, 114]⟩, .string tn, .string td, .string tr, .string fn, .string fd, .string fr, .string id, .string ⟨#[]⟩, .string ⟨#[]⟩, .string ⟨#[]⟩, .slice a4 0 c4, .string cond] 26)
  clear hb
  go_upto_region 4 with fail
  generalize w4.heap.size = T1 at HA5 ⊢
  generalize w4.alloc (.cells #[.int .i64 kd, .string ⟨#[101, 114, 114, 111, 114]⟩, .string tn, .string td, .string tr, .string fn, .string fd, .string fr, .string id, .string ⟨#[]⟩, .string ⟨#[]⟩, .string ⟨#[]⟩, .slice a4 0 c4, .string cond] 26) = w5 at HB5 HX5 HA5 ⊢
  obtain ⟨x0, x1, x2, x3, x4, x5, x6, x7, x8, x9, x10, x11, x12, x13⟩ := bx14 HX5.out
  go_wp2_with fail
  refine (CR.out _).mono ?_
  rintro r w6 ⟨rfl, hb⟩
  have HB6' := Lib.hid (HB5.out.trans (hb.mono HB5.out.size))
  have HX6' := Lib.hid ((hb.block _ (heap_lt HX5.out)).trans HX5.out)
  have HA6' := Lib.hid ((hb.block _ (heap_lt HA5.out)).trans HA5.out)
  clear HB5 HX5 HA5
  have HB6 := HB6'
  have HX6 := HX6'
  have HA6 := HA6'
  clear HB6' HX6' HA6'
  clear hb CR
  clear x0 x1 x2 x3 x4 x5 x6 x7 x8 x9 x10 x11 x12 x13
  have hb : Below w6.heap.size w6 (w6.alloc (.cells #[.int .i64 0, .string ⟨#[]⟩, .string ⟨#[]⟩, .string ⟨#[]⟩, .string ⟨#[]⟩, .string ⟨#[]⟩, .string ⟨#[]⟩, .string ⟨#[]⟩, .string ⟨#[]⟩, .string ⟨#[]⟩, .string ⟨#[]⟩, .string ⟨#[]⟩, .slice none 0 0, .string ⟨#[]⟩] 26)) := (Below.refl _ _).alloc (Nat.le_refl _) _
  have HB7' := Lib.hid (HB6.out.trans (hb.mono HB6.out.size))
  have HX7' := Lib.hid ((hb.block _ (heap_lt HX6.out)).trans HX6.out)
  have HA7' := Lib.hid ((hb.block _ (heap_lt HA6.out)).trans HA6.out)
  clear HB6 HX6 HA6
  have HB7 := HB7'
  have HX7 := HX7'
  have HA7 := HA7'
  clear HB7' HX7' HA7'
  have HR7 := Lib.hid (box_new w6 #[.int .i64 0, .string ⟨#[]⟩, .string ⟨#[]⟩, .string ⟨#[]⟩, .string ⟨#[]⟩, .string ⟨#[]⟩, .string ⟨#[]⟩, .string ⟨#[]⟩, .string ⟨#[]⟩, .string ⟨#[]⟩, .string ⟨#[]⟩, .string ⟨#[]⟩, .slice none 0 0, .string ⟨#[]⟩] 26)
  clear hb
  go_upto_region 5 with fail
  generalize w6.heap.size = T2 at HR7 ⊢
  generalize w6.alloc (.cells #[.int .i64 0, .string ⟨#[]⟩, .string ⟨#[]⟩, .string ⟨#[]⟩, .string ⟨#[]⟩, .string ⟨#[]⟩, .string ⟨#[]⟩, .string ⟨#[]⟩, .string ⟨#[]⟩, .string ⟨#[]⟩, .string ⟨#[]⟩, .string ⟨#[]⟩, .slice none 0 0, .string ⟨#[]⟩] 26) = w7 at HB7 HX7 HA7 HR7 ⊢
  have CC : Hid (Calls Tryz.prog 10 #[.agg #[.int .i64 kd, .string ⟨#[101, 114, 114, 111, 114]⟩, .string tn, .string td, .string tr, .string fn, .string fd, .string fr, .string id, .string ⟨#[]⟩, .string ⟨#[]⟩, .string ⟨#[]⟩, .slice a4 0 c4, .string cond]] w7 fun r w' => r = .returned (.int .i64 0) ∧ Below w7.heap.size w7 w') := by
    have h := checkS ⟨kd, tErr, ⟨tn, td, tr⟩, ⟨fn, fd, fr⟩, id, E0, E0, E0, [], cond⟩ a4 c4 0 w7 (fun i h => absurd h (Nat.not_lt_zero _)) (Nat.zero_le _) (by have := HWA.out; show _ ≤ 18900 + cond.size; omega) (by show cond.size ≤ 100000; omega)
    rw [hoka] at h
    exact h
  obtain ⟨x0, x1, x2, x3, x4, x5, x6, x7, x8, x9, x10, x11, x12, x13⟩ := bx14 HX7.out
  obtain ⟨y0, y1, y2, y3, y4, y5, y6, y7, y8, y9, y10, y11, y12, y13⟩ := bx14 HA7.out
  go_wp2_with fail
  refine CC.out.mono ?_
  rintro r w8 ⟨rfl, hb⟩
  have HB8' := Lib.hid (HB7.out.trans (hb.mono HB7.out.size))
  have HX8' := Lib.hid ((hb.block _ (heap_lt HX7.out)).trans HX7.out)
  have HA8' := Lib.hid ((hb.block _ (heap_lt HA7.out)).trans HA7.out)
  have HR8' := Lib.hid ((hb.block _ (heap_lt HR7.out)).trans HR7.out)
  clear HB7 HX7 HA7 HR7
  have HB8 := HB8'
  have HX8 := HX8'
  have HA8 := HA8'
  have HR8 := HR8'
  clear HB8' HX8' HA8' HR8'
  clear hb CC
  clear x0 x1 x2 x3 x4 x5 x6 x7 x8 x9 x10 x11 x12 x13 y0 y1 y2 y3 y4 y5 y6 y7 y8 y9 y10 y11 y12 y13
  go_wp2_with fail
  refine (num_any _ _).mono ?_
  rintro r w8' ⟨rfl, rfl⟩
  obtain ⟨x0, x1, x2, x3, x4, x5, x6, x7, x8, x9, x10, x11, x12, x13⟩ := bx14 HX8.out
  obtain ⟨y0, y1, y2, y3, y4, y5, y6, y7, y8, y9, y10, y11, y12, y13⟩ := bx14 HA8.out
  go_upto_region 7 with fail
  clear x0 x1 x2 x3 x4 x5 x6 x7 x8 x9 x10 x11 x12 x13 y0 y1 y2 y3 y4 y5 y6 y7 y8 y9 y10 y11 y12 y13
  have CE : Hid (∀ W, Calls Tryz.prog 14 #[.agg #[.int .i64 kd, .string ⟨#[101, 114, 114, 111, 114]⟩, .string tn, .string td, .string tr, .string fn, .string fd, .string fr, .string id, .string ⟨#[]⟩, .string ⟨#[]⟩, .string ⟨#[]⟩, .slice a4 0 c4, .string cond], .string cond] W fun r w' => r = .returned (.tuple #[.agg #[.int .i64 0, .string ⟨#[]⟩, .string ⟨#[]⟩, .string ⟨#[]⟩, .string ⟨#[]⟩, .string ⟨#[]⟩, .string ⟨#[]⟩, .string ⟨#[]⟩, .string ⟨#[]⟩, .string ⟨#[]⟩, .string ⟨#[]⟩, .string ⟨#[]⟩, .slice none 0 0, .string ⟨#[]⟩], .bool false]) ∧ Below W.heap.size W w') := by
    intro W
    have h := (by have h := errorS ⟨kd, tErr, ⟨tn, td, tr⟩, ⟨fn, fd, fr⟩, id, E0, E0, E0, [], cond⟩ cond a4 c4 W (by have := HWA.out; show _ ≤ 18000 + cond.size; omega) (by omega); rw [er_err] at h; exact h)
    exact h
  obtain ⟨y0, y1, y2, y3, y4, y5, y6, y7, y8, y9, y10, y11, y12, y13⟩ := bx14 HA8.out
  go_wp2_with fail
  refine (CE.out _).mono ?_
  rintro r w9 ⟨rfl, hb⟩
  have HB9' := Lib.hid (HB8.out.trans (hb.mono HB8.out.size))
  have HX9' := Lib.hid ((hb.block _ (heap_lt HX8.out)).trans HX8.out)
  have HA9' := Lib.hid ((hb.block _ (heap_lt HA8.out)).trans HA8.out)
  have HR9' := Lib.hid ((hb.block _ (heap_lt HR8.out)).trans HR8.out)
  clear HB8 HX8 HA8 HR8
  have HB9 := HB9'
  have HX9 := HX9'
  have HA9 := HA9'
  have HR9 := HR9'
  clear HB9' HX9' HA9' HR9'
  clear hb CE
  clear y0 y1 y2 y3 y4 y5 y6 y7 y8 y9 y10 y11 y12 y13
  have hb : Below w9.heap.size w9 (w9.alloc (.cells #[.int .i64 0, .string ⟨#[]⟩, .string ⟨#[]⟩, .string ⟨#[]⟩, .string ⟨#[]⟩, .string ⟨#[]⟩, .string ⟨#[]⟩, .string ⟨#[]⟩, .string ⟨#[]⟩, .string ⟨#[]⟩, .string ⟨#[]⟩, .string ⟨#[]⟩, .slice none 0 0, .string ⟨#[]⟩] 26)) := (Below.refl _ _).alloc (Nat.le_refl _) _
  have HB10' := Lib.hid (HB9.out.trans (hb.mono HB9.out.size))
  have HX10' := Lib.hid ((hb.block _ (heap_lt HX9.out)).trans HX9.out)
  have HA10' := Lib.hid ((hb.block _ (heap_lt HA9.out)).trans HA9.out)
  have HR10' := Lib.hid ((hb.block _ (heap_lt HR9.out)).trans HR9.out)
  clear HB9 HX9 HA9 HR9
  have HB10 := HB10'
  have HX10 := HX10'
  have HA10 := HA10'
  have HR10 := HR10'
  clear HB10' HX10' HA10' HR10'
  have HU10 := Lib.hid (box_new w9 #[.int .i64 0, .string ⟨#[]⟩, .string ⟨#[]⟩, .string ⟨#[]⟩, .string ⟨#[]⟩, .string ⟨#[]⟩, .string ⟨#[]⟩, .string ⟨#[]⟩, .string ⟨#[]⟩, .string ⟨#[]⟩, .string ⟨#[]⟩, .string ⟨#[]⟩, .slice none 0 0, .string ⟨#[]⟩] 26)
  clear hb
  go_upto_region 11 with fail
  generalize w9.heap.size = UHU at HU10 ⊢
  generalize w9.alloc (.cells #[.int .i64 0, .string ⟨#[]⟩, .string ⟨#[]⟩, .string ⟨#[]⟩, .string ⟨#[]⟩, .string ⟨#[]⟩, .string ⟨#[]⟩, .string ⟨#[]⟩, .string ⟨#[]⟩, .string ⟨#[]⟩, .string ⟨#[]⟩, .string ⟨#[]⟩, .slice none 0 0, .string ⟨#[]⟩] 26) = w10 at HB10 HX10 HA10 HR10 HU10 ⊢
  clear HU10
  obtain ⟨x0, x1, x2, x3, x4, x5, x6, x7, x8, x9, x10, x11, x12, x13⟩ := bx14 HX10.out
  go_wp2_with fail
  refine (Jn.rPut_any tn td tr _ (by omega) (by omega) (by omega)).mono ?_
  rintro r wp ⟨rfl, hb⟩
  have HB11' := Lib.hid (HB10.out.trans (hb.mono HB10.out.size))
  have HX11' := Lib.hid ((hb.block _ (heap_lt HX10.out)).trans HX10.out)
  have HA11' := Lib.hid ((hb.block _ (heap_lt HA10.out)).trans HA10.out)
  have HR11' := Lib.hid ((hb.block _ (heap_lt HR10.out)).trans HR10.out)
  clear HB10 HX10 HA10 HR10
  have HB11 := HB11'
  have HX11 := HX11'
  have HA11 := HA11'
  have HR11 := HR11'
  clear HB11' HX11' HA11' HR11'
  clear hb
  clear x0 x1 x2 x3 x4 x5 x6 x7 x8 x9 x10 x11 x12 x13
  generalize Jn.putB tn td tr = pt at hput ⊢
  go_wp2_with fail
  refine (CLV.out _).mono ?_
  rintro r wl ⟨rfl, hb⟩
  have HBL := Lib.hid (more HB11.out (Nat.le_refl _) hb)
  clear hb
  go_wp2_with fail
  go_ret
  exact ⟨rfl, HBL.out⟩
end Go.Proofs.YtccpdfcmhggleaaGreatDoor
