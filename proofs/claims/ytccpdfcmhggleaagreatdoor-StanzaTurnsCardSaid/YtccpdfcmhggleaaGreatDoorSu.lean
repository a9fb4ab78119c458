/- The walk of StanzaBack. Condition: texts and elements of the reach that the form has. -/
import Derived.Test.YtccpdfcmhggleaaGreatDoorSt
namespace Go.Proofs.YtccpdfcmhggleaaGreatDoor
open Go.RowKit Go.Lib Go.Shelf Tg St

theorem KsIn.up {B B' : Nat} {w : World} {a : Option Addr} {l : List El} (h : KsIn B w a l) (hb : B ≤ B') : KsIn B' w a l := fun i hi => by
  obtain ⟨b, o, a1, c1, a2, c2, ha, hlt, hf, hin⟩ := h i hi
  exact ⟨b, o, a1, c1, a2, c2, ha, Nat.lt_of_lt_of_le hlt hb, hf, hin.mono hb⟩
theorem rd_wt {e : El} {s : S} (h : rd e = some s) : wtS s ≤ wt e + 30 := by
  unfold rd at h
  split at h
  · rename_i f t hf ht
    split at h
    · cases h
    · split at h
      · cases h
        exact wtS_kids e (.of f) (.of t) (by have := of_size hf; simpa using this) (by have := of_size ht; simpa using this)
      · cases h
  · cases h
set_option maxRecDepth 100000 in
set_option maxHeartbeats 16000000 in
theorem stanzaBack_walk (ld : List El) (kd : Int) (ty fn fd fr tn td tr id sh st bd cd : ByteArray) (aL : Option Addr) (cL : Nat) (e : El) (aA aK : Option Addr) (cA cK : Nat) (w : World) (hK : KsIn w.heap.size w aL ld) (hin : In w.heap.size w e (.agg #[.string e.sp, .string e.nm, .slice aA e.atr.length cA, .string e.tx, .slice aK e.ks.length cK])) (h1 : ty.size ≤ 140737488351232) (h2 : fn.size ≤ 140737488351232) (h3 : fd.size ≤ 140737488351232) (h4 : fr.size ≤ 140737488351232) (h5 : tn.size ≤ 140737488351232) (h6 : td.size ≤ 140737488351232) (h7 : tr.size ≤ 140737488351232) (h8 : id.size ≤ 140737488351232) (h9 : sh.size ≤ 140737488351232) (h10_ : st.size ≤ 140737488351232) (h11 : bd.size ≤ 140737488351232) (h12 : cd.size ≤ 140737488351232) :
    Calls Tryz.prog 3 #[.agg #[.int .i64 kd, .string ty, .string fn, .string fd, .string fr, .string tn, .string td, .string tr, .string id, .string sh, .string st, .string bd, .slice aL ld.length cL, .string cd], .agg #[.string e.sp, .string e.nm, .slice aA e.atr.length cA, .string e.tx, .slice aK e.ks.length cK]] w fun r w' => r = .returned (.bool true) ∧ Below w.heap.size w w' := by
  have CLV := Lib.hid (fun W => live9_any W)
  have CSM := Lib.hid (fun (W : World) (hb : Below w.heap.size w W) => small_any ld w.heap.size kd ty fn fd fr tn td tr id sh st bd cd aL cL W (hK.below hb) hb.size h1 h2 h3 h4 h5 h6 h7 h8 h9 h10_ h11 h12)
  have CWT := Lib.hid (fun (W : World) (hb : Below w.heap.size w W) => weight_any e 0 w.heap.size W _ (hin.stay hb) hb.size (by decide) (by decide))
  have HK := Lib.hid hK
  have HIN := Lib.hid hin
  have HB0 : Hid (Below w.heap.size w ((w.alloc (.cells #[.int .i64 kd, .string ty, .string fn, .string fd, .string fr, .string tn, .string td, .string tr, .string id, .string sh, .string st, .string bd, .slice aL ld.length cL, .string cd] 26)).alloc (.cells #[.string e.sp, .string e.nm, .slice aA e.atr.length cA, .string e.tx, .slice aK e.ks.length cK] 29))) := ((Below.refl _ w).alloc (Nat.le_refl _) _).alloc (by simp) _
  have HX0 : Hid (((w.alloc (.cells #[.int .i64 kd, .string ty, .string fn, .string fd, .string fr, .string tn, .string td, .string tr, .string id, .string sh, .string st, .string bd, .slice aL ld.length cL, .string cd] 26)).alloc (.cells #[.string e.sp, .string e.nm, .slice aA e.atr.length cA, .string e.tx, .slice aK e.ks.length cK] 29)).heap[w.heap.size]? = some (.cells #[.int .i64 kd, .string ty, .string fn, .string fd, .string fr, .string tn, .string td, .string tr, .string id, .string sh, .string st, .string bd, .slice aL ld.length cL, .string cd] 26 (0, 0))) := (Below.heap_alloc _ _ _ (by simp)).trans (box_new w _ _)
  have HY0 : Hid (((w.alloc (.cells #[.int .i64 kd, .string ty, .string fn, .string fd, .string fr, .string tn, .string td, .string tr, .string id, .string sh, .string st, .string bd, .slice aL ld.length cL, .string cd] 26)).alloc (.cells #[.string e.sp, .string e.nm, .slice aA e.atr.length cA, .string e.tx, .slice aK e.ks.length cK] 29)).heap[w.heap.size + 1]? = some (.cells #[.string e.sp, .string e.nm, .slice aA e.atr.length cA, .string e.tx, .slice aK e.ks.length cK] 29 (0, 0))) := box_snd w _ _ _ _
  clear hK hin h1 h2 h3 h4 h5 h6 h7 h8 h9 h10_ h11 h12
  go_enter Tryz.func3, Tryz.ntmps3
  go_upto_region 1 with fail
  generalize (w.alloc (.cells #[.int .i64 kd, .string ty, .string fn, .string fd, .string fr, .string tn, .string td, .string tr, .string id, .string sh, .string st, .string bd, .slice aL ld.length cL, .string cd] 26)).alloc (.cells #[.string e.sp, .string e.nm, .slice aA e.atr.length cA, .string e.tx, .slice aK e.ks.length cK] 29) = w0 at HB0 HX0 HY0 ⊢
  obtain ⟨x0, x1, x2, x3, x4, x5, x6, x7, x8, x9, x10, x11, x12, x13⟩ := bx14 HX0.out
  obtain ⟨y0, y1, y2, y3, y4⟩ := bx5 HY0.out
  go_wp2_with fail
  refine (CSM.out _ HB0.out).mono ?_
  rintro r w1 ⟨⟨b, rfl, hsm⟩, hb⟩
  have HB1 := Lib.hid (more HB0.out (Nat.le_refl _) hb)
  have HX1 := Lib.hid ((hb.block _ (heap_lt HX0.out)).trans HX0.out)
  have HY1 := Lib.hid ((hb.block _ (heap_lt HY0.out)).trans HY0.out)
  clear hb HB0 HX0 HY0 CSM y0 y1 y2 y3 y4 x0 x1 x2 x3 x4 x5 x6 x7 x8 x9 x10 x11 x12 x13
  cases b with
  | false =>
    clear hsm
    go_wp2_with fail
    refine (CLV.out _).mono ?_
    rintro r wl ⟨rfl, hb⟩
    have HBL := Lib.hid (more HB1.out (Nat.le_refl _) hb)
    clear hb
    go_wp2_with fail
    go_ret
    exact ⟨rfl, HBL.out⟩
  | true =>
  obtain ⟨hl10, hwt⟩ := hsm rfl
  obtain ⟨y0, y1, y2, y3, y4⟩ := bx5 HY1.out
  go_wp2_with fail
  refine (CWT.out _ HB1.out).mono ?_
  rintro r w2 ⟨⟨n, rfl, hn0, hn1, hn2⟩, hb⟩
  have HB2 := Lib.hid (more HB1.out (Nat.le_refl _) hb)
  have HX2 := Lib.hid ((hb.block _ (heap_lt HX1.out)).trans HX1.out)
  have HY2 := Lib.hid ((hb.block _ (heap_lt HY1.out)).trans HY1.out)
  clear hb HB1 HX1 HY1 CWT y0 y1 y2 y3 y4 hsm
  by_cases hn : n ≤ 12000
  case neg =>
    have hgt : 12000 < n := by omega
    go_wp2_with fail
    refine (CLV.out _).mono ?_
    rintro r wl ⟨rfl, hb⟩
    have HBL := Lib.hid (more HB2.out (Nat.le_refl _) hb)
    clear hb
    go_wp2_with fail
    go_ret
    exact ⟨rfl, HBL.out⟩
  case pos =>
  have hngt : ¬ 12000 < n := by omega
  have HWE : Hid (wt e ≤ 12000) := by have := hn2 hn; show _ ≤ _; omega
  have HWT : Hid (wtS ⟨kd, ty, ⟨fn, fd, fr⟩, ⟨tn, td, tr⟩, id, sh, st, bd, ld, cd⟩ ≤ 12000) := hwt
  have HL : Hid (ld.length ≤ 20000) := by show _ ≤ _; omega
  have CCK : Hid (∀ W, Below w.heap.size w W → Calls Tryz.prog 10 #[.agg #[.int .i64 kd, .string ty, .string fn, .string fd, .string fr, .string tn, .string td, .string tr, .string id, .string sh, .string st, .string bd, .slice aL ld.length cL, .string cd]] W fun r w' => r = .returned (.int .i64 (cdS (okS ⟨kd, ty, ⟨fn, fd, fr⟩, ⟨tn, td, tr⟩, id, sh, st, bd, ld, cd⟩))) ∧ Below W.heap.size W w') := fun W hb =>
    checkS ⟨kd, ty, ⟨fn, fd, fr⟩, ⟨tn, td, tr⟩, id, sh, st, bd, ld, cd⟩ aL cL w.heap.size W (HK.out.below hb) hb.size (by have := HWT.out; omega) (by have h := HWT.out; unfold wtS at h; simp only at h ⊢; omega)
  have CRE : Hid (∀ W, Below w.heap.size w W → Calls Tryz.prog 11 #[.agg #[.string e.sp, .string e.nm, .slice aA e.atr.length cA, .string e.tx, .slice aK e.ks.length cK]] W (RdP (rd e) W)) := fun W hb =>
    read_any e _ W ((HIN.out.stay hb).mono hb.size) (by have := HWE.out; omega)
  clear hn2 hwt hl10 hn0 hn1
  obtain ⟨x0, x1, x2, x3, x4, x5, x6, x7, x8, x9, x10, x11, x12, x13⟩ := bx14 HX2.out
  go_wp2_with fail
  refine (CCK.out _ HB2.out).mono ?_
  rintro r w3 ⟨rfl, hb⟩
  have HB3 := Lib.hid (more HB2.out (Nat.le_refl _) hb)
  have HX3 := Lib.hid ((hb.block _ (heap_lt HX2.out)).trans HX2.out)
  have HY3 := Lib.hid ((hb.block _ (heap_lt HY2.out)).trans HY2.out)
  clear hb HB2 HX2 HY2 CCK x0 x1 x2 x3 x4 x5 x6 x7 x8 x9 x10 x11 x12 x13
  go_wp2_with fail
  refine (num_any _ _).mono ?_
  rintro r w3' ⟨rfl, rfl⟩
  go_upto_if 23 with fail
  go_cut [] (fun wx => Hid (Below w.heap.size w wx) ∧ Hid (wx.heap[w.heap.size + 1]? = some (.cells #[.string e.sp, .string e.nm, .slice aA e.atr.length cA, .string e.tx, .slice aK e.ks.length cK] 29 (0, 0))))
  case first =>
    cases hok : okS ⟨kd, ty, ⟨fn, fd, fr⟩, ⟨tn, td, tr⟩, id, sh, st, bd, ld, cd⟩ with
    | false =>
      dsimp only [cdS]
      go_wp2_with fail
      go_meet
      exact ⟨HB3.out, HY3.out⟩
    | true =>
      have CWR : Hid (Calls Tryz.prog 12 #[.agg #[.int .i64 kd, .string ty, .string fn, .string fd, .string fr, .string tn, .string td, .string tr, .string id, .string sh, .string st, .string bd, .slice aL ld.length cL, .string cd]] w3 fun r w' => ∃ v, r = .returned v ∧ InS (fun b => w3.heap.size ≤ b) w' (wr ⟨kd, ty, ⟨fn, fd, fr⟩, ⟨tn, td, tr⟩, id, sh, st, bd, ld, cd⟩) v ∧ Below w3.heap.size w3 w') :=
        writeS ⟨kd, ty, ⟨fn, fd, fr⟩, ⟨tn, td, tr⟩, id, sh, st, bd, ld, cd⟩ aL cL w.heap.size w3 (HK.out.below HB3.out) HB3.out.size (ok_parts hok).2.2.2.1 (by have := HWT.out; omega)
      dsimp only [cdS]
      obtain ⟨x0, x1, x2, x3, x4, x5, x6, x7, x8, x9, x10, x11, x12, x13⟩ := bx14 HX3.out
      go_wp2_with fail
      refine CWR.out.mono ?_
      rintro r w4 ⟨v, rfl, hiv, hb⟩
      have HB4 := Lib.hid (more HB3.out (Nat.le_refl _) hb)
      have HX4 := Lib.hid ((hb.block _ (heap_lt HX3.out)).trans HX3.out)
      have HY4 := Lib.hid ((hb.block _ (heap_lt HY3.out)).trans HY3.out)
      have CR2 : Hid (Calls Tryz.prog 11 #[v] w4 fun r w' => (∃ aq cq, r = .returned (.tuple #[.agg #[.int .i64 kd, .string ty, .string fn, .string fd, .string fr, .string tn, .string td, .string tr, .string id, .string sh, .string st, .string bd, .slice aq ld.length cq, .string cd], .int .i64 0]) ∧ KsS (fun b => w4.heap.size ≤ b) w' aq ld) ∧ Below w4.heap.size w4 w') := by
        have h := read_any (wr ⟨kd, ty, ⟨fn, fd, fr⟩, ⟨tn, td, tr⟩, id, sh, st, bd, ld, cd⟩) v w4 hiv.toIn (by have h1 := wt_wr ⟨kd, ty, ⟨fn, fd, fr⟩, ⟨tn, td, tr⟩, id, sh, st, bd, ld, cd⟩; have h2 := HWT.out; omega)
        rw [rd_wr hok] at h
        exact h
      clear hb hiv HB3 HX3 HY3 CWR x0 x1 x2 x3 x4 x5 x6 x7 x8 x9 x10 x11 x12 x13
      go_wp2_with fail
      refine CR2.out.mono ?_
      rintro r w5 ⟨⟨a5, c5, rfl, hks⟩, hb⟩
      have HB5 := Lib.hid (more HB4.out (Nat.le_refl _) hb)
      have HX5 := Lib.hid ((hb.block _ (heap_lt HX4.out)).trans HX4.out)
      have HY5 := Lib.hid ((hb.block _ (heap_lt HY4.out)).trans HY4.out)
      have HKS := Lib.hid hks
      clear hb hks HB4 HX4 HY4 CR2
      have hb : Below w5.heap.size w5 (w5.alloc (.cells #[.int .i64 kd, .string ty, .string fn, .string fd, .string fr, .string tn, .string td, .string tr, .string id, .string sh, .string st, .string bd, .slice a5 ld.length c5, .string cd] 26)) := (Below.refl _ _).alloc (Nat.le_refl _) _
      have HB6 := Lib.hid (more HB5.out (Nat.le_refl _) hb)
      have HX6 := Lib.hid ((hb.block _ (heap_lt HX5.out)).trans HX5.out)
      have HY6 := Lib.hid ((hb.block _ (heap_lt HY5.out)).trans HY5.out)
      have HKS6 := Lib.hid (HKS.out.below hb)
      have HT6 := Lib.hid (box_new w5 #[.int .i64 kd, .string ty, .string fn, .string fd, .string fr, .string tn, .string td, .string tr, .string id, .string sh, .string st, .string bd, .slice a5 ld.length c5, .string cd] 26)
      clear hb HB5 HX5 HY5 HKS
      go_upto_region 5 with fail
      generalize w5.heap.size = T at HT6 ⊢
      generalize w5.alloc (.cells #[.int .i64 kd, .string ty, .string fn, .string fd, .string fr, .string tn, .string td, .string tr, .string id, .string sh, .string st, .string bd, .slice a5 ld.length c5, .string cd] 26) = w6 at HB6 HX6 HY6 HKS6 HT6 ⊢
      obtain ⟨x0, x1, x2, x3, x4, x5, x6, x7, x8, x9, x10, x11, x12, x13⟩ := bx14 HX6.out
      obtain ⟨y0, y1, y2, y3, y4, y5, y6, y7, y8, y9, y10, y11, y12, y13⟩ := bx14 HT6.out
      have CSA : Hid (Calls Tryz.prog 13 #[.agg #[.int .i64 kd, .string ty, .string fn, .string fd, .string fr, .string tn, .string td, .string tr, .string id, .string sh, .string st, .string bd, .slice a5 ld.length c5, .string cd], .agg #[.int .i64 kd, .string ty, .string fn, .string fd, .string fr, .string tn, .string td, .string tr, .string id, .string sh, .string st, .string bd, .slice aL ld.length cL, .string cd]] w6 fun r w' => r = .returned (.bool true) ∧ Below w6.heap.size w6 w') :=
        sameS ⟨kd, ty, ⟨fn, fd, fr⟩, ⟨tn, td, tr⟩, id, sh, st, bd, ld, cd⟩ a5 aL c5 cL w6.heap.size w6 HKS6.out.ksIn ((HK.out.below HB6.out).up HB6.out.size) (Nat.le_refl _) HL.out
      go_wp2_with fail
      refine (num_any _ _).mono ?_
      rintro r w6' ⟨rfl, rfl⟩
      go_wp2_with fail
      refine CSA.out.mono ?_
      rintro r w7 ⟨rfl, hb⟩
      have HB7 := Lib.hid (more HB6.out (Nat.le_refl _) hb)
      have HY7 := Lib.hid ((hb.block _ (heap_lt HY6.out)).trans HY6.out)
      clear hb HB6 HX6 HY6 CSA HT6 HKS6 x0 x1 x2 x3 x4 x5 x6 x7 x8 x9 x10 x11 x12 x13 y0 y1 y2 y3 y4 y5 y6 y7 y8 y9 y10 y11 y12 y13
      go_wp2_with fail
      go_meet
      exact ⟨HB7.out, HY7.out⟩
  case rest =>
  obtain ⟨HB8, HY8⟩ := hcut
  clear HX3 HY3 HB3 HK HWT HL HIN
  rename_i w8
  obtain ⟨y0, y1, y2, y3, y4⟩ := bx5 HY8.out
  cases hrd : rd e with
  | none =>
    have CR8 : Hid (∀ W, Below w.heap.size w W → Calls Tryz.prog 11 #[.agg #[.string e.sp, .string e.nm, .slice aA e.atr.length cA, .string e.tx, .slice aK e.ks.length cK]] W fun r w' => r = .returned (.tuple #[.agg #[.int .i64 0, .string ⟨#[]⟩, .string ⟨#[]⟩, .string ⟨#[]⟩, .string ⟨#[]⟩, .string ⟨#[]⟩, .string ⟨#[]⟩, .string ⟨#[]⟩, .string ⟨#[]⟩, .string ⟨#[]⟩, .string ⟨#[]⟩, .string ⟨#[]⟩, .slice none 0 0, .string ⟨#[]⟩], .int .i64 90]) ∧ Below W.heap.size W w') := by
      intro W hb
      have h := CRE.out W hb
      rw [hrd] at h
      exact h
    clear CRE
    go_wp2_with fail
    refine (CR8.out _ HB8.out).mono ?_
    rintro r w9 ⟨rfl, hb⟩
    have HB9 := Lib.hid (more HB8.out (Nat.le_refl _) hb)
    clear hb CR8 HB8 HY8 y0 y1 y2 y3 y4
    have HBA := Lib.hid (HB9.out.alloc HB9.out.size (.cells #[.int .i64 0, .string ⟨#[]⟩, .string ⟨#[]⟩, .string ⟨#[]⟩, .string ⟨#[]⟩, .string ⟨#[]⟩, .string ⟨#[]⟩, .string ⟨#[]⟩, .string ⟨#[]⟩, .string ⟨#[]⟩, .string ⟨#[]⟩, .string ⟨#[]⟩, .slice none 0 0, .string ⟨#[]⟩] 26))
    have HTA := Lib.hid (box_new w9 #[.int .i64 0, .string ⟨#[]⟩, .string ⟨#[]⟩, .string ⟨#[]⟩, .string ⟨#[]⟩, .string ⟨#[]⟩, .string ⟨#[]⟩, .string ⟨#[]⟩, .string ⟨#[]⟩, .string ⟨#[]⟩, .string ⟨#[]⟩, .string ⟨#[]⟩, .slice none 0 0, .string ⟨#[]⟩] 26)
    go_upto_region 8 with fail
    generalize w9.heap.size = T at HTA ⊢
    generalize w9.alloc (.cells #[.int .i64 0, .string ⟨#[]⟩, .string ⟨#[]⟩, .string ⟨#[]⟩, .string ⟨#[]⟩, .string ⟨#[]⟩, .string ⟨#[]⟩, .string ⟨#[]⟩, .string ⟨#[]⟩, .string ⟨#[]⟩, .string ⟨#[]⟩, .string ⟨#[]⟩, .slice none 0 0, .string ⟨#[]⟩] 26) = wa at HBA HTA ⊢
    obtain ⟨x0, x1, x2, x3, x4, x5, x6, x7, x8, x9, x10, x11, x12, x13⟩ := bx14 HTA.out
    have CSA : Hid (Calls Tryz.prog 13 #[.agg #[.int .i64 0, .string ⟨#[]⟩, .string ⟨#[]⟩, .string ⟨#[]⟩, .string ⟨#[]⟩, .string ⟨#[]⟩, .string ⟨#[]⟩, .string ⟨#[]⟩, .string ⟨#[]⟩, .string ⟨#[]⟩, .string ⟨#[]⟩, .string ⟨#[]⟩, .slice none 0 0, .string ⟨#[]⟩], .agg #[.int .i64 0, .string ⟨#[]⟩, .string ⟨#[]⟩, .string ⟨#[]⟩, .string ⟨#[]⟩, .string ⟨#[]⟩, .string ⟨#[]⟩, .string ⟨#[]⟩, .string ⟨#[]⟩, .string ⟨#[]⟩, .string ⟨#[]⟩, .string ⟨#[]⟩, .slice none 0 0, .string ⟨#[]⟩]] wa fun r w' => r = .returned (.bool true) ∧ Below wa.heap.size wa w') :=
      sameS S0 none none 0 0 0 wa (fun i h => absurd h (Nat.not_lt_zero _)) (fun i h => absurd h (Nat.not_lt_zero _)) (Nat.zero_le _) (by decide)
    go_wp2_with fail
    refine (num_any _ _).mono ?_
    rintro r wa' ⟨rfl, rfl⟩
    go_wp2_with fail
    refine CSA.out.mono ?_
    rintro r wb ⟨rfl, hb⟩
    have HBB := Lib.hid (more HBA.out (Nat.le_refl _) hb)
    clear hb HBA HTA CSA x0 x1 x2 x3 x4 x5 x6 x7 x8 x9 x10 x11 x12 x13
    go_wp2_with fail
    refine (CLV.out _).mono ?_
    rintro r wl ⟨rfl, hb⟩
    have HBL := Lib.hid (more HBB.out (Nat.le_refl _) hb)
    clear hb
    go_wp2_with fail
    go_ret
    exact ⟨rfl, HBL.out⟩
  | some t =>
    have hokt := rd_ok hrd
    have hwtt : wtS t ≤ 12030 := by
      have := rd_wt hrd
      have := HWE.out
      omega
    obtain ⟨kt, yt, ⟨f1, f2, f3⟩, ⟨t1, t2, t3⟩, it, ht, st', bt, lt, ct⟩ := t
    have CR8 : Hid (∀ W, Below w.heap.size w W → Calls Tryz.prog 11 #[.agg #[.string e.sp, .string e.nm, .slice aA e.atr.length cA, .string e.tx, .slice aK e.ks.length cK]] W fun r w' => (∃ aq cq, r = .returned (.tuple #[.agg #[.int .i64 kt, .string yt, .string f1, .string f2, .string f3, .string t1, .string t2, .string t3, .string it, .string ht, .string st', .string bt, .slice aq lt.length cq, .string ct], .int .i64 0]) ∧ KsS (fun b => W.heap.size ≤ b) w' aq lt) ∧ Below W.heap.size W w') := by
      intro W hb
      have h := CRE.out W hb
      rw [hrd] at h
      exact h
    clear CRE
    go_wp2_with fail
    refine (CR8.out _ HB8.out).mono ?_
    rintro r w9 ⟨⟨a9, c9, rfl, hk9⟩, hb⟩
    have HB9 := Lib.hid (more HB8.out (Nat.le_refl _) hb)
    clear hb CR8 HB8 HY8 y0 y1 y2 y3 y4
    have hb : Below w9.heap.size w9 (w9.alloc (.cells #[.int .i64 kt, .string yt, .string f1, .string f2, .string f3, .string t1, .string t2, .string t3, .string it, .string ht, .string st', .string bt, .slice a9 lt.length c9, .string ct] 26)) := (Below.refl _ _).alloc (Nat.le_refl _) _
    have HBA := Lib.hid (more HB9.out (Nat.le_refl _) hb)
    have HKA := Lib.hid (hk9.below hb)
    have HTA := Lib.hid (box_new w9 #[.int .i64 kt, .string yt, .string f1, .string f2, .string f3, .string t1, .string t2, .string t3, .string it, .string ht, .string st', .string bt, .slice a9 lt.length c9, .string ct] 26)
    clear hb hk9 HB9
    go_upto_region 8 with fail
    generalize w9.heap.size = T at HTA ⊢
    generalize w9.alloc (.cells #[.int .i64 kt, .string yt, .string f1, .string f2, .string f3, .string t1, .string t2, .string t3, .string it, .string ht, .string st', .string bt, .slice a9 lt.length c9, .string ct] 26) = wa at HBA HKA HTA ⊢
    obtain ⟨x0, x1, x2, x3, x4, x5, x6, x7, x8, x9, x10, x11, x12, x13⟩ := bx14 HTA.out
    have HLT : Hid (lt.length ≤ 20000) := by have h := hwtt; have h2 := wts_len lt; unfold wtS at h; simp only at h; show _ ≤ _; omega
    have CWR : Hid (Calls Tryz.prog 12 #[.agg #[.int .i64 kt, .string yt, .string f1, .string f2, .string f3, .string t1, .string t2, .string t3, .string it, .string ht, .string st', .string bt, .slice a9 lt.length c9, .string ct]] wa fun r w' => ∃ v, r = .returned v ∧ InS (fun b => wa.heap.size ≤ b) w' (wr ⟨kt, yt, ⟨f1, f2, f3⟩, ⟨t1, t2, t3⟩, it, ht, st', bt, lt, ct⟩) v ∧ Below wa.heap.size wa w') :=
      writeS ⟨kt, yt, ⟨f1, f2, f3⟩, ⟨t1, t2, t3⟩, it, ht, st', bt, lt, ct⟩ a9 c9 wa.heap.size wa HKA.out.ksIn (Nat.le_refl _) (ok_parts hokt).2.2.2.1 (by omega)
    go_wp2_with fail
    refine (num_any _ _).mono ?_
    rintro r wa' ⟨rfl, rfl⟩
    go_wp2_with fail
    refine CWR.out.mono ?_
    rintro r wb ⟨v, rfl, hiv, hb⟩
    have HBB := Lib.hid (more HBA.out (Nat.le_refl _) hb)
    have HKB := Lib.hid (HKA.out.below hb)
    have HTB := Lib.hid ((hb.block _ (heap_lt HTA.out)).trans HTA.out)
    have CR2 : Hid (Calls Tryz.prog 11 #[v] wb fun r w' => (∃ aq cq, r = .returned (.tuple #[.agg #[.int .i64 kt, .string yt, .string f1, .string f2, .string f3, .string t1, .string t2, .string t3, .string it, .string ht, .string st', .string bt, .slice aq lt.length cq, .string ct], .int .i64 0]) ∧ KsS (fun b => wb.heap.size ≤ b) w' aq lt) ∧ Below wb.heap.size wb w') := by
      have h := read_any (wr ⟨kt, yt, ⟨f1, f2, f3⟩, ⟨t1, t2, t3⟩, it, ht, st', bt, lt, ct⟩) v wb hiv.toIn (by have h1 := wt_wr ⟨kt, yt, ⟨f1, f2, f3⟩, ⟨t1, t2, t3⟩, it, ht, st', bt, lt, ct⟩; omega)
      rw [rd_wr hokt] at h
      exact h
    clear hb hiv HBA HKA HTA CWR x0 x1 x2 x3 x4 x5 x6 x7 x8 x9 x10 x11 x12 x13
    go_wp2_with fail
    refine CR2.out.mono ?_
    rintro r wc ⟨⟨ac, cc, rfl, hkc⟩, hb⟩
    have HBC := Lib.hid (more HBB.out (Nat.le_refl _) hb)
    have HKC := Lib.hid (HKB.out.below hb)
    have HTC := Lib.hid ((hb.block _ (heap_lt HTB.out)).trans HTB.out)
    have HKc := Lib.hid hkc
    clear hb hkc HBB HKB HTB CR2
    have hb : Below wc.heap.size wc (wc.alloc (.cells #[.int .i64 kt, .string yt, .string f1, .string f2, .string f3, .string t1, .string t2, .string t3, .string it, .string ht, .string st', .string bt, .slice ac lt.length cc, .string ct] 26)) := (Below.refl _ _).alloc (Nat.le_refl _) _
    have HBD := Lib.hid (more HBC.out (Nat.le_refl _) hb)
    have HKD := Lib.hid (HKC.out.below hb)
    have HTD := Lib.hid ((hb.block _ (heap_lt HTC.out)).trans HTC.out)
    have HKd := Lib.hid (HKc.out.below hb)
    have HTd := Lib.hid (box_new wc #[.int .i64 kt, .string yt, .string f1, .string f2, .string f3, .string t1, .string t2, .string t3, .string it, .string ht, .string st', .string bt, .slice ac lt.length cc, .string ct] 26)
    clear hb HBC HKC HTC HKc
    go_upto_region 11 with fail
    generalize wc.heap.size = T2 at HTd ⊢
    generalize wc.alloc (.cells #[.int .i64 kt, .string yt, .string f1, .string f2, .string f3, .string t1, .string t2, .string t3, .string it, .string ht, .string st', .string bt, .slice ac lt.length cc, .string ct] 26) = wd at HBD HKD HTD HKd HTd ⊢
    have CCT : Hid (Calls Tryz.prog 10 #[.agg #[.int .i64 kt, .string yt, .string f1, .string f2, .string f3, .string t1, .string t2, .string t3, .string it, .string ht, .string st', .string bt, .slice a9 lt.length c9, .string ct]] wd fun r w' => r = .returned (.int .i64 0) ∧ Below wd.heap.size wd w') := by
      have h := checkS ⟨kt, yt, ⟨f1, f2, f3⟩, ⟨t1, t2, t3⟩, it, ht, st', bt, lt, ct⟩ a9 c9 wd.heap.size wd HKD.out.ksIn (Nat.le_refl _) (by omega) (by have h := hwtt; unfold wtS at h; simp only at h ⊢; omega)
      rw [hokt] at h
      exact h
    obtain ⟨x0, x1, x2, x3, x4, x5, x6, x7, x8, x9, x10, x11, x12, x13⟩ := bx14 HTD.out
    go_wp2_with fail
    refine CCT.out.mono ?_
    rintro r we ⟨rfl, hb⟩
    have HBE := Lib.hid (more HBD.out (Nat.le_refl _) hb)
    have HKE := Lib.hid (HKD.out.below hb)
    have HTE := Lib.hid ((hb.block _ (heap_lt HTD.out)).trans HTD.out)
    have HKe := Lib.hid (HKd.out.below hb)
    have HTe := Lib.hid ((hb.block _ (heap_lt HTd.out)).trans HTd.out)
    clear hb HBD HKD HTD HKd HTd CCT x0 x1 x2 x3 x4 x5 x6 x7 x8 x9 x10 x11 x12 x13
    go_wp2_with fail
    refine (num_any _ _).mono ?_
    rintro r we' ⟨rfl, rfl⟩
    go_wp2_with fail
    refine (num_any _ _).mono ?_
    rintro r we' ⟨rfl, rfl⟩
    have CSA : Hid (Calls Tryz.prog 13 #[.agg #[.int .i64 kt, .string yt, .string f1, .string f2, .string f3, .string t1, .string t2, .string t3, .string it, .string ht, .string st', .string bt, .slice a9 lt.length c9, .string ct], .agg #[.int .i64 kt, .string yt, .string f1, .string f2, .string f3, .string t1, .string t2, .string t3, .string it, .string ht, .string st', .string bt, .slice ac lt.length cc, .string ct]] we fun r w' => r = .returned (.bool true) ∧ Below we.heap.size we w') :=
      sameS ⟨kt, yt, ⟨f1, f2, f3⟩, ⟨t1, t2, t3⟩, it, ht, st', bt, lt, ct⟩ a9 ac c9 cc we.heap.size we HKE.out.ksIn HKe.out.ksIn (Nat.le_refl _) HLT.out
    obtain ⟨x0, x1, x2, x3, x4, x5, x6, x7, x8, x9, x10, x11, x12, x13⟩ := bx14 HTE.out
    obtain ⟨y0, y1, y2, y3, y4, y5, y6, y7, y8, y9, y10, y11, y12, y13⟩ := bx14 HTe.out
    go_wp2_with fail
    refine CSA.out.mono ?_
    rintro r wf ⟨rfl, hb⟩
    have HBF := Lib.hid (more HBE.out (Nat.le_refl _) hb)
    clear hb HBE HKE HTE HKe HTe CSA x0 x1 x2 x3 x4 x5 x6 x7 x8 x9 x10 x11 x12 x13 y0 y1 y2 y3 y4 y5 y6 y7 y8 y9 y10 y11 y12 y13
    go_wp2_with fail
    refine (CLV.out _).mono ?_
    rintro r wl ⟨rfl, hb⟩
    have HBL := Lib.hid (more HBF.out (Nat.le_refl _) hb)
    clear hb
    go_wp2_with fail
    go_ret
    exact ⟨rfl, HBL.out⟩
end Go.Proofs.YtccpdfcmhggleaaGreatDoor
