/- Contracts of the document's Weight and Same of stanzas, of the program's Same. Conditions: those of each theorem's head. -/
import Derived.Test.YtccpdfcmhggleaaGreatDoorSk
import Derived.Test.YtccpdfcmhggleaaGreatDoorDw
import Derived.Test.YtccpdfcmhggleaaGreatDoorDs
namespace Go.Proofs.YtccpdfcmhggleaaGreatDoor
open Go.RowKit Go.Lib Go.Shelf Tg St

/-- What Weight gives of a stanza. -/
def WtS (n0 : Nat) (w : World) (r : Ending) (w' : World) : Prop := (∃ n : Int, r = .returned (.int .i64 n) ∧ (n ≤ 12000 → (n0 : Int) = n)) ∧ Below w.heap.size w w'
set_option maxRecDepth 100000 in
set_option maxHeartbeats 8000000 in
theorem rWeight_any (ld : List El) (B : Nat) (kd : Int) (ty fn fd fr tn td tr id sh st bd cd : ByteArray) (aL : Option Addr) (cL : Nat) (w : World) (hK : KsIn B w aL ld) (hB : B ≤ w.heap.size) (hl : ld.length ≤ 10) (h1 : ty.size ≤ 140737488351232) (h2 : fn.size ≤ 140737488351232) (h3 : fd.size ≤ 140737488351232) (h4 : fr.size ≤ 140737488351232) (h5 : tn.size ≤ 140737488351232) (h6 : td.size ≤ 140737488351232) (h7 : tr.size ≤ 140737488351232) (h8 : id.size ≤ 140737488351232) (h9 : sh.size ≤ 140737488351232) (h10 : st.size ≤ 140737488351232) (h11 : bd.size ≤ 140737488351232) (h12 : cd.size ≤ 140737488351232) :
    Calls Tryz.prog 18 #[.agg #[.int .i64 kd, .string ty, .string fn, .string fd, .string fr, .string tn, .string td, .string tr, .string id, .string sh, .string st, .string bd, .slice aL ld.length cL, .string cd], .int .i64 12000] w (WtS (wtS ⟨kd, ty, ⟨fn, fd, fr⟩, ⟨tn, td, tr⟩, id, sh, st, bd, ld, cd⟩) w) := by
  have HK := Lib.hid hK
  have HB := Lib.hid hB
  have HWT : Hid (wtS ⟨kd, ty, ⟨fn, fd, fr⟩, ⟨tn, td, tr⟩, id, sh, st, bd, ld, cd⟩ = ty.size + id.size + sh.size + st.size + bd.size + cd.size + fn.size + fd.size + fr.size + tn.size + td.size + tr.size + wts ld) := rfl
  have HB0 : Hid (Below w.heap.size w (w.alloc (.cells #[.int .i64 kd, .string ty, .string fn, .string fd, .string fr, .string tn, .string td, .string tr, .string id, .string sh, .string st, .string bd, .slice aL ld.length cL, .string cd] 26))) := (Below.refl _ w).alloc (Nat.le_refl _) _
  have HX0 := Lib.hid (box_new w #[.int .i64 kd, .string ty, .string fn, .string fd, .string fr, .string tn, .string td, .string tr, .string id, .string sh, .string st, .string bd, .slice aL ld.length cL, .string cd] 26)
  generalize hm : wtS ⟨kd, ty, ⟨fn, fd, fr⟩, ⟨tn, td, tr⟩, id, sh, st, bd, ld, cd⟩ = m at HWT ⊢
  clear hm hK hB
  obtain ⟨x0, x1, x2, x3, x4, x5, x6, x7, x8, x9, x10, x11, x12, x13⟩ := bx14 HX0.out
  go_enter Tryz.func18, Tryz.ntmps18
  go_upto_region 2 with fail
  clear x0 x1 x2 x3 x4 x5 x6 x7 x8 x9 x10 x11 x12 x13
  generalize w.alloc (.cells #[.int .i64 kd, .string ty, .string fn, .string fd, .string fr, .string tn, .string td, .string tr, .string id, .string sh, .string st, .string bd, .slice aL ld.length cL, .string cd] 26) = w0 at HB0 HX0 ⊢
  have hn0 : (0 : Int) ≤ ((ty.size : Int) + id.size + sh.size + st.size + bd.size + cd.size + fn.size + fd.size + fr.size + tn.size + td.size + tr.size) := by omega
  have hn1 : ((ty.size : Int) + id.size + sh.size + st.size + bd.size + cd.size + fn.size + fd.size + fr.size + tn.size + td.size + tr.size) ≤ 3000000000000000 := by omega
  have HS0 : Hid (((ty.size : Int) + id.size + sh.size + st.size + bd.size + cd.size + fn.size + fd.size + fr.size + tn.size + td.size + tr.size) + wts ld = m) := by show _ = _; rw [HWT.out]; omega
  generalize ((ty.size : Int) + id.size + sh.size + st.size + bd.size + cd.size + fn.size + fd.size + fr.size + tn.size + td.size + tr.size) = N0 at hn0 hn1 HS0 ⊢
  clear h1 h2 h3 h4 h5 h6 h7 h8 h9 h10 h11 h12 HWT
  go_wp2_with fail
  go_loopw [5, 6] (fun s i wr => ∃ (k : Nat) (n : Int), i = .int .i64 k ∧ s = .int .i64 n ∧ k ≤ ld.length ∧ 0 ≤ n ∧ n ≤ 3000000000000000 ∧ Hid (n ≤ 12000 → n = N0 + wts (ld.take k)) ∧ Hid (Below w.heap.size w wr) ∧ Hid (wr.heap[w.heap.size]? = some (.cells #[.int .i64 kd, .string ty, .string fn, .string fd, .string fr, .string tn, .string td, .string tr, .string id, .string sh, .string st, .string bd, .slice aL ld.length cL, .string cd] 26 (0, 0)))) (fun _ i _ => ld.length - (RowKit.intOf i).toNat)
  case atStart => exact ⟨0, N0, rfl, rfl, Nat.zero_le _, hn0, hn1, fun _ => by simp [wts], HB0.out, HX0.out⟩
  case round =>
    obtain ⟨k, n, rfl, rfl, hk, hm0, hm1, HO, HB2, HX2⟩ := hrel
    clear HB0 HX0
    obtain ⟨x0, x1, x2, x3, x4, x5, x6, x7, x8, x9, x10, x11, x12, x13⟩ := bx14 HX2.out
    clear x0 x1 x2 x3 x4 x5 x6 x7 x8 x9 x10 x11 x13
    by_cases hgo : k < ld.length ∧ n ≤ 12000
    · obtain ⟨hjl, hmle⟩ := hgo
      obtain ⟨b, o, a1, c1, a2, c2, rfl, hb, hf5, hkin⟩ := (HK.out.below (HB2.out.mono HB.out)) k hjl
      obtain ⟨y0, y1, y2, y3, y4⟩ := hf5
      have HC := Lib.hid (weight_any _ 0 B _ _ hkin (Nat.le_trans HB.out HB2.out.size) (by omega) (by omega))
      have HT := Lib.hid (wts_take hjl)
      clear hkin hb
      go_wp2_with fail
      refine HC.out.mono ?_
      rintro r w2 ⟨⟨q, rfl, hq0, hq1, hq2⟩, hbb⟩
      have HB3 := Lib.hid (HB2.out.trans (hbb.mono HB2.out.size))
      have HX3 := Lib.hid ((hbb.block _ (heap_lt HX2.out)).trans HX2.out)
      have HO2 : Hid (n + q ≤ 12000 → n + q = N0 + wts (ld.take (k + 1))) := by
        intro h
        have h1 := HO.out (by omega)
        have h2 := hq2 (by omega)
        have h3 := HT.out
        omega
      have hr1 : 0 ≤ n + q := by omega
      have hr2 : n + q ≤ 3000000000000000 := by omega
      clear hbb HC x12 y0 y1 y2 y3 y4 HT HO hq2
      go_wp2_with fail
      go_roundw
      case rel => exact ⟨k + 1, n + q, by go_num, rfl, by omega, hr1, hr2, HO2.out, HB3.out, HX3.out⟩
      case measure => simp [RowKit.intOf]; omega
    · have HR : Hid (n ≤ 12000 → (m : Int) = n) := by
        intro h
        have hje : ¬ k < ld.length := fun h2 => hgo ⟨h2, h⟩
        have h1 := HO.out h
        rw [List.take_of_length_le (by omega)] at h1
        have h2 := HS0.out
        omega
      clear HO
      by_cases hjl : k < ld.length
      · have hm2 : 12000 < n := by
          rcases Int.lt_or_le 12000 n with h | h
          · exact h
          · exact absurd ⟨hjl, h⟩ hgo
        clear hgo
        go_wp2_with fail
        go_ret
        exact ⟨⟨n, rfl, HR.out⟩, HB2.out⟩
      · clear hgo
        go_wp2_with fail
        go_ret
        exact ⟨⟨n, rfl, HR.out⟩, HB2.out⟩
set_option maxRecDepth 100000 in
set_option maxHeartbeats 8000000 in
theorem same9_yes (ld : List El) (B : Nat) (kd : Int) (ty fn fd fr tn td tr id sh st bd cd : ByteArray) (aL : Option Addr) (cL : Nat) (aM : Option Addr) (cM : Nat) (w : World) (hK : KsIn B w aL ld) (hK' : KsIn B w aM ld) (hB : B ≤ w.heap.size) (hl : ld.length ≤ 20000) :
    Calls Tryz.prog 13 #[.agg #[.int .i64 kd, .string ty, .string fn, .string fd, .string fr, .string tn, .string td, .string tr, .string id, .string sh, .string st, .string bd, .slice aL ld.length cL, .string cd], .agg #[.int .i64 kd, .string ty, .string fn, .string fd, .string fr, .string tn, .string td, .string tr, .string id, .string sh, .string st, .string bd, .slice aM ld.length cM, .string cd]] w fun r w' => r = .returned (.bool true) ∧ Below w.heap.size w w' := by
  have HK := Lib.hid hK
  have HK' := Lib.hid hK'
  have HB := Lib.hid hB
  have HB0 : Hid (Below w.heap.size w ((w.alloc (.cells #[.int .i64 kd, .string ty, .string fn, .string fd, .string fr, .string tn, .string td, .string tr, .string id, .string sh, .string st, .string bd, .slice aL ld.length cL, .string cd] 26)).alloc (.cells #[.int .i64 kd, .string ty, .string fn, .string fd, .string fr, .string tn, .string td, .string tr, .string id, .string sh, .string st, .string bd, .slice aM ld.length cM, .string cd] 26))) := ((Below.refl _ w).alloc (Nat.le_refl _) _).alloc (by simp) _
  have HX0 : Hid (((w.alloc (.cells #[.int .i64 kd, .string ty, .string fn, .string fd, .string fr, .string tn, .string td, .string tr, .string id, .string sh, .string st, .string bd, .slice aL ld.length cL, .string cd] 26)).alloc (.cells #[.int .i64 kd, .string ty, .string fn, .string fd, .string fr, .string tn, .string td, .string tr, .string id, .string sh, .string st, .string bd, .slice aM ld.length cM, .string cd] 26)).heap[w.heap.size]? = some (.cells #[.int .i64 kd, .string ty, .string fn, .string fd, .string fr, .string tn, .string td, .string tr, .string id, .string sh, .string st, .string bd, .slice aL ld.length cL, .string cd] 26 (0, 0))) := (Below.heap_alloc _ _ _ (by simp)).trans (box_new w _ _)
  have HY0 : Hid (((w.alloc (.cells #[.int .i64 kd, .string ty, .string fn, .string fd, .string fr, .string tn, .string td, .string tr, .string id, .string sh, .string st, .string bd, .slice aL ld.length cL, .string cd] 26)).alloc (.cells #[.int .i64 kd, .string ty, .string fn, .string fd, .string fr, .string tn, .string td, .string tr, .string id, .string sh, .string st, .string bd, .slice aM ld.length cM, .string cd] 26)).heap[w.heap.size + 1]? = some (.cells #[.int .i64 kd, .string ty, .string fn, .string fd, .string fr, .string tn, .string td, .string tr, .string id, .string sh, .string st, .string bd, .slice aM ld.length cM, .string cd] 26 (0, 0))) := box_snd w _ _ _ _
  clear hK hK' hB
  obtain ⟨x0, x1, x2, x3, x4, x5, x6, x7, x8, x9, x10, x11, x12, x13⟩ := bx14 HX0.out
  obtain ⟨y0, y1, y2, y3, y4, y5, y6, y7, y8, y9, y10, y11, y12, y13⟩ := bx14 HY0.out
  go_enter Tryz.func13, Tryz.ntmps13
  go_wp2_with fail
  generalize (w.alloc (.cells #[.int .i64 kd, .string ty, .string fn, .string fd, .string fr, .string tn, .string td, .string tr, .string id, .string sh, .string st, .string bd, .slice aL ld.length cL, .string cd] 26)).alloc (.cells #[.int .i64 kd, .string ty, .string fn, .string fd, .string fr, .string tn, .string td, .string tr, .string id, .string sh, .string st, .string bd, .slice aM ld.length cM, .string cd] 26) = w0 at HB0 HX0 HY0 ⊢
  clear x0 x1 x2 x3 x4 x5 x6 x7 x8 x9 x10 x11 x12 x13 y0 y1 y2 y3 y4 y5 y6 y7 y8 y9 y10 y11 y12 y13
  go_loopw [5] (fun i wr => ∃ k : Nat, i = .int .i64 k ∧ k ≤ ld.length ∧ Hid (Below w.heap.size w wr) ∧ Hid (wr.heap[w.heap.size]? = some (.cells #[.int .i64 kd, .string ty, .string fn, .string fd, .string fr, .string tn, .string td, .string tr, .string id, .string sh, .string st, .string bd, .slice aL ld.length cL, .string cd] 26 (0, 0))) ∧ Hid (wr.heap[w.heap.size + 1]? = some (.cells #[.int .i64 kd, .string ty, .string fn, .string fd, .string fr, .string tn, .string td, .string tr, .string id, .string sh, .string st, .string bd, .slice aM ld.length cM, .string cd] 26 (0, 0)))) (fun i _ => ld.length - (RowKit.intOf i).toNat)
  case atStart => exact ⟨0, rfl, Nat.zero_le _, HB0.out, HX0.out, HY0.out⟩
  case round =>
    clear HB0 HX0 HY0
    obtain ⟨k, rfl, hk, HBW, HX, HY⟩ := hrel
    obtain ⟨x0, x1, x2, x3, x4, x5, x6, x7, x8, x9, x10, x11, x12, x13⟩ := bx14 HX.out
    obtain ⟨y0, y1, y2, y3, y4, y5, y6, y7, y8, y9, y10, y11, y12, y13⟩ := bx14 HY.out
    clear x0 x1 x2 x3 x4 x5 x6 x7 x8 x9 x10 x11 x13 y0 y1 y2 y3 y4 y5 y6 y7 y8 y9 y10 y11 y13
    by_cases hlt : k < ld.length
    · obtain ⟨b, o, a1, c1, a2, c2, rfl, hb, hf5, hkin⟩ := (HK.out.below (HBW.out.mono HB.out)) k hlt
      obtain ⟨b', o', a1', c1', a2', c2', rfl, hb', hf5', hkin'⟩ := (HK'.out.below (HBW.out.mono HB.out)) k hlt
      obtain ⟨u0, u1, u2, u3, u4⟩ := hf5
      obtain ⟨v0, v1, v2, v3, v4⟩ := hf5'
      have q2 : ∀ x : Ext wr, x.to.cell? ⟨w.heap.size, 12, none⟩ = _ := fun x => ext_cell x x12
      have q2' : ∀ x : Ext wr, x.to.cell? ⟨w.heap.size + 1, 12, none⟩ = _ := fun x => ext_cell x y12
      have z0 : ∀ x : Ext wr, x.to.cell? ⟨b, o + k * 5, none⟩ = _ := fun x => ext_cell x u0
      have z1 : ∀ x : Ext wr, x.to.cell? ⟨b, o + k * 5 + 1, none⟩ = _ := fun x => ext_cell x u1
      have z2 : ∀ x : Ext wr, x.to.cell? ⟨b, o + k * 5 + 2, none⟩ = _ := fun x => ext_cell x u2
      have z3 : ∀ x : Ext wr, x.to.cell? ⟨b, o + k * 5 + 3, none⟩ = _ := fun x => ext_cell x u3
      have z4 : ∀ x : Ext wr, x.to.cell? ⟨b, o + k * 5 + 4, none⟩ = _ := fun x => ext_cell x u4
      have z0' : ∀ x : Ext wr, x.to.cell? ⟨b', o' + k * 5, none⟩ = _ := fun x => ext_cell x v0
      have z1' : ∀ x : Ext wr, x.to.cell? ⟨b', o' + k * 5 + 1, none⟩ = _ := fun x => ext_cell x v1
      have z2' : ∀ x : Ext wr, x.to.cell? ⟨b', o' + k * 5 + 2, none⟩ = _ := fun x => ext_cell x v2
      have z3' : ∀ x : Ext wr, x.to.cell? ⟨b', o' + k * 5 + 3, none⟩ = _ := fun x => ext_cell x v3
      have z4' : ∀ x : Ext wr, x.to.cell? ⟨b', o' + k * 5 + 4, none⟩ = _ := fun x => ext_cell x v4
      have hBs := Nat.le_trans HB.out HBW.out.size
      have HC : Hid (∀ x : Ext wr, Calls Tryz.prog 41 #[.agg #[.string ld[k].sp, .string ld[k].nm, .slice a1 ld[k].atr.length c1, .string ld[k].tx, .slice a2 ld[k].ks.length c2], .agg #[.string ld[k].sp, .string ld[k].nm, .slice a1' ld[k].atr.length c1', .string ld[k].tx, .slice a2' ld[k].ks.length c2']] x.to fun r w' => r = .returned (.bool true) ∧ Below x.to.heap.size x.to w') := fun x =>
        same_yes ld[k] B x.to _ _ (hkin.stay (x.below.mono hBs)) (hkin'.stay (x.below.mono hBs)) (Nat.le_trans hBs x.below.size)
      have hs := extSome wr
      clear u0 u1 u2 u3 u4 v0 v1 v2 v3 v4 hb hb' hkin hkin' hBs
      generalize ld[k] = K at *
      go_wp2_with fail
      refine ext_region (by kernel_rfl) (by kernel_rfl) ?_
      repeat (go_big_quiet_step ((go_at_call 41; with_reducible exact ext_call _ (HC.out _))))
      refine wpQuiet_nil ?_
      rintro _ ⟨x, hx⟩
      subst hx
      have HBX := Lib.hid (HBW.out.trans (x.below.mono HBW.out.size))
      have HXX := Lib.hid ((x.below.block _ (heap_lt HX.out)).trans HX.out)
      have HYY := Lib.hid ((x.below.block _ (heap_lt HY.out)).trans HY.out)
      clear z0 z1 z2 z3 z4 z0' z1' z2' z3' z4' q2 q2' x12 y12 HC
      go_wp2_with fail
      go_roundw
      case rel => exact ⟨k + 1, by go_num, by omega, HBX.out, HXX.out, HYY.out⟩
      case measure => simp [RowKit.intOf]; omega
    · go_wp2_with fail
      go_ret
      exact ⟨rfl, HBW.out⟩
set_option maxRecDepth 100000 in
set_option maxHeartbeats 8000000 in
theorem stSame_yes (ld : List El) (B : Nat) (kd : Int) (ty fn fd fr tn td tr id sh st bd cd : ByteArray) (aL : Option Addr) (cL : Nat) (aM : Option Addr) (cM : Nat) (w : World) (hK : KsIn B w aL ld) (hK' : KsIn B w aM ld) (hB : B ≤ w.heap.size) (hl : ld.length ≤ 20000) :
    Calls Tryz.prog 20 #[.agg #[.int .i64 kd, .string ty, .string fn, .string fd, .string fr, .string tn, .string td, .string tr, .string id, .string sh, .string st, .string bd, .slice aL ld.length cL, .string cd], .agg #[.int .i64 kd, .string ty, .string fn, .string fd, .string fr, .string tn, .string td, .string tr, .string id, .string sh, .string st, .string bd, .slice aM ld.length cM, .string cd]] w fun r w' => r = .returned (.bool true) ∧ Below w.heap.size w w' := by
  have CE := Lib.hid (fun (W : World) (hb : Below w.heap.size w W) => equalF_any ld ld (fun k _ => same_any k) B aL aM cL cM W (by unfold maxLen; omega) (hK.below (hb.mono hB)) (hK'.below (hb.mono hB)) (Nat.le_trans hB hb.size))
  have HB0 : Hid (Below w.heap.size w ((w.alloc (.cells #[.int .i64 kd, .string ty, .string fn, .string fd, .string fr, .string tn, .string td, .string tr, .string id, .string sh, .string st, .string bd, .slice aL ld.length cL, .string cd] 26)).alloc (.cells #[.int .i64 kd, .string ty, .string fn, .string fd, .string fr, .string tn, .string td, .string tr, .string id, .string sh, .string st, .string bd, .slice aM ld.length cM, .string cd] 26))) := ((Below.refl _ w).alloc (Nat.le_refl _) _).alloc (by simp) _
  have HX0 : Hid (((w.alloc (.cells #[.int .i64 kd, .string ty, .string fn, .string fd, .string fr, .string tn, .string td, .string tr, .string id, .string sh, .string st, .string bd, .slice aL ld.length cL, .string cd] 26)).alloc (.cells #[.int .i64 kd, .string ty, .string fn, .string fd, .string fr, .string tn, .string td, .string tr, .string id, .string sh, .string st, .string bd, .slice aM ld.length cM, .string cd] 26)).heap[w.heap.size]? = some (.cells #[.int .i64 kd, .string ty, .string fn, .string fd, .string fr, .string tn, .string td, .string tr, .string id, .string sh, .string st, .string bd, .slice aL ld.length cL, .string cd] 26 (0, 0))) := (Below.heap_alloc _ _ _ (by simp)).trans (box_new w _ _)
  have HY0 : Hid (((w.alloc (.cells #[.int .i64 kd, .string ty, .string fn, .string fd, .string fr, .string tn, .string td, .string tr, .string id, .string sh, .string st, .string bd, .slice aL ld.length cL, .string cd] 26)).alloc (.cells #[.int .i64 kd, .string ty, .string fn, .string fd, .string fr, .string tn, .string td, .string tr, .string id, .string sh, .string st, .string bd, .slice aM ld.length cM, .string cd] 26)).heap[w.heap.size + 1]? = some (.cells #[.int .i64 kd, .string ty, .string fn, .string fd, .string fr, .string tn, .string td, .string tr, .string id, .string sh, .string st, .string bd, .slice aM ld.length cM, .string cd] 26 (0, 0))) := box_snd w _ _ _ _
  clear hK hK' hB
  obtain ⟨x0, x1, x2, x3, x4, x5, x6, x7, x8, x9, x10, x11, x12, x13⟩ := bx14 HX0.out
  obtain ⟨y0, y1, y2, y3, y4, y5, y6, y7, y8, y9, y10, y11, y12, y13⟩ := bx14 HY0.out
  go_enter Tryz.func20, Tryz.ntmps20
  go_wp2_with fail
  refine (CE.out _ HB0.out).mono ?_
  rintro r w1 ⟨rfl, hb⟩
  have HB1 := Lib.hid (more HB0.out (Nat.le_refl _) hb)
  clear hb
  rw [show eqv ld ld = true from eqv_yes rfl]
  go_wp2_with fail
  go_ret
  exact ⟨rfl, HB1.out⟩
end Go.Proofs.YtccpdfcmhggleaaGreatDoor
