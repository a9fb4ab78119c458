/- Contract of the document's Md5. Condition: a text has at most 100000 bytes. -/
import Derived.Test.YtnoabinodojkiaaDoorDq
namespace Go.Proofs.YtnoabinodojkiaaDoor
open Go.RowKit Go.Lib By Dg

theorem sines_at {k : Nat} (hk : k < 64) : (sines.map (Value.int .u32)).toArray[k]? = some (.int .u32 (kk k)) := by
  have h : k < sines.length := hk
  simp [kk, List.getD_eq_getElem?_getD, List.getElem?_eq_getElem h]
def FillQ (F : List UInt8) (w : World) (e : Ending) (w' : World) : Prop := ∃ v, e = .returned v ∧ Own w.heap.size v (bv F) w' ∧ Below w.heap.size w w'
theorem Own.byte {N g cap n : Nat} {l : List UInt8} {w : World} (h : Own N (.slice (some ⟨g, 0, none⟩) n cap) (bv l) w) : ∀ j, j < l.length → w.cell? ⟨g, j, none⟩ = some (.int .u8 (nb l j : Nat)) := by
  intro j hj
  have h0 : bv l ≠ [] := by intro e; have := congrArg List.length e; rw [bv_length] at this; simp at this; subst this; simp at hj
  obtain ⟨g', cap', he, _, _, _, hc⟩ := h.form h0
  simp only [Value.slice.injEq, Option.some.injEq, Addr.mk.injEq] at he
  obtain ⟨⟨rfl, -⟩, -, -⟩ := he
  exact hc j _ (bv_at l hj)
theorem Own.cap {N g cap n : Nat} {l : List UInt8} {w : World} (h : Own N (.slice (some ⟨g, 0, none⟩) n cap) (bv l) w) : l.length ≤ cap := by
  rcases h with ⟨h, _⟩ | ⟨g', cap', he, _, hl, _⟩
  · simp at h
  · simp only [Value.slice.injEq] at he
    obtain ⟨-, -, rfl⟩ := he
    rwa [bv_length] at hl

set_option maxHeartbeats 4000000 in
set_option maxRecDepth 100000 in
theorem rmd5_any (s : ByteArray) (w : World) (hs : s.size ≤ 100000) : Calls Tryd.prog 9 #[.string s] w fun e w' => e = .returned (.string ⟨(md5 s.data.toList).toArray⟩) ∧ Below w.heap.size w w' := by
  have HFil : Hid (∀ W, Calls Tryd.prog 20 #[.string s, .bool true] W (FillQ (fl false s.data.toList) W)) := fun W => fill_false s W hs
  have hn0 := fl_ch false s.data.toList
  rw [len_size] at hn0
  have hc := ch_le hs
  have HTb := Lib.hid (fun W => table_any W)
  have HH0 := Lib.hid (Has.new 28 (c4 (md (fl false s.data.toList) 0)) w)
  have HB0 := Lib.hid (fun o => (Below.refl w.heap.size w).alloc (Nat.le_refl _) o)
  have HMd : Hid (∀ n, ch s.size = n → outp false (ws4 (md (fl false s.data.toList) n)) = md5 s.data.toList) := by rintro _ rfl; rw [md5, len_size]
  have hF0 : 0 < (fl false s.data.toList).length := by rw [fl_length]; omega
  generalize fl false s.data.toList = F at HFil hn0 HH0 HMd hF0
  generalize hn : ch s.size = n at hn0 hc HMd
  have HN := Lib.hid hn0
  clear hn hs hn0
  go_enter Tryd.func9, Tryd.ntmps9
  go_wp2_with fail
  refine (HTb.out _).mono ?_
  rintro r w1 ⟨gt, rfl, ht, hgt, hb⟩
  have HT1 : Hid (Has 28 (sines.map (Value.int .u32)).toArray gt w1) := ht
  have HH1 := Lib.hid (HH0.out.below hb)
  have HB1 := Lib.hid ((HB0.out _).trans (hb.mono (HB0.out _).size))
  clear ht hb HH0 HB0 hgt HTb
  go_wp2_with fail
  refine (HFil.out _).mono ?_
  rintro r w2 ⟨vm, rfl, hO, hb⟩
  have HT2 := Lib.hid (HT1.out.below hb)
  have HH2 := Lib.hid (HH1.out.below hb)
  have HB2 := Lib.hid (HB1.out.trans (hb.mono HB1.out.size))
  have HO2 := hO
  clear hO hb HH1 HT1 HB1
  obtain ⟨gm, cap, rfl, _, hgm, hcap, _⟩ := HO2.form (by intro e; have := congrArg List.length e; rw [bv_length, List.length_nil] at this; omega)
  rw [bv_length] at hcap HO2 ⊢
  have hcapL := hcap
  obtain ⟨L, hL⟩ : ∃ L, L = F.length := ⟨_, rfl⟩
  rw [← hL] at hcap HO2 hF0 ⊢
  have HLn : Hid (L = 64 * n) := hL.trans HN.out
  have HLF := Lib.hid hL
  have hLi : (L : Int) ≤ 200000 := by have := HLn.out; omega
  have HOm := Lib.hid HO2
  clear HO2 hcapL hL HFil
  go_wp2_with fail
  go_loopw [3, 6] (fun h at_ wr => ∃ k p g : Nat, h = .slice (some ⟨g, 0, none⟩) 4 4 ∧ at_ = .int .i64 p ∧ p ≤ L ∧ Hid (p = 64 * k ∧ k ≤ n) ∧ Hid (Has 28 (c4 (md F k)) g wr) ∧ Hid (Has 28 (sines.map (Value.int .u32)).toArray gt wr) ∧ Hid (Own w1.heap.size (.slice (some ⟨gm, 0, none⟩) L cap) (bv F) wr) ∧ Hid (Below w.heap.size w wr)) (fun _ at_ _ => L - (RowKit.intOf at_).toNat)
  case atStart => exact ⟨0, 0, w.heap.size, rfl, rfl, by omega, ⟨rfl, by omega⟩, HH2.out, HT2.out, HOm.out, HB2.out⟩
  case round =>
    clear HH2 HT2 HOm HB2
    obtain ⟨k, p, g, rfl, rfl, hp, HP, HH, HT, HO, HB⟩ := hrel
    by_cases hlt : p < L
    · have hpl : p + 64 ≤ L := by have := HP.out.1; have := HLn.out; omega
      have hpc : p + 64 ≤ cap := by omega
      have hkn : k + 1 ≤ n := by have := HP.out.1; have := HLn.out; omega
      have HP2 : Hid (p + 64 = 64 * (k + 1) ∧ k + 1 ≤ n) := ⟨by have := HP.out.1; omega, hkn⟩
      obtain ⟨⟨a0, b0, c0, d0⟩, hq⟩ : ∃ r, r = md F k := ⟨_, rfl⟩
      have HQ : Hid (md F (k + 1) = ad4 (a0, b0, c0, d0) (mr (fun j => wd false F (p + 4 * j)) (a0, b0, c0, d0) 64)) := by show _ = _; rw [hq, HP.out.1]; rfl
      rw [← hq] at HH
      clear hq hkn
      have hh0 := HH.out.cell (j := 0) (v := .int .u32 a0) rfl
      have hh1 := HH.out.cell (j := 1) (v := .int .u32 b0) rfl
      have hh2 := HH.out.cell (j := 2) (v := .int .u32 c0) rfl
      have hh3 := HH.out.cell (j := 3) (v := .int .u32 d0) rfl
      go_wp2_with fail
      go_quiet (fail)
      have HHd := Lib.hid (fun m => HH.out.drewN m)
      have HTd := Lib.hid (fun m => HT.out.drewN m)
      have HOd := Lib.hid (fun m => HO.out.below (below_drewN wr m))
      have HBd := Lib.hid (fun m => HB.out.trans ((below_drewN wr m).mono HB.out.size))
      clear HH HT HO HB hh0 hh1 hh2 hh3
      obtain ⟨m, hm⟩ : ∃ m, m = (fun j => wd false F (p + 4 * j)) := ⟨_, rfl⟩
      have HM : Hid (∀ j, wd false F (p + 4 * j) = m j) := fun j => by rw [hm]
      rw [← hm] at HQ
      clear hm
      go_wp2_with fail
      go_loopw [7, 8, 9, 10, 11] (fun va vb vc vd vi wx => ∃ (i : Nat) (a b c d : Int), va = .int .u32 a ∧ vb = .int .u32 b ∧ vc = .int .u32 c ∧ vd = .int .u32 d ∧ vi = .int .i64 i ∧ i ≤ 64 ∧ Hid ((a, b, c, d) = mr m (a0, b0, c0, d0) i) ∧ Hid (Has 28 (c4 (a0, b0, c0, d0)) g wx) ∧ Hid (Has 28 (sines.map (Value.int .u32)).toArray gt wx) ∧ Hid (Own w1.heap.size (.slice (some ⟨gm, 0, none⟩) L cap) (bv F) wx) ∧ Hid (Below w.heap.size w wx)) (fun _ _ _ _ vi _ => 64 - (RowKit.intOf vi).toNat)
      case atStart => exact ⟨0, a0, b0, c0, d0, rfl, rfl, rfl, rfl, rfl, by omega, rfl, HHd.out _, HTd.out _, HOd.out _, HBd.out _⟩
      case round =>
        clear HHd HTd HOd HBd
        rename_i wr0 _
        obtain ⟨i, a, b, c, d, rfl, rfl, rfl, rfl, rfl, hi, HR, HH, HT, HO, HB⟩ := hrel
        by_cases hlt2 : i < 64
        · have hi2 : (i : Int) < 64 := by omega
          have hs := HT.out.cell (sines_at hlt2)
          have hj := mg_lt hlt2
          have HN2 : Hid (mr m (a0, b0, c0, d0) (i + 1) = (d, (b + rl ((a + mf i b c d + kk i + wd false F (p + 4 * mg i)) % 4294967296) (rr i)) % 4294967296, b, c)) := by
            show _ = _
            rw [HM.out, ← ad_three, mr, ← HR.out]
            rfl
          have HWD : Hid (∀ (x : Ext wr) (cc : Nat), Calls Tryd.prog 21 #[.slice (some ⟨gm, p + 4 * mg i, none⟩) 4 cc, .bool true] x.to fun e w' => e = .returned (.int .u32 (wd false F (p + 4 * mg i))) ∧ Below x.to.heap.size x.to w') := fun x cc =>
            word_any false F gm (p + 4 * mg i) cc x.to (by have := HLF.out; omega) (fun j hj => ext_cell x (HO.out.byte j hj))
          have HTU := Lib.hid (fun W => turns_any i W hlt2)
          have hr := rr_lt i
          have HTN := Lib.hid (fun X W => turn_any X (rr i) hr W)
          have fs : ∀ x : Ext wr, x.to.cell? ⟨gt, i, none⟩ = _ := fun x => ext_cell x hs
          have hne := extSome wr
          have hsg : IntKind.u32.signed = false := rfl
          generalize wd false F (p + 4 * mg i) = wv at HN2 HWD
          generalize kk i = kv at HN2 fs
          generalize rr i = rv at HN2 HTU HTN hr
          clear hs
          by_cases e0 : i / 16 = 0
          · have HFX : Hid (mf i b c d = io (an b c) (an (nt b) d)) := by show _ = _; simp [mf, e0]
            have f0 := div_eq e0
            have HGX : Hid (mg i = i) := by show _ = _; simp [mg, e0]
            rw [HGX.out] at hj HWD
            rw [HFX.out] at HN2
            clear e0
            go_wp2_with fail
            refine ext_region (by kernel_rfl) (by kernel_rfl) ?_
            repeat (go_big_quiet_step ((go_at_call 21; with_reducible exact ext_call _ (HWD.out _ _))))
            refine wpQuiet_nil ?_
            rintro _ ⟨v, hv⟩
            subst hv
            have HH5 := Lib.hid (HH.out.below v.below)
            have HT5 := Lib.hid (HT.out.below v.below)
            have HO5 := Lib.hid (HO.out.below v.below)
            have HB5 := Lib.hid (HB.out.trans (v.below.mono HB.out.size))
            generalize v.to = w5 at HH5 HT5 HO5 HB5 ⊢
            clear fs hne HWD HH HT HO HB v
            go_wp2_with fail
            refine (HTU.out _).mono ?_
            rintro r w6 ⟨rfl, hb⟩
            have HH6 := Lib.hid (HH5.out.below hb)
            have HT6 := Lib.hid (HT5.out.below hb)
            have HO6 := Lib.hid (HO5.out.below hb)
            have HB6 := Lib.hid (HB5.out.trans (hb.mono HB5.out.size))
            clear hb HH5 HT5 HO5 HB5
            go_wp2_with fail
            refine (HTN.out _ _).mono ?_
            rintro r w7 ⟨rfl, rfl⟩
            have HH7 := Lib.hid (HH6.out.drewN 1)
            have HT7 := Lib.hid (HT6.out.drewN 1)
            have HO7 := Lib.hid (HO6.out.drew)
            have HB7 := Lib.hid HB6.out.drew
            go_wp2_with fail
            exact ⟨⟨i + 1, d, _, b, c, rfl, rfl, rfl, rfl, by go_num, by omega, HN2.out.symm, HH7.out, HT7.out, HO7.out, HB7.out⟩, by simp [RowKit.intOf]; omega⟩
          have f0 := div_ne e0
          by_cases e1 : i / 16 = 1
          · have HFX : Hid (mf i b c d = io (an d b) (an (nt d) c)) := by show _ = _; simp [mf, e1]
            have f1 := div_eq e1
            have hgx : (5 * (i : Int) + 1) % 16 = ((mg i : Nat) : Int) := by simp [mg, e1]
            generalize mg i = j at hj HWD hgx
            rw [HFX.out] at HN2
            clear e0 e1
            go_wp2_with fail
            refine ext_region (by kernel_rfl) (by kernel_rfl) ?_
            repeat (go_big_quiet_step ((go_at_call 21; with_reducible exact ext_call _ (HWD.out _ _))))
            refine wpQuiet_nil ?_
            rintro _ ⟨v, hv⟩
            subst hv
            have HH5 := Lib.hid (HH.out.below v.below)
            have HT5 := Lib.hid (HT.out.below v.below)
            have HO5 := Lib.hid (HO.out.below v.below)
            have HB5 := Lib.hid (HB.out.trans (v.below.mono HB.out.size))
            generalize v.to = w5 at HH5 HT5 HO5 HB5 ⊢
            clear fs hne HWD HH HT HO HB v
            go_wp2_with fail
            refine (HTU.out _).mono ?_
            rintro r w6 ⟨rfl, hb⟩
            have HH6 := Lib.hid (HH5.out.below hb)
            have HT6 := Lib.hid (HT5.out.below hb)
            have HO6 := Lib.hid (HO5.out.below hb)
            have HB6 := Lib.hid (HB5.out.trans (hb.mono HB5.out.size))
            clear hb HH5 HT5 HO5 HB5
            go_wp2_with fail
            refine (HTN.out _ _).mono ?_
            rintro r w7 ⟨rfl, rfl⟩
            have HH7 := Lib.hid (HH6.out.drewN 1)
            have HT7 := Lib.hid (HT6.out.drewN 1)
            have HO7 := Lib.hid (HO6.out.drew)
            have HB7 := Lib.hid HB6.out.drew
            go_wp2_with fail
            exact ⟨⟨i + 1, d, _, b, c, rfl, rfl, rfl, rfl, by go_num, by omega, HN2.out.symm, HH7.out, HT7.out, HO7.out, HB7.out⟩, by simp [RowKit.intOf]; omega⟩
          have f1 := div_ne e1
          by_cases e2 : i / 16 = 2
          · have HFX : Hid (mf i b c d = xo (xo b c) d) := by show _ = _; simp [mf, e2]
            have f2 := div_eq e2
            have hgx : (3 * (i : Int) + 5) % 16 = ((mg i : Nat) : Int) := by simp [mg, e2]
            generalize mg i = j at hj HWD hgx
            rw [HFX.out] at HN2
            clear e0 e1 e2
            go_wp2_with fail
            refine ext_region (by kernel_rfl) (by kernel_rfl) ?_
            repeat (go_big_quiet_step ((go_at_call 21; with_reducible exact ext_call _ (HWD.out _ _))))
            refine wpQuiet_nil ?_
            rintro _ ⟨v, hv⟩
            subst hv
            have HH5 := Lib.hid (HH.out.below v.below)
            have HT5 := Lib.hid (HT.out.below v.below)
            have HO5 := Lib.hid (HO.out.below v.below)
            have HB5 := Lib.hid (HB.out.trans (v.below.mono HB.out.size))
            generalize v.to = w5 at HH5 HT5 HO5 HB5 ⊢
            clear fs hne HWD HH HT HO HB v
            go_wp2_with fail
            refine (HTU.out _).mono ?_
            rintro r w6 ⟨rfl, hb⟩
            have HH6 := Lib.hid (HH5.out.below hb)
            have HT6 := Lib.hid (HT5.out.below hb)
            have HO6 := Lib.hid (HO5.out.below hb)
            have HB6 := Lib.hid (HB5.out.trans (hb.mono HB5.out.size))
            clear hb HH5 HT5 HO5 HB5
            go_wp2_with fail
            refine (HTN.out _ _).mono ?_
            rintro r w7 ⟨rfl, rfl⟩
            have HH7 := Lib.hid (HH6.out.drewN 1)
            have HT7 := Lib.hid (HT6.out.drewN 1)
            have HO7 := Lib.hid (HO6.out.drew)
            have HB7 := Lib.hid HB6.out.drew
            go_wp2_with fail
            exact ⟨⟨i + 1, d, _, b, c, rfl, rfl, rfl, rfl, by go_num, by omega, HN2.out.symm, HH7.out, HT7.out, HO7.out, HB7.out⟩, by simp [RowKit.intOf]; omega⟩
          have f2 := div_ne e2
          have HFX : Hid (mf i b c d = xo c (io b (nt d))) := by show _ = _; simp [mf, e0, e1, e2]
          have hgx : 7 * (i : Int) % 16 = ((mg i : Nat) : Int) := by simp [mg, e0, e1, e2]
          generalize mg i = j at hj HWD hgx
          rw [HFX.out] at HN2
          clear e0 e1 e2
          go_wp2_with fail
          refine ext_region (by kernel_rfl) (by kernel_rfl) ?_
          repeat (go_big_quiet_step ((go_at_call 21; with_reducible exact ext_call _ (HWD.out _ _))))
          refine wpQuiet_nil ?_
          rintro _ ⟨v, hv⟩
          subst hv
          have HH5 := Lib.hid (HH.out.below v.below)
          have HT5 := Lib.hid (HT.out.below v.below)
          have HO5 := Lib.hid (HO.out.below v.below)
          have HB5 := Lib.hid (HB.out.trans (v.below.mono HB.out.size))
          generalize v.to = w5 at HH5 HT5 HO5 HB5 ⊢
          clear fs hne HWD HH HT HO HB v
          go_wp2_with fail
          refine (HTU.out _).mono ?_
          rintro r w6 ⟨rfl, hb⟩
          have HH6 := Lib.hid (HH5.out.below hb)
          have HT6 := Lib.hid (HT5.out.below hb)
          have HO6 := Lib.hid (HO5.out.below hb)
          have HB6 := Lib.hid (HB5.out.trans (hb.mono HB5.out.size))
          clear hb HH5 HT5 HO5 HB5
          go_wp2_with fail
          refine (HTN.out _ _).mono ?_
          rintro r w7 ⟨rfl, rfl⟩
          have HH7 := Lib.hid (HH6.out.drewN 1)
          have HT7 := Lib.hid (HT6.out.drewN 1)
          have HO7 := Lib.hid (HO6.out.drew)
          have HB7 := Lib.hid HB6.out.drew
          go_wp2_with fail
          exact ⟨⟨i + 1, d, _, b, c, rfl, rfl, rfl, rfl, by go_num, by omega, HN2.out.symm, HH7.out, HT7.out, HO7.out, HB7.out⟩, by simp [RowKit.intOf]; omega⟩
        · obtain rfl : i = 64 := by omega
          rw [← HR.out] at HQ
          have hh0 := HH.out.cell (j := 0) (v := .int .u32 a0) rfl
          have hh1 := HH.out.cell (j := 1) (v := .int .u32 b0) rfl
          have hh2 := HH.out.cell (j := 2) (v := .int .u32 c0) rfl
          have hh3 := HH.out.cell (j := 3) (v := .int .u32 d0) rfl
          have fh0 : ∀ x : Ext wr, x.to.cell? ⟨g, 0, none⟩ = _ := fun x => ext_cell x hh0
          have fh1 : ∀ x : Ext wr, x.to.cell? ⟨g, 1, none⟩ = _ := fun x => ext_cell x hh1
          have fh2 : ∀ x : Ext wr, x.to.cell? ⟨g, 2, none⟩ = _ := fun x => ext_cell x hh2
          have fh3 : ∀ x : Ext wr, x.to.cell? ⟨g, 3, none⟩ = _ := fun x => ext_cell x hh3
          have hne := extSome wr
          clear hh0 hh1 hh2 hh3 HR HM
          go_wp2_with fail
          refine ext_tail 20 (by kernel_rfl) (by kernel_rfl) ?_
          simp only [List.take_succ_cons, List.take_zero, List.drop_succ_cons, List.drop_zero]
          repeat (go_big_quiet_step ((fail)))
          refine wpQuiet_nil ?_
          rintro _ ⟨v, hv⟩
          subst hv
          have HT5 := Lib.hid ((HT.out.below v.below).alloc (.cells (c4 (ad4 (a0, b0, c0, d0) (a, b, c, d))) 28))
          have HO5 := Lib.hid ((HO.out.below v.below).alloc (.cells (c4 (ad4 (a0, b0, c0, d0) (a, b, c, d))) 28))
          have HB5 := Lib.hid (HB.out.trans (v.below.mono HB.out.size))
          have HB6 := Lib.hid (HB5.out.alloc HB5.out.size (.cells (c4 (ad4 (a0, b0, c0, d0) (a, b, c, d))) 28))
          have HN5 := Lib.hid (Has.new 28 (c4 (ad4 (a0, b0, c0, d0) (a, b, c, d))) v.to)
          generalize v.to = w5 at HT5 HO5 HB5 HB6 HN5 ⊢
          clear fh0 fh1 fh2 fh3 hne HT HO HB v
          have HN6 : Hid (Has 28 (c4 (md F (k + 1))) w5.heap.size (w5.alloc (.cells (c4 (ad4 (a0, b0, c0, d0) (a, b, c, d))) 28))) := by
            show Has _ _ _ _
            rw [HQ.out]
            exact HN5.out
          go_wp2_with fail
          exact ⟨⟨k + 1, p + 64, w5.heap.size, rfl, by go_num, by omega, HP2.out, HN6.out, HT5.out, HO5.out, HB6.out⟩, by simp [RowKit.intOf]; omega⟩
    · obtain rfl : p = L := by omega
      have hk : k = n := by have := HP.out; have := HLn.out; omega
      subst hk
      have HPW := Lib.hid (fun W hB hl => bytes_false (ws4 (md F k)) g 4 W (show 0 < 4 by omega) (show 4 ≤ 100 by omega) (md_w _ _) hB hl)
      have HE := Lib.hid (HMd.out k rfl)
      go_wp2_with fail
      refine (HPW.out _ (fun j hj => HH.out.cell (ws4_cell _ j hj)) HH.out.lt).mono ?_
      rintro r w3 ⟨rfl, hb3⟩
      have HB3 := Lib.hid (HB.out.trans (hb3.mono HB.out.size))
      clear hb3
      rw [HE.out]
      go_wp2_with fail
      go_ret
      exact ⟨rfl, HB3.out⟩
end Go.Proofs.YtnoabinodojkiaaDoor
