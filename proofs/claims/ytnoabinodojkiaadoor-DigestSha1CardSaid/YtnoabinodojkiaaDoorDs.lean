/- Contract of the document's Sha1. Condition: a text has at most 100000 bytes. -/
import Derived.Test.YtnoabinodojkiaaDoorDr
import Derived.Test.YtnoabinodojkiaaDoorDt
namespace Go.Proofs.YtnoabinodojkiaaDoor
open Go.RowKit Go.Lib By Dg

theorem turn_bel (x : Int) (n : Nat) (hn : n < 32) (w : World) : Calls Tryd.prog 22 #[.int .u32 x, .int .i64 n] w fun e w' => e = .returned (.int .u32 (rl x n)) ∧ Below w.heap.size w w' :=
  (turn_any x n hn w).mono fun _ _ ⟨he, hw⟩ => ⟨he, hw ▸ (Below.refl _ w).drew⟩
theorem ad_flat (a b c d e : Int) : ad (ad (ad (ad a b) c) d) e = (a + b + c + d + e) % 4294967296 := by unfold ad; omega
def wl (l : List Int) : List Value := l.map (Value.int .u32)
theorem wl_length (l : List Int) : (wl l).length = l.length := by simp [wl]
theorem wl_at (l : List Int) {j : Nat} (h : j < l.length) : (wl l)[j]? = some (.int .u32 (l.getD j 0)) := by
  simp [wl, List.getD_eq_getElem?_getD, List.getElem?_eq_getElem h]
theorem spl_low (m : Nat → Int) {t : Nat} (h : t < 16) : wl (spl m (t + 1)) = wl (spl m t) ++ [Value.int .u32 (m t)] := by
  simp [wl, spl, h]
theorem spl_high (m : Nat → Int) {t : Nat} (h : ¬ t < 16) : wl (spl m (t + 1)) = wl (spl m t) ++ [Value.int .u32 (rl (bits .xor .u32 (bits .xor .u32 (bits .xor .u32 ((spl m t).getD (t - 3) 0) ((spl m t).getD (t - 8) 0)) ((spl m t).getD (t - 14) 0)) ((spl m t).getD (t - 16) 0)) 1)] := by
  simp [wl, spl, h, xo]
theorem Own.word {N g cap n : Nat} {l : List Int} {w : World} (h : Own N (.slice (some ⟨g, 0, none⟩) n cap) (wl l) w) {j : Nat} (hj : j < l.length) : w.cell? ⟨g, j, none⟩ = some (.int .u32 (l.getD j 0)) := by
  have h0 : wl l ≠ [] := by intro e; have := congrArg List.length e; rw [wl_length, List.length_nil] at this; omega
  obtain ⟨g', cap', he, _, _, _, hc⟩ := h.form h0
  simp only [Value.slice.injEq, Option.some.injEq, Addr.mk.injEq] at he
  obtain ⟨⟨rfl, -⟩, -, -⟩ := he
  exact hc j _ (wl_at l hj)

set_option maxHeartbeats 4000000 in
set_option maxRecDepth 100000 in
theorem rsha1_any (s : ByteArray) (w : World) (hs : s.size ≤ 100000) : Calls Tryd.prog 11 #[.string s] w fun e w' => e = .returned (.string ⟨(sha1 s.data.toList).toArray⟩) ∧ Below w.heap.size w w' := by
  have HFil : Hid (∀ W, Calls Tryd.prog 20 #[.string s, .bool false] W (FillQ (fl true s.data.toList) W)) := fun W => fill_true s W hs
  obtain ⟨i0, hi, hz0, hz1, hz2⟩ := info_parts wordInfo
  have hn0 := fl_ch true s.data.toList
  rw [len_size] at hn0
  have hc := ch_le hs
  have HH0 := Lib.hid (Has.new 28 (c5 (sd (fl true s.data.toList) 0)) w)
  have HB0 := Lib.hid (fun o => (Below.refl w.heap.size w).alloc (Nat.le_refl _) o)
  have HMd : Hid (∀ n, ch s.size = n → outp true (ws5 (sd (fl true s.data.toList) n)) = sha1 s.data.toList) := by rintro _ rfl; rw [sha1, len_size]
  have hF0 : 0 < (fl true s.data.toList).length := by rw [fl_length]; omega
  generalize fl true s.data.toList = F at HFil hn0 HH0 HMd hF0
  generalize hn : ch s.size = n at hn0 hc HMd
  have HN := Lib.hid hn0
  have HI := Lib.hid hi
  have HI0 := Lib.hid hz0
  have HI1 := Lib.hid hz1
  have HI2 := Lib.hid hz2
  clear hn hs hn0 hi hz0 hz1 hz2
  go_enter Tryd.func11, Tryd.ntmps11
  go_wp2_with fail
  refine (HFil.out _).mono ?_
  rintro r w2 ⟨vm, rfl, hO, hb⟩
  have HH2 := Lib.hid (HH0.out.below hb)
  have HB2 := Lib.hid ((HB0.out _).trans (hb.mono (HB0.out _).size))
  have HO2 := hO
  clear hO hb HH0 HB0
  generalize hNm : (w.alloc _).heap.size = Nm at HO2
  clear hNm
  obtain ⟨gm, cap, rfl, _, hgm, hcap, _⟩ := HO2.form (by intro e; have := congrArg List.length e; rw [bv_length, List.length_nil] at this; omega)
  rw [bv_length] at hcap HO2 ⊢
  obtain ⟨L, hL⟩ : ∃ L, L = F.length := ⟨_, rfl⟩
  rw [← hL] at hcap HO2 hF0 ⊢
  have HLn : Hid (L = 64 * n) := hL.trans HN.out
  have HLF := Lib.hid hL
  have hLi : (L : Int) ≤ 200000 := by have := HLn.out; omega
  have HOm := Lib.hid HO2
  clear HO2 hL HFil
  go_wp2_with fail
  go_loopw [3, 5] (fun h at_ wr => ∃ k p g : Nat, h = .slice (some ⟨g, 0, none⟩) 5 5 ∧ at_ = .int .i64 p ∧ p ≤ L ∧ Hid (p = 64 * k ∧ k ≤ n) ∧ Hid (Has 28 (c5 (sd F k)) g wr) ∧ Hid (Own Nm (.slice (some ⟨gm, 0, none⟩) L cap) (bv F) wr) ∧ Hid (Below w.heap.size w wr)) (fun _ at_ _ => L - (RowKit.intOf at_).toNat)
  case atStart => exact ⟨0, 0, w.heap.size, rfl, rfl, by omega, ⟨rfl, by omega⟩, HH2.out, HOm.out, HB2.out⟩
  case round =>
    clear HH2 HOm HB2
    obtain ⟨k, p, g, rfl, rfl, hp, HP, HH, HO, HB⟩ := hrel
    obtain ⟨W0, rfl⟩ : ∃ W0, W0 = wr := ⟨_, rfl⟩
    by_cases hlt : p < L
    · have hpl : p + 64 ≤ L := by have := HP.out.1; have := HLn.out; omega
      have hpc : p + 64 ≤ cap := by omega
      have hkn : k + 1 ≤ n := by have := HP.out.1; have := HLn.out; omega
      have HP2 : Hid (p + 64 = 64 * (k + 1) ∧ k + 1 ≤ n) := ⟨by have := HP.out.1; omega, hkn⟩
      obtain ⟨⟨a0, b0, c0, d0, e0⟩, hq⟩ : ∃ r, r = sd F k := ⟨_, rfl⟩
      obtain ⟨m, hm⟩ : ∃ m, m = (fun j => wd true F (p + 4 * j)) := ⟨_, rfl⟩
      have HQ : Hid (sd F (k + 1) = ad5 (a0, b0, c0, d0, e0) (sr (wt m) (a0, b0, c0, d0, e0) 80)) := by show _ = _; rw [hq, hm, HP.out.1]; rfl
      have HM : Hid (∀ j, wd true F (p + 4 * j) = m j) := fun j => by rw [hm]
      rw [← hq] at HH
      clear hq hkn hm
      go_wp2_with fail
      have HA0 : Hid (Below W0.heap.size W0 W0) := Below.refl _ _
      go_loopw [6, 7] (fun vw vi wx => ∃ t : Nat, vi = .int .i64 t ∧ t ≤ 80 ∧ Hid (Own W0.heap.size vw (wl (spl m t)) wx) ∧ Hid (Below W0.heap.size W0 wx)) (fun _ vi _ => 80 - (RowKit.intOf vi).toNat)
      case atStart => exact ⟨0, rfl, by omega, .inl ⟨rfl, rfl⟩, HA0.out⟩
      case round =>
        obtain ⟨t, rfl, ht, HW, HX⟩ := hrel
        by_cases hlt8 : t < 80
        · have HWL : Hid ((wl (spl m t)).length = t) := by show _ = _; rw [wl_length, spl_length]
          by_cases h16 : t < 16
          · have HS := Lib.hid (spl_low m h16)
            have HWD : Hid (∀ (cc : Nat), Calls Tryd.prog 21 #[.slice (some ⟨gm, p + 4 * t, none⟩) 4 cc, .bool false] wr fun e w' => e = .returned (.int .u32 (m t)) ∧ Below wr.heap.size wr w') := fun cc => by
              rw [← HM.out t]
              exact word_any true F gm (p + 4 * t) cc wr (by have := HLF.out; omega) (fun j hj => (HO.out.below HX.out).byte j hj)
            generalize m t = x at HS HWD
            go_wp2_with fail
            refine (HWD.out _).mono ?_
            rintro r w5 ⟨rfl, hb⟩
            have HW5 := Lib.hid (HW.out.below hb)
            have HX5 := Lib.hid (HX.out.trans (hb.mono HX.out.size))
            clear hb HW HX HWD
            go_wp2_with (at_builtin; go_must (refine wpList_app _ rfl _ _ 36 rfl 28 i0 (.int .u32 0) 4 Tryd.underlying36 HI.out HI0.out HI1.out HI2.out rfl W0.heap.size _ _ rfl (HW5.out.alloc _) ⟨w5.heap.size, 0, none⟩ 1 rfl (.int .u32 x) (one_new _ _ _) rfl (by rw [HWL.out]; omega) (by rw [HWL.out]; omega) (by have := HX5.out.size; simp; omega) ?_))
            intro v3 w3 hO3 hb3
            rw [← HS.out] at hO3
            have HO3 := Lib.hid hO3
            have HX3 := Lib.hid ((HX5.out.alloc HX5.out.size _).trans hb3)
            clear hO3 hb3
            go_wp2_with fail
            exact ⟨⟨t + 1, by go_num, by omega, HO3.out, HX3.out⟩, by simp [RowKit.intOf]; omega⟩
          · have HS := Lib.hid (spl_high m h16)
            obtain ⟨gw, capw, rfl, _, _, hcw, _⟩ := HW.out.form (by intro e; have := congrArg List.length e; rw [HWL.out, List.length_nil] at this; omega)
            rw [HWL.out] at hcw HW ⊢
            have h3 := HW.out.word (j := t - 3) (by rw [spl_length]; omega)
            have h8 := HW.out.word (j := t - 8) (by rw [spl_length]; omega)
            have h14 := HW.out.word (j := t - 14) (by rw [spl_length]; omega)
            have h160 := HW.out.word (j := t - 16) (by rw [spl_length]; omega)
            generalize (spl m t).getD (t - 3) 0 = x3 at h3 HS
            generalize (spl m t).getD (t - 8) 0 = x8 at h8 HS
            generalize (spl m t).getD (t - 14) 0 = x14 at h14 HS
            generalize (spl m t).getD (t - 16) 0 = x16 at h160 HS
            have HT1 := Lib.hid (fun X W => turn_bel X 1 (by omega) W)
            have ht16 : 16 ≤ (t : Int) := by omega
            go_wp2_with fail
            have hw3 : IntKind.i64.wrap ((t : Int) - 3) = ((t - 3 : Nat) : Int) := by rw [wrap_in (by omega) (by omega)]; omega
            have hv3 : ((t - 3 : Nat) : Int) < (t : Int) := by omega
            have hw8 : IntKind.i64.wrap ((t : Int) - 8) = ((t - 8 : Nat) : Int) := by rw [wrap_in (by omega) (by omega)]; omega
            have hv8 : ((t - 8 : Nat) : Int) < (t : Int) := by omega
            have hw14 : IntKind.i64.wrap ((t : Int) - 14) = ((t - 14 : Nat) : Int) := by rw [wrap_in (by omega) (by omega)]; omega
            have hv14 : ((t - 14 : Nat) : Int) < (t : Int) := by omega
            have hw16 : IntKind.i64.wrap ((t : Int) - 16) = ((t - 16 : Nat) : Int) := by rw [wrap_in (by omega) (by omega)]; omega
            have hv16 : ((t - 16 : Nat) : Int) < (t : Int) := by omega
            go_region_law (first
              | (refine step_app _ (by rfl) _ _ 36 (by rfl) 28 i0 (.int .u32 0) 4 Tryd.underlying36 HI.out HI0.out HI1.out HI2.out rfl W0.heap.size _ _ (by rfl) (HW5.out.alloc _) ⟨w5.heap.size, 0, none⟩ 1 (by rfl) (.int .u32 (rl (bits .xor .u32 (bits .xor .u32 (bits .xor .u32 x3 x8) x14) x16) 1)) (one_new _ _ _) rfl (by rw [HWL.out]; omega) (by rw [HWL.out]; omega) (by have := HX5.out.size; simp; omega) ?_; intro v6 w6 hO6 hb6)
              | (go_simp; go_at_call 22; refine (HT1.out _ _).mono ?_; rintro r w5 ⟨rfl, hb5⟩; have HW5 : Hid (Own W0.heap.size (.slice (some ⟨gw, 0, none⟩) t capw) (wl (spl m t)) w5) := (HW.out.drew).below hb5; have HX5 : Hid (Below W0.heap.size W0 w5) := HX.out.drew.trans (hb5.mono HX.out.size); clear hb5))
            all_goals
              rw [← HS.out] at hO6
              have HO3 := Lib.hid hO6
              have HX3 := Lib.hid ((HX5.out.alloc HX5.out.size _).trans hb6)
              clear hO6 hb6 HW5 HX5 h3 h8 h14 h160
              go_wp2_with fail
              exact ⟨⟨t + 1, by go_num, by omega, HO3.out, HX3.out⟩, by simp [RowKit.intOf]; omega⟩
        · obtain rfl : t = 80 := by omega
          obtain ⟨gw, capw, rfl, _, _, hcw, _⟩ := HW.out.form (by intro e; have := congrArg List.length e; rw [wl_length, spl_length, List.length_nil] at this; omega)
          rw [wl_length, spl_length] at hcw HW ⊢
          have hh := HH.out.below HX.out
          have hh0 := hh.cell (j := 0) (v := .int .u32 a0) rfl
          have hh1 := hh.cell (j := 1) (v := .int .u32 b0) rfl
          have hh2 := hh.cell (j := 2) (v := .int .u32 c0) rfl
          have hh3 := hh.cell (j := 3) (v := .int .u32 d0) rfl
          have hh4 := hh.cell (j := 4) (v := .int .u32 e0) rfl
          clear hh
          go_wp2_with fail
          go_quiet (fail)
          have HWd := Lib.hid (fun m => HW.out.below (below_drewN wr m))
          have HXd := Lib.hid (fun m => HX.out.trans ((below_drewN wr m).mono HX.out.size))
          clear HW HX hh0 hh1 hh2 hh3 hh4
          go_wp2_with fail
          go_loopw [8, 9, 10, 11, 12, 13] (fun va vb vc vd ve vi wx => ∃ (i : Nat) (a b c d e : Int), va = .int .u32 a ∧ vb = .int .u32 b ∧ vc = .int .u32 c ∧ vd = .int .u32 d ∧ ve = .int .u32 e ∧ vi = .int .i64 i ∧ i ≤ 80 ∧ Hid ((a, b, c, d, e) = sr (wt m) (a0, b0, c0, d0, e0) i) ∧ Hid (Own W0.heap.size (.slice (some ⟨gw, 0, none⟩) 80 capw) (wl (spl m 80)) wx) ∧ Hid (Below W0.heap.size W0 wx)) (fun _ _ _ _ _ vi _ => 80 - (RowKit.intOf vi).toNat)
          case atStart => exact ⟨0, a0, b0, c0, d0, e0, rfl, rfl, rfl, rfl, rfl, rfl, by omega, rfl, HWd.out _, HXd.out _⟩
          case round =>
            clear HWd HXd
            rename_i wr9 _
            obtain ⟨i, a, b, c, d, e, rfl, rfl, rfl, rfl, rfl, rfl, hi, HR, HW, HX⟩ := hrel
            by_cases hlt2 : i < 80
            · have hi2 : (i : Int) < 80 := by omega
              have hs := HW.out.word (j := i) (by rw [spl_length]; exact hlt2)
              change _ = some (Value.int .u32 (wt m i)) at hs
              have HN2 : Hid (sr (wt m) (a0, b0, c0, d0, e0) (i + 1) = ((rl a 5 + sf i b c d + e + wt m i + sk i) % 4294967296, a, rl b 30, c, d)) := by
                show _ = _
                rw [← ad_flat, sr, ← HR.out]
                rfl
              have fs : ∀ x : Ext wr, x.to.cell? ⟨gw, i, none⟩ = _ := fun x => ext_cell x hs
              have hne := extSome wr
              have hsg : IntKind.u32.signed = false := rfl
              have HT5 := Lib.hid (fun X W => turn_bel X 5 (by omega) W)
              have HT30 := Lib.hid (fun X W => turn_bel X 30 (by omega) W)
              generalize wt m i = wv at HN2 fs
              clear hs
              by_cases z0 : i / 20 = 0
              · have HFX : Hid (sf i b c d = io (an b c) (an (nt b) d) ∧ sk i = 1518500249) := by constructor <;> simp [sf, sk, z0]
                have f1 := div_ne (show i / 20 ≠ 1 by omega)
                have f2 := div_ne (show i / 20 ≠ 2 by omega)
                have f3 := div_ne (show i / 20 ≠ 3 by omega)
                rw [HFX.out.1, HFX.out.2] at HN2
                clear z0
                go_wp2_with fail
                refine ext_region (by kernel_rfl) (by kernel_rfl) ?_
                repeat (go_big_quiet_step ((go_at_call 22; with_reducible exact ext_call _ (HT5.out _ _))))
                refine wpQuiet_nil ?_
                rintro _ ⟨v, hv⟩
                subst hv
                have HW5 := Lib.hid (HW.out.below v.below)
                have HX5 := Lib.hid (HX.out.trans (v.below.mono HX.out.size))
                generalize v.to = w5 at HW5 HX5 ⊢
                clear fs hne HW HX v
                go_wp2_with fail
                refine (HT30.out _ _).mono ?_
                rintro r w6 ⟨rfl, hb⟩
                have HW6 := Lib.hid (HW5.out.below hb)
                have HX6 := Lib.hid (HX5.out.trans (hb.mono HX5.out.size))
                clear hb HW5 HX5
                go_wp2_with fail
                rw [show ((i : Int) + 1) = ((i + 1 : Nat) : Int) by omega]
                refine ⟨?_, by simp [RowKit.intOf]; omega⟩
                first | exact ⟨i + 1, _, a, rl b 30, c, d, rfl, rfl, rfl, rfl, rfl, rfl, by omega, HN2.out.symm, HW6.out, HX6.out⟩ | ((repeat apply Exists.intro); exact ⟨⟨i + 1, _, a, rl b 30, c, d, rfl, rfl, rfl, rfl, rfl, rfl, by omega, HN2.out.symm, HW6.out, HX6.out⟩, rfl⟩)
              by_cases z1 : i / 20 = 1
              · have HFX : Hid (sf i b c d = xo (xo b c) d ∧ sk i = 1859775393) := by constructor <;> simp [sf, sk, z1]
                have f1 := div_eq z1
                have f2 := div_ne (show i / 20 ≠ 2 by omega)
                have f3 := div_ne (show i / 20 ≠ 3 by omega)
                rw [HFX.out.1, HFX.out.2] at HN2
                clear z0 z1
                go_wp2_with fail
                refine ext_region (by kernel_rfl) (by kernel_rfl) ?_
                repeat (go_big_quiet_step ((go_at_call 22; with_reducible exact ext_call _ (HT5.out _ _))))
                refine wpQuiet_nil ?_
                rintro _ ⟨v, hv⟩
                subst hv
                have HW5 := Lib.hid (HW.out.below v.below)
                have HX5 := Lib.hid (HX.out.trans (v.below.mono HX.out.size))
                generalize v.to = w5 at HW5 HX5 ⊢
                clear fs hne HW HX v
                go_wp2_with fail
                refine (HT30.out _ _).mono ?_
                rintro r w6 ⟨rfl, hb⟩
                have HW6 := Lib.hid (HW5.out.below hb)
                have HX6 := Lib.hid (HX5.out.trans (hb.mono HX5.out.size))
                clear hb HW5 HX5
                go_wp2_with fail
                rw [show ((i : Int) + 1) = ((i + 1 : Nat) : Int) by omega]
                refine ⟨?_, by simp [RowKit.intOf]; omega⟩
                first | exact ⟨i + 1, _, a, rl b 30, c, d, rfl, rfl, rfl, rfl, rfl, rfl, by omega, HN2.out.symm, HW6.out, HX6.out⟩ | ((repeat apply Exists.intro); exact ⟨⟨i + 1, _, a, rl b 30, c, d, rfl, rfl, rfl, rfl, rfl, rfl, by omega, HN2.out.symm, HW6.out, HX6.out⟩, rfl⟩)
              by_cases z2 : i / 20 = 2
              · have HFX : Hid (sf i b c d = io (io (an b c) (an b d)) (an c d) ∧ sk i = 2400959708) := by constructor <;> simp [sf, sk, z2]
                have f1 := div_ne (show i / 20 ≠ 1 by omega)
                have f2 := div_eq z2
                have f3 := div_ne (show i / 20 ≠ 3 by omega)
                rw [HFX.out.1, HFX.out.2] at HN2
                clear z0 z1 z2
                go_wp2_with fail
                refine ext_region (by kernel_rfl) (by kernel_rfl) ?_
                repeat (go_big_quiet_step ((go_at_call 22; with_reducible exact ext_call _ (HT5.out _ _))))
                refine wpQuiet_nil ?_
                rintro _ ⟨v, hv⟩
                subst hv
                have HW5 := Lib.hid (HW.out.below v.below)
                have HX5 := Lib.hid (HX.out.trans (v.below.mono HX.out.size))
                generalize v.to = w5 at HW5 HX5 ⊢
                clear fs hne HW HX v
                go_wp2_with fail
                refine (HT30.out _ _).mono ?_
                rintro r w6 ⟨rfl, hb⟩
                have HW6 := Lib.hid (HW5.out.below hb)
                have HX6 := Lib.hid (HX5.out.trans (hb.mono HX5.out.size))
                clear hb HW5 HX5
                go_wp2_with fail
                rw [show ((i : Int) + 1) = ((i + 1 : Nat) : Int) by omega]
                refine ⟨?_, by simp [RowKit.intOf]; omega⟩
                first | exact ⟨i + 1, _, a, rl b 30, c, d, rfl, rfl, rfl, rfl, rfl, rfl, by omega, HN2.out.symm, HW6.out, HX6.out⟩ | ((repeat apply Exists.intro); exact ⟨⟨i + 1, _, a, rl b 30, c, d, rfl, rfl, rfl, rfl, rfl, rfl, by omega, HN2.out.symm, HW6.out, HX6.out⟩, rfl⟩)
              have HFX : Hid (sf i b c d = xo (xo b c) d ∧ sk i = 3395469782) := by constructor <;> simp [sf, sk, z0, z1, z2]
              have f1 := div_ne (show i / 20 ≠ 1 by omega)
              have f2 := div_ne (show i / 20 ≠ 2 by omega)
              have f3 := div_eq (show i / 20 = 3 by omega)
              rw [HFX.out.1, HFX.out.2] at HN2
              clear z0 z1 z2
              go_wp2_with fail
              refine ext_region (by kernel_rfl) (by kernel_rfl) ?_
              repeat (go_big_quiet_step ((go_at_call 22; with_reducible exact ext_call _ (HT5.out _ _))))
              refine wpQuiet_nil ?_
              rintro _ ⟨v, hv⟩
              subst hv
              have HW5 := Lib.hid (HW.out.below v.below)
              have HX5 := Lib.hid (HX.out.trans (v.below.mono HX.out.size))
              generalize v.to = w5 at HW5 HX5 ⊢
              clear fs hne HW HX v
              go_wp2_with fail
              refine (HT30.out _ _).mono ?_
              rintro r w6 ⟨rfl, hb⟩
              have HW6 := Lib.hid (HW5.out.below hb)
              have HX6 := Lib.hid (HX5.out.trans (hb.mono HX5.out.size))
              clear hb HW5 HX5
              go_wp2_with fail
              rw [show ((i : Int) + 1) = ((i + 1 : Nat) : Int) by omega]
              refine ⟨?_, by simp [RowKit.intOf]; omega⟩
              first | exact ⟨i + 1, _, a, rl b 30, c, d, rfl, rfl, rfl, rfl, rfl, rfl, by omega, HN2.out.symm, HW6.out, HX6.out⟩ | ((repeat apply Exists.intro); exact ⟨⟨i + 1, _, a, rl b 30, c, d, rfl, rfl, rfl, rfl, rfl, rfl, by omega, HN2.out.symm, HW6.out, HX6.out⟩, rfl⟩)
            · obtain rfl : i = 80 := by omega
              rw [← HR.out] at HQ
              have hh := HH.out.below HX.out
              have hh0 := hh.cell (j := 0) (v := .int .u32 a0) rfl
              have hh1 := hh.cell (j := 1) (v := .int .u32 b0) rfl
              have hh2 := hh.cell (j := 2) (v := .int .u32 c0) rfl
              have hh3 := hh.cell (j := 3) (v := .int .u32 d0) rfl
              have hh4 := hh.cell (j := 4) (v := .int .u32 e0) rfl
              have fh0 : ∀ x : Ext wr, x.to.cell? ⟨g, 0, none⟩ = _ := fun x => ext_cell x hh0
              have fh1 : ∀ x : Ext wr, x.to.cell? ⟨g, 1, none⟩ = _ := fun x => ext_cell x hh1
              have fh2 : ∀ x : Ext wr, x.to.cell? ⟨g, 2, none⟩ = _ := fun x => ext_cell x hh2
              have fh3 : ∀ x : Ext wr, x.to.cell? ⟨g, 3, none⟩ = _ := fun x => ext_cell x hh3
              have fh4 : ∀ x : Ext wr, x.to.cell? ⟨g, 4, none⟩ = _ := fun x => ext_cell x hh4
              have hne := extSome wr
              clear hh hh0 hh1 hh2 hh3 hh4 HR HM HW
              go_wp2_with fail
              refine ext_tail 25 (by kernel_rfl) (by kernel_rfl) ?_
              simp only [List.take_succ_cons, List.take_zero, List.drop_succ_cons, List.drop_zero]
              repeat (go_big_quiet_step ((fail)))
              refine wpQuiet_nil ?_
              rintro _ ⟨v, hv⟩
              subst hv
              have HX5 := Lib.hid (HX.out.trans (v.below.mono HX.out.size))
              have HO5 := Lib.hid ((HO.out.below HX5.out).alloc (.cells (c5 (ad5 (a0, b0, c0, d0, e0) (a, b, c, d, e))) 28))
              have HB5 := Lib.hid (HB.out.trans (HX5.out.mono HB.out.size))
              have HB6 := Lib.hid (HB5.out.alloc HB5.out.size (.cells (c5 (ad5 (a0, b0, c0, d0, e0) (a, b, c, d, e))) 28))
              have HN5 := Lib.hid (Has.new 28 (c5 (ad5 (a0, b0, c0, d0, e0) (a, b, c, d, e))) v.to)
              generalize v.to = w5 at HO5 HB5 HB6 HN5 HX5 ⊢
              clear fh0 fh1 fh2 fh3 fh4 hne v
              have HN6 : Hid (Has 28 (c5 (sd F (k + 1))) w5.heap.size (w5.alloc (.cells (c5 (ad5 (a0, b0, c0, d0, e0) (a, b, c, d, e))) 28))) := by
                show Has _ _ _ _
                rw [HQ.out]
                exact HN5.out
              go_wp2_with fail
              exact ⟨⟨k + 1, p + 64, w5.heap.size, rfl, by go_num, by omega, HP2.out, HN6.out, HO5.out, HB6.out⟩, by simp [RowKit.intOf]; omega⟩
    · obtain rfl : p = L := by omega
      have hk : k = n := by have := HP.out; have := HLn.out; omega
      subst hk
      have HPW := Lib.hid (fun W hB hl => bytes_true (ws5 (sd F k)) g 5 W (show 0 < 5 by omega) (show 5 ≤ 100 by omega) (sd_w _ _) hB hl)
      have HE := Lib.hid (HMd.out k rfl)
      go_wp2_with fail
      refine (HPW.out _ (fun j hj => HH.out.cell (ws5_cell _ j hj)) HH.out.lt).mono ?_
      rintro r w3 ⟨rfl, hb3⟩
      have HB3 := Lib.hid (HB.out.trans (hb3.mono HB.out.size))
      clear hb3
      rw [HE.out]
      go_wp2_with fail
      go_ret
      exact ⟨rfl, HB3.out⟩
end Go.Proofs.YtnoabinodojkiaaDoor
