/- Contract of package digest's sha1Add: eighty steps, and the sum. No condition. -/
import Derived.Test.YtnoabinodojkiaaDoorDj
namespace Go.Proofs.YtnoabinodojkiaaDoor
open Go.RowKit Go.Lib By Dg

def c5 (q : Q5) : Array Value := #[.int .u32 q.1, .int .u32 q.2.1, .int .u32 q.2.2.1, .int .u32 q.2.2.2.1, .int .u32 q.2.2.2.2]
theorem c5_one (q : Q5) : (c5 q).all (·.oneCell') = true := by simp [c5, Value.oneCell']
theorem ad_four (a b c d e : Int) : ad (ad (ad (ad a b) c) d) e = ((a + b + c + d) % 4294967296 + e) % 4294967296 := by unfold ad; omega
/-- As far as k of the five are added. -/
def adk5 (q r : Q5) (k : Nat) : Q5 := (if 0 < k then ad q.1 r.1 else q.1, if 1 < k then ad q.2.1 r.2.1 else q.2.1, if 2 < k then ad q.2.2.1 r.2.2.1 else q.2.2.1, if 3 < k then ad q.2.2.2.1 r.2.2.2.1 else q.2.2.2.1, if 4 < k then ad q.2.2.2.2 r.2.2.2.2 else q.2.2.2.2)
def wt (m : Nat → Int) (t : Nat) : Int := (spl m 80).getD t 0

set_option maxHeartbeats 1000000 in
set_option maxRecDepth 100000 in
theorem sha1Add_any (q : Q5) (m : Nat → Int) (w : World) : Calls Tryd.prog 25 #[.agg (c5 q), .agg (c16 m)] w fun e w' => e = .returned (.agg (c5 (sc m q))) ∧ Below w.heap.size w w' := by
  obtain ⟨R, hR⟩ : ∃ R, R = c5 (sc m q) := ⟨_, rfl⟩
  have HR := Lib.hid hR
  rw [← hR]
  clear hR
  have H0 := Lib.hid (fun c2 c3 => has4 w 44 33 44 44 (c5 q) (c16 m) c2 c3)
  have HSP := Lib.hid (fun W => sha1Spread_any m W)
  have hz := zero80
  have HZ : Hid ((cw (List.replicate 80 0)).size = (cw (spl m 80)).size) := by show _ = _; rw [cw_size, cw_size, spl_length, List.length_replicate]
  generalize cw (List.replicate 80 0) = Z at hz HZ
  unfold c5
  rw [show c16 m = #[.int .u32 (m 0), .int .u32 (m 1), .int .u32 (m 2), .int .u32 (m 3), .int .u32 (m 4), .int .u32 (m 5), .int .u32 (m 6), .int .u32 (m 7), .int .u32 (m 8), .int .u32 (m 9), .int .u32 (m 10), .int .u32 (m 11), .int .u32 (m 12), .int .u32 (m 13), .int .u32 (m 14), .int .u32 (m 15)] from rfl]
  go_enter Tryd.func25, Tryd.ntmps25
  go_wp2_with fail
  refine (HSP.out _).mono ?_
  rintro r w1 ⟨rfl, hb⟩
  have HA1 := Lib.hid ((H0.out (c5 (0, 0, 0, 0, 0)) (c5 q)).1.below hb)
  have HZ1 := Lib.hid ((H0.out (c5 (0, 0, 0, 0, 0)) (c5 q)).2.2.1.below hb)
  have HW1 := Lib.hid ((H0.out (c5 (0, 0, 0, 0, 0)) (c5 q)).2.2.2.1.below hb)
  have hB0 := (H0.out (c5 (0, 0, 0, 0, 0)) (c5 q)).2.2.2.2
  have HB1 := Lib.hid (hB0.trans (hb.mono hB0.size))
  have hlt := HW1.out.lt
  clear hb hB0
  have HA2 := Lib.hid ((HA1.out.alloc (.cells Z 66)).rowOther (g := w1.heap.size) (by omega) (cw (spl m 80)))
  have HZ2 := Lib.hid ((HZ1.out.alloc (.cells Z 66)).rowOther (g := w1.heap.size) (by omega) (cw (spl m 80)))
  have HW2 := Lib.hid ((HW1.out.alloc (.cells Z 66)).rowOther (g := w1.heap.size) (by omega) (cw (spl m 80)))
  have HN1 := Lib.hid (Has.new 66 Z w1)
  have HS2 := Lib.hid (HN1.out.row (cw (spl m 80)))
  have HB2 := Lib.hid (below_setRow (g := w1.heap.size) (HB1.out.alloc (by omega) (.cells Z 66)) (by omega) (cw (spl m 80)))
  go_wp2_with (refine wpList_store_row rfl 66 _ _ rfl w1.heap.size (cw (spl m 80)) rfl rfl 66 _ HN1.out (by rw [cw_size, spl_length]; kernel_rfl) HZ.out (cw_one _) ?_)
  generalize hN : w1.heap.size = N at HA2 HZ2 HW2 HS2 HB2 hlt ⊢
  generalize (w1.alloc (.cells Z 66)).setRow N (cw (spl m 80)) = w2 at HA2 HZ2 HW2 HS2 HB2 ⊢
  clear HA1 HZ1 HW1 HB1 HN1 hN hz HZ H0 HSP
  go_loopw [15] (fun i wr => ∃ k : Nat, i = .int .i64 k ∧ k ≤ 80 ∧ Hid (Has 44 (c5 q) w.heap.size wr) ∧ Hid (Has 66 (cw (spl m 80)) N wr) ∧ Hid (Has 44 (c5 (0, 0, 0, 0, 0)) (w.heap.size + 1 + 1) wr) ∧ Hid (Has 44 (c5 (sr (wt m) q k)) (w.heap.size + 1 + 1 + 1) wr) ∧ Hid (Below w.heap.size w wr)) (fun i _ => 80 - (RowKit.intOf i).toNat)
  case atStart => exact ⟨0, rfl, by omega, HA2.out, HS2.out, HZ2.out, HW2.out, HB2.out⟩
  case round =>
    clear HA2 HZ2 HW2 HS2 HB2
    obtain ⟨k, rfl, hk, HA, HM, HZ, HW, HB⟩ := hrel
    by_cases hlt8 : k < 80
    · obtain ⟨⟨a, b, c, d, e⟩, hq⟩ : ∃ r, r = sr (wt m) q k := ⟨_, rfl⟩
      have HN : Hid (c5 (sr (wt m) q (k + 1)) = c5 (ss (wt m) k (a, b, c, d, e))) := by show _ = _; rw [hq]; rfl
      rw [← hq] at HW
      clear hq
      have HMX := Lib.hid (fun W => sha1Mix_any k a b c d e W hlt8)
      have hi2 : (k : Int) < 80 := by omega
      go_wp2_with (refine wpList_load_row rfl 44 _ rfl (w.heap.size + 1 + 1 + 1) rfl 44 _ (0, 0) _ HW.out Tryd.underlying44 rfl (by kernel_rfl) ?_)
      refine (HMX.out _).mono ?_
      rintro r w2 ⟨rfl, hb2⟩
      have HB2 := Lib.hid (HB.out.trans (hb2.mono HB.out.size))
      have HA2 := Lib.hid (HA.out.below hb2)
      have HM2 := Lib.hid (HM.out.below hb2)
      have HZ2 := Lib.hid (HZ.out.below hb2)
      have HW2 := Lib.hid (HW.out.below hb2)
      clear hb2 HA HM HZ HW HB HMX
      have HN2 : Hid (c5 (sr (wt m) q (k + 1)) = c5 (((rl a 5 + sf k b c d + e + wt m k) % 4294967296 + sk k) % 4294967296, a, rl b 30, c, d)) := by
        show _ = _
        rw [HN.out, ← ad_four]
        rfl
      have hw0 := HW2.out.cell (j := 0) (v := .int .u32 a) rfl
      have hw1 := HW2.out.cell (j := 1) (v := .int .u32 b) rfl
      have hw2 := HW2.out.cell (j := 2) (v := .int .u32 c) rfl
      have hw3 := HW2.out.cell (j := 3) (v := .int .u32 d) rfl
      have hw4 := HW2.out.cell (j := 4) (v := .int .u32 e) rfl
      have hm := HM2.out.cell (cw_at _ (j := k) (by rw [spl_length]; exact hlt8))
      change _ = some (Value.int .u32 (wt m k)) at hm
      generalize sf k b c d = f at HN2 ⊢
      generalize wt m k = x at hm HN2
      generalize sk k = y at HN2 ⊢
      have HRO := Lib.hid (fun X W => rot_any X 5 (by omega) W)
      have HRP := Lib.hid (fun X W => rot_any X 30 (by omega) W)
      have fw0 : ∀ x : Ext w2, x.to.cell? ⟨w.heap.size + 1 + 1 + 1, 0, none⟩ = _ := fun x => ext_cell x hw0
      have fw4 : ∀ x : Ext w2, x.to.cell? ⟨w.heap.size + 1 + 1 + 1, 4, none⟩ = _ := fun x => ext_cell x hw4
      have fm : ∀ x : Ext w2, x.to.cell? ⟨N, k, none⟩ = _ := fun x => ext_cell x hm
      have hne := extSome w2
      have HQ0 := Lib.hid hw0
      have HQ := Lib.hid hw1
      have HQ2 := Lib.hid hw2
      have HQ3 := Lib.hid hw3
      clear hw0 hw1 hw2 hw3 hw4 hm
      go_wp2_with fail
      refine ext_region (by kernel_rfl) (by kernel_rfl) ?_
      repeat (go_big_quiet_step ((go_at_call 31; with_reducible exact ext_same _ (HRO.out _ _))))
      refine wpQuiet_nil ?_
      rintro _ ⟨v, hv⟩
      subst hv
      have HA5 := Lib.hid (HA2.out.below v.below)
      have HM5 := Lib.hid (HM2.out.below v.below)
      have HZ5 := Lib.hid (HZ2.out.below v.below)
      have HW5 := Lib.hid (HW2.out.below v.below)
      have HB5 := Lib.hid (HB2.out.trans (v.below.mono HB2.out.size))
      have hw0 := ext_cell v HQ0.out
      have hw1 := ext_cell v HQ.out
      have hw2 := ext_cell v HQ2.out
      have hw3 := ext_cell v HQ3.out
      generalize ((rl a 5 + f + e + x) % 4294967296 + y) % 4294967296 = t at HN2 ⊢
      generalize v.to = w5 at HA5 HM5 HZ5 HW5 HB5 hw0 hw1 hw2 hw3 ⊢
      clear fw0 fw4 fm hne HQ0 HQ HQ2 HQ3 HRO v HA2 HM2 HZ2 HW2 HB2
      have fw0 : ∀ x : Ext w5, x.to.cell? ⟨w.heap.size + 1 + 1 + 1, 0, none⟩ = _ := fun x => ext_cell x hw0
      have fw1 : ∀ x : Ext w5, x.to.cell? ⟨w.heap.size + 1 + 1 + 1, 1, none⟩ = _ := fun x => ext_cell x hw1
      have fw2 : ∀ x : Ext w5, x.to.cell? ⟨w.heap.size + 1 + 1 + 1, 2, none⟩ = _ := fun x => ext_cell x hw2
      have fw3 : ∀ x : Ext w5, x.to.cell? ⟨w.heap.size + 1 + 1 + 1, 3, none⟩ = _ := fun x => ext_cell x hw3
      have hne := extSome w5
      clear hw0 hw1 hw2 hw3
      go_wp2_with fail
      refine ext_tail 11 (by kernel_rfl) (by kernel_rfl) ?_
      simp only [List.take_succ_cons, List.take_zero, List.drop_succ_cons, List.drop_zero]
      repeat (go_big_quiet_step ((go_at_call 31; with_reducible exact ext_same _ (HRP.out _ _))))
      refine wpQuiet_nil ?_
      rintro _ ⟨v, hv⟩
      subst hv
      have HA6 := Lib.hid ((HA5.out.below v.below).rowOther (g := w.heap.size + 1 + 1 + 1) (by omega) (c5 (t, a, rl b 30, c, d)))
      have HM6 := Lib.hid ((HM5.out.below v.below).rowOther (g := w.heap.size + 1 + 1 + 1) (by omega) (c5 (t, a, rl b 30, c, d)))
      have HZ6 := Lib.hid ((HZ5.out.below v.below).rowOther (g := w.heap.size + 1 + 1 + 1) (by omega) (c5 (t, a, rl b 30, c, d)))
      have HW5b := Lib.hid (HW5.out.below v.below)
      have HW6 := Lib.hid (HW5b.out.row (c5 (t, a, rl b 30, c, d)))
      have HB6 := Lib.hid (below_setRow (g := w.heap.size + 1 + 1 + 1) (HB5.out.trans (v.below.mono HB5.out.size)) (by omega) (c5 (t, a, rl b 30, c, d)))
      generalize v.to = w7 at HA6 HM6 HZ6 HW5b HW6 HB6 ⊢
      clear fw0 fw1 fw2 fw3 hne v
      go_wp2_with (refine wpList_store_row rfl 44 _ _ rfl (w.heap.size + 1 + 1 + 1) _ rfl rfl 44 _ HW5b.out (by kernel_rfl) rfl (c5_one (t, a, rl b 30, c, d)) ?_)
      exact ⟨⟨k + 1, by go_num, by omega, HA6.out, HM6.out, HZ6.out, by rw [HN2.out]; exact HW6.out, HB6.out⟩, by simp [RowKit.intOf]; omega⟩
    · obtain rfl : k = 80 := by omega
      have HE : Hid (R = c5 (adk5 q (sr (wt m) q 80) 5)) := by
        show _ = _
        rw [HR.out]; rfl
      generalize sr (wt m) q 80 = r at HW HE
      go_wp2_with fail
      clear HM
      go_loopw [50] (fun i wr => ∃ k : Nat, i = .int .i64 k ∧ k ≤ 5 ∧ Hid (Has 44 (c5 (adk5 q r k)) w.heap.size wr) ∧ Hid (Has 44 (c5 (0, 0, 0, 0, 0)) (w.heap.size + 1 + 1) wr) ∧ Hid (Has 44 (c5 r) (w.heap.size + 1 + 1 + 1) wr) ∧ Hid (Below w.heap.size w wr)) (fun i _ => 5 - (RowKit.intOf i).toNat)
      case atStart => exact ⟨0, rfl, by omega, HA.out, HZ.out, HW.out, HB.out⟩
      case round =>
        clear HA HZ HW HB
        rename_i wr0 _
        obtain ⟨k, rfl, hk, HA, HZ, HW, HB⟩ := hrel
        have h5 : k = 0 ∨ k = 1 ∨ k = 2 ∨ k = 3 ∨ k = 4 ∨ k = 5 := by omega
        rcases h5 with rfl | rfl | rfl | rfl | rfl | rfl
        · have ha := HA.out.cell (j := 0) (v := .int .u32 q.1) rfl
          have hf := HA.out.frozen (j := 0)
          have hw := HW.out.cell (j := 0) (v := .int .u32 r.1) rfl
          have HN : Hid (∀ W, Has 44 (c5 (adk5 q r 0)) w.heap.size W → Has 44 (c5 (adk5 q r 1)) w.heap.size (W.setCell ⟨w.heap.size, 0, none⟩ (.int .u32 ((q.1 + r.1) % 4294967296)))) := fun W h => h.set _
          have HDr := Lib.hid (below_drewN wr)
          go_wp2_with fail
          go_region
          go_wp2_with fail
          exact ⟨⟨1, by go_num, by omega, HN.out _ (HA.out.drewN 1), (HZ.out.drewN 1).other (a := ⟨w.heap.size, 0, none⟩) (show w.heap.size + 1 + 1 ≠ w.heap.size by omega) _, (HW.out.drewN 1).other (a := ⟨w.heap.size, 0, none⟩) (show w.heap.size + 1 + 1 + 1 ≠ w.heap.size by omega) _, (HB.out.trans ((HDr.out 1).mono HB.out.size)).setCell (by simp) _⟩, by simp [RowKit.intOf]⟩
        · have ha := HA.out.cell (j := 1) (v := .int .u32 q.2.1) rfl
          have hf := HA.out.frozen (j := 1)
          have hw := HW.out.cell (j := 1) (v := .int .u32 r.2.1) rfl
          have HN : Hid (∀ W, Has 44 (c5 (adk5 q r 1)) w.heap.size W → Has 44 (c5 (adk5 q r 2)) w.heap.size (W.setCell ⟨w.heap.size, 1, none⟩ (.int .u32 ((q.2.1 + r.2.1) % 4294967296)))) := fun W h => h.set _
          have HDr := Lib.hid (below_drewN wr)
          go_wp2_with fail
          go_region
          go_wp2_with fail
          exact ⟨⟨2, by go_num, by omega, HN.out _ (HA.out.drewN 1), (HZ.out.drewN 1).other (a := ⟨w.heap.size, 1, none⟩) (show w.heap.size + 1 + 1 ≠ w.heap.size by omega) _, (HW.out.drewN 1).other (a := ⟨w.heap.size, 1, none⟩) (show w.heap.size + 1 + 1 + 1 ≠ w.heap.size by omega) _, (HB.out.trans ((HDr.out 1).mono HB.out.size)).setCell (by simp) _⟩, by simp [RowKit.intOf]⟩
        · have ha := HA.out.cell (j := 2) (v := .int .u32 q.2.2.1) rfl
          have hf := HA.out.frozen (j := 2)
          have hw := HW.out.cell (j := 2) (v := .int .u32 r.2.2.1) rfl
          have HN : Hid (∀ W, Has 44 (c5 (adk5 q r 2)) w.heap.size W → Has 44 (c5 (adk5 q r 3)) w.heap.size (W.setCell ⟨w.heap.size, 2, none⟩ (.int .u32 ((q.2.2.1 + r.2.2.1) % 4294967296)))) := fun W h => h.set _
          have HDr := Lib.hid (below_drewN wr)
          go_wp2_with fail
          go_region
          go_wp2_with fail
          exact ⟨⟨3, by go_num, by omega, HN.out _ (HA.out.drewN 1), (HZ.out.drewN 1).other (a := ⟨w.heap.size, 2, none⟩) (show w.heap.size + 1 + 1 ≠ w.heap.size by omega) _, (HW.out.drewN 1).other (a := ⟨w.heap.size, 2, none⟩) (show w.heap.size + 1 + 1 + 1 ≠ w.heap.size by omega) _, (HB.out.trans ((HDr.out 1).mono HB.out.size)).setCell (by simp) _⟩, by simp [RowKit.intOf]⟩
        · have ha := HA.out.cell (j := 3) (v := .int .u32 q.2.2.2.1) rfl
          have hf := HA.out.frozen (j := 3)
          have hw := HW.out.cell (j := 3) (v := .int .u32 r.2.2.2.1) rfl
          have HN : Hid (∀ W, Has 44 (c5 (adk5 q r 3)) w.heap.size W → Has 44 (c5 (adk5 q r 4)) w.heap.size (W.setCell ⟨w.heap.size, 3, none⟩ (.int .u32 ((q.2.2.2.1 + r.2.2.2.1) % 4294967296)))) := fun W h => h.set _
          have HDr := Lib.hid (below_drewN wr)
          go_wp2_with fail
          go_region
          go_wp2_with fail
          exact ⟨⟨4, by go_num, by omega, HN.out _ (HA.out.drewN 1), (HZ.out.drewN 1).other (a := ⟨w.heap.size, 3, none⟩) (show w.heap.size + 1 + 1 ≠ w.heap.size by omega) _, (HW.out.drewN 1).other (a := ⟨w.heap.size, 3, none⟩) (show w.heap.size + 1 + 1 + 1 ≠ w.heap.size by omega) _, (HB.out.trans ((HDr.out 1).mono HB.out.size)).setCell (by simp) _⟩, by simp [RowKit.intOf]⟩
        · have ha := HA.out.cell (j := 4) (v := .int .u32 q.2.2.2.2) rfl
          have hf := HA.out.frozen (j := 4)
          have hw := HW.out.cell (j := 4) (v := .int .u32 r.2.2.2.2) rfl
          have HN : Hid (∀ W, Has 44 (c5 (adk5 q r 4)) w.heap.size W → Has 44 (c5 (adk5 q r 5)) w.heap.size (W.setCell ⟨w.heap.size, 4, none⟩ (.int .u32 ((q.2.2.2.2 + r.2.2.2.2) % 4294967296)))) := fun W h => h.set _
          have HDr := Lib.hid (below_drewN wr)
          go_wp2_with fail
          go_region
          go_wp2_with fail
          exact ⟨⟨5, by go_num, by omega, HN.out _ (HA.out.drewN 1), (HZ.out.drewN 1).other (a := ⟨w.heap.size, 4, none⟩) (show w.heap.size + 1 + 1 ≠ w.heap.size by omega) _, (HW.out.drewN 1).other (a := ⟨w.heap.size, 4, none⟩) (show w.heap.size + 1 + 1 + 1 ≠ w.heap.size by omega) _, (HB.out.trans ((HDr.out 1).mono HB.out.size)).setCell (by simp) _⟩, by simp [RowKit.intOf]⟩
        · have HB2 := Lib.hid (below_setRow (g := w.heap.size + 1 + 1) HB.out (by omega) (c5 (adk5 q r 5)))
          have HR2 := Lib.hid (HZ.out.row (c5 (adk5 q r 5)))
          have HA2 := HA.out
          rw [← HE.out] at HB2 HR2 HA2
          have HO : Hid (R.all (·.oneCell') = true ∧ R.size = 5) := by rw [HE.out]; exact ⟨c5_one _, rfl⟩
          have HA3 := Lib.hid HA2
          clear HA2
          go_wp2_with (first | (refine wpList_load_row rfl 44 _ rfl w.heap.size rfl 44 _ (0, 0) _ HA3.out Tryd.underlying44 rfl (by rw [HO.out.2]; kernel_rfl) ?_) | (refine wpList_store_row rfl 44 _ _ rfl (w.heap.size + 1 + 1) _ rfl rfl 44 _ HZ.out (by rw [HO.out.2]; kernel_rfl) HO.out.2.symm HO.out.1 ?_))
          exact bodyPost_ret (results_cell_row Tryd.results25 _ _ (w.heap.size + 1 + 1) 44 _ (0, 0) _ rfl HR2.out Tryd.underlying44 rfl (by rw [HO.out.2]; kernel_rfl)) rfl ⟨rfl, HB2.out⟩
end Go.Proofs.YtnoabinodojkiaaDoor
