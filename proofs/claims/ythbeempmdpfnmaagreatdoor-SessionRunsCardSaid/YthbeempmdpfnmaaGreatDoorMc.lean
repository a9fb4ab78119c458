/- Contracts: Md5, Salted of package digest. Conditions: those of each theorem's head. -/
import Derived.Test.YthbeempmdpfnmaaGreatDoorMb

set_option maxRecDepth 100000
set_option maxHeartbeats 1000000
namespace Go.Proofs.YthbeempmdpfnmaaGreatDoor.M
open Go.RowKit Go.Lib By Dg
/-- The two tables. -/
structure Gd (w : World) : Prop where
  sines : ∀ k, k < 64 → w.cell? ⟨1, k, none⟩ = some (.int .u32 (kk k))
  turns : ∀ k, k < 16 → w.cell? ⟨2, k, none⟩ = some (.int .i64 ((turnsL.getD k 0 : Nat) : Int))
theorem Gd.below {w w' : World} (h : Gd w) (hb : Below w.heap.size w w') : Gd w' :=
  ⟨fun k hk => (hb.cell (World.block_lt_of_cell? _ _ (h.sines k hk))).trans (h.sines k hk), fun k hk => (hb.cell (World.block_lt_of_cell? _ _ (h.turns k hk))).trans (h.turns k hk)⟩
theorem rr_lt (i : Nat) : rr i < 32 := by
  unfold rr
  by_cases h : i / 16 * 4 + i % 4 < 16
  · generalize i / 16 * 4 + i % 4 = j at h
    have : j = 0 ∨ j = 1 ∨ j = 2 ∨ j = 3 ∨ j = 4 ∨ j = 5 ∨ j = 6 ∨ j = 7 ∨ j = 8 ∨ j = 9 ∨ j = 10 ∨ j = 11 ∨ j = 12 ∨ j = 13 ∨ j = 14 ∨ j = 15 := by omega
    rcases this with rfl | rfl | rfl | rfl | rfl | rfl | rfl | rfl | rfl | rfl | rfl | rfl | rfl | rfl | rfl | rfl <;> decide
  · rw [List.getD_eq_getElem?_getD, List.getElem?_eq_none (by show 16 ≤ _; omega)]
    decide
def c4 (q : Q) : Array Value := #[.int .u32 q.1, .int .u32 q.2.1, .int .u32 q.2.2.1, .int .u32 q.2.2.2]
theorem c4_one (q : Q) : (c4 q).all (·.oneCell') = true := by simp [c4, Value.oneCell']
theorem ad_three (a b c d : Int) : ad (ad (ad a b) c) d = (a + b + c + d) % 4294967296 := by unfold ad; omega
/-- As far as k of the four are added. -/
def adk (q r : Q) (k : Nat) : Q := (if 0 < k then ad q.1 r.1 else q.1, if 1 < k then ad q.2.1 r.2.1 else q.2.1, if 2 < k then ad q.2.2.1 r.2.2.1 else q.2.2.1, if 3 < k then ad q.2.2.2 r.2.2.2 else q.2.2.2)
theorem has4 (w : World) (T0 T1 T2 T3 : TypeId) (c0 c1 c2 c3 : Array Value) : Has T0 c0 w.heap.size ((((w.alloc (.cells c0 T0)).alloc (.cells c1 T1)).alloc (.cells c2 T2)).alloc (.cells c3 T3)) ∧ Has T1 c1 (w.heap.size + 1) ((((w.alloc (.cells c0 T0)).alloc (.cells c1 T1)).alloc (.cells c2 T2)).alloc (.cells c3 T3)) ∧
    Has T2 c2 (w.heap.size + 1 + 1) ((((w.alloc (.cells c0 T0)).alloc (.cells c1 T1)).alloc (.cells c2 T2)).alloc (.cells c3 T3)) ∧ Has T3 c3 (w.heap.size + 1 + 1 + 1) ((((w.alloc (.cells c0 T0)).alloc (.cells c1 T1)).alloc (.cells c2 T2)).alloc (.cells c3 T3)) ∧
    Below w.heap.size w ((((w.alloc (.cells c0 T0)).alloc (.cells c1 T1)).alloc (.cells c2 T2)).alloc (.cells c3 T3)) := by
  have e1 : (w.alloc (.cells c0 T0)).heap.size = w.heap.size + 1 := by simp
  have e2 : ((w.alloc (.cells c0 T0)).alloc (.cells c1 T1)).heap.size = w.heap.size + 1 + 1 := by simp
  have e3 : (((w.alloc (.cells c0 T0)).alloc (.cells c1 T1)).alloc (.cells c2 T2)).heap.size = w.heap.size + 1 + 1 + 1 := by simp
  refine ⟨(((Has.new T0 c0 w).alloc _).alloc _).alloc _, ?_, ?_, ?_, ((((Below.refl _ w).alloc (Nat.le_refl _) _).alloc (by omega) _).alloc (by omega) _).alloc (by omega) _⟩
  · rw [← e1]; exact ((Has.new T1 c1 _).alloc _).alloc _
  · rw [← e2]; exact (Has.new T2 c2 _).alloc _
  · rw [← e3]; exact Has.new T3 c3 _
theorem md5Add_any (q : Q) (m : Nat → Int) (w : World) (hG : Gd w) : Calls Tryz.prog 80 #[.agg (c4 q), .agg (c16 m)] w fun e w' => e = .returned (.agg (c4 (mc m q))) ∧ Below w.heap.size w w' := by
  have HG := Lib.hid hG
  obtain ⟨R, hR⟩ : ∃ R, R = c4 (mc m q) := ⟨_, rfl⟩
  have HR := Lib.hid hR
  rw [← hR]
  clear hG hR
  unfold c4 c16
  have H0 := fun c0 c1 c2 c3 => has4 w 100 104 100 100 c0 c1 c2 c3
  replace H0 := Lib.hid H0
  go_enter Tryz.func80, Tryz.ntmps80
  go_wp2_with fail
  go_loopw [12] (fun i wr => ∃ k : Nat, i = .int .i64 k ∧ k ≤ 64 ∧ Hid (Has 100 (c4 q) w.heap.size wr) ∧ Hid (Has 104 (c16 m) (w.heap.size + 1) wr) ∧ Hid (Has 100 (c4 (0, 0, 0, 0)) (w.heap.size + 1 + 1) wr) ∧ Hid (Has 100 (c4 (mr m q k)) (w.heap.size + 1 + 1 + 1) wr) ∧ Hid (Below w.heap.size w wr)) (fun i _ => 64 - (RowKit.intOf i).toNat)
  case atStart => exact ⟨0, rfl, by omega, (H0.out _ _ _ _).1, (H0.out _ _ _ _).2.1, (H0.out _ _ _ _).2.2.1, (H0.out _ _ _ _).2.2.2.1, (H0.out _ _ _ _).2.2.2.2⟩
  case round =>
    obtain ⟨k, rfl, hk, HA, HM, HZ, HW, HB⟩ := hrel
    by_cases hlt : k < 64
    · obtain ⟨⟨a, b, c, d⟩, hq⟩ : ∃ r, r = mr m q k := ⟨_, rfl⟩
      have HN : Hid (c4 (mr m q (k + 1)) = c4 (ms m k (a, b, c, d))) := by show _ = _; rw [hq]; rfl
      rw [← hq] at HW
      clear hq
      have HMX := Lib.hid (fun W => md5Mix_any k a b c d W hlt)
      have hi2 : (k : Int) < 64 := by omega
      go_wp2_with (refine wpList_load_row rfl 100 _ rfl (w.heap.size + 1 + 1 + 1) rfl 100 _ (0, 0) _ HW.out Tryz.underlying100 rfl (by kernel_rfl) ?_)
      refine (HMX.out _).mono ?_
      rintro r w2 ⟨rfl, hb2⟩
      have HB2 := Lib.hid (HB.out.trans (hb2.mono HB.out.size))
      have HA2 := Lib.hid (HA.out.below hb2)
      have HM2 := Lib.hid (HM.out.below hb2)
      have HZ2 := Lib.hid (HZ.out.below hb2)
      have HW2 := Lib.hid (HW.out.below hb2)
      have HG2 := Lib.hid (HG.out.below HB2.out)
      clear hb2 HA HM HZ HW HB HMX
      have hg := mg_lt hlt
      have HN2 : Hid (c4 (mr m q (k + 1)) = c4 (d, (b + rl ((a + mf k b c d + kk k + m (mg k)) % 4294967296) (rr k)) % 4294967296, b, c)) := by
        show _ = _
        rw [HN.out, ← ad_three]
        rfl
      have hw0 := HW2.out.cell (j := 0) (v := .int .u32 a) rfl
      have hw1 := HW2.out.cell (j := 1) (v := .int .u32 b) rfl
      have hw2 := HW2.out.cell (j := 2) (v := .int .u32 c) rfl
      have hw3 := HW2.out.cell (j := 3) (v := .int .u32 d) rfl
      have hm := HM2.out.cell (c16_at m hg)
      have hs := HG2.out.sines k hlt
      have ht := HG2.out.turns (k / 16 * 4 + k % 4) (by omega)
      rw [show turnsL.getD (k / 16 * 4 + k % 4) 0 = rr k from rfl] at ht
      have hr := rr_lt k
      generalize mf k b c d = f at HN2 ⊢
      generalize m (mg k) = x at hm HN2
      generalize kk k = y at hs HN2
      generalize rr k = z at ht hr HN2
      generalize mg k = j at hm hg
      have HRO := Lib.hid (fun X W => rot_any X z hr W)
      have fw0 : ∀ x : Ext w2, x.to.cell? ⟨w.heap.size + 1 + 1 + 1, 0, none⟩ = _ := fun x => ext_cell x hw0
      have fm : ∀ x : Ext w2, x.to.cell? ⟨w.heap.size + 1, j, none⟩ = _ := fun x => ext_cell x hm
      have fs : ∀ x : Ext w2, x.to.cell? ⟨1, k, none⟩ = _ := fun x => ext_cell x hs
      have ft : ∀ x : Ext w2, x.to.cell? ⟨2, k / 16 * 4 + k % 4, none⟩ = _ := fun x => ext_cell x ht
      have hne := extSome w2
      have HQ := Lib.hid hw1
      have HQ2 := Lib.hid hw2
      have HQ3 := Lib.hid hw3
      clear hw0 hw1 hw2 hw3 hm hs ht
      go_wp2_with fail
      refine ext_region (by kernel_rfl) (by kernel_rfl) ?_
      repeat (go_big_quiet_step ((go_at_call 88; with_reducible exact ext_same _ (HRO.out _ _))))
      refine wpQuiet_nil ?_
      rintro _ ⟨v, hv⟩
      subst hv
      have HA5 := Lib.hid (HA2.out.below v.below)
      have HM5 := Lib.hid (HM2.out.below v.below)
      have HZ5 := Lib.hid (HZ2.out.below v.below)
      have HW5 := Lib.hid (HW2.out.below v.below)
      have HB5 := Lib.hid (HB2.out.trans (v.below.mono HB2.out.size))
      have hw1 := ext_cell v HQ.out
      have hw2 := ext_cell v HQ2.out
      have hw3 := ext_cell v HQ3.out
      generalize rl ((a + f + y + x) % 4294967296) z = t at HN2 ⊢
      generalize v.to = w5 at HA5 HM5 HZ5 HW5 HB5 hw1 hw2 hw3 ⊢
      clear fw0 fm fs ft hne HQ HQ2 HQ3 HRO v
      have HA6 := Lib.hid (HA5.out.rowOther (g := w.heap.size + 1 + 1 + 1) (by omega) (c4 (d, (b + t) % 4294967296, b, c)))
      have HM6 := Lib.hid (HM5.out.rowOther (g := w.heap.size + 1 + 1 + 1) (by omega) (c4 (d, (b + t) % 4294967296, b, c)))
      have HZ6 := Lib.hid (HZ5.out.rowOther (g := w.heap.size + 1 + 1 + 1) (by omega) (c4 (d, (b + t) % 4294967296, b, c)))
      have HW6 := Lib.hid (HW5.out.row (c4 (d, (b + t) % 4294967296, b, c)))
      have HB6 := Lib.hid (below_setRow (g := w.heap.size + 1 + 1 + 1) HB5.out (by omega) (c4 (d, (b + t) % 4294967296, b, c)))
      go_wp2_with (refine wpList_store_row rfl 100 _ _ rfl (w.heap.size + 1 + 1 + 1) _ rfl rfl 100 _ HW5.out (by kernel_rfl) rfl (c4_one (d, (b + t) % 4294967296, b, c)) ?_)
      exact ⟨⟨k + 1, by go_num, by omega, HA6.out, HM6.out, HZ6.out, by rw [HN2.out]; exact HW6.out, HB6.out⟩, by simp [RowKit.intOf]; omega⟩
    · obtain rfl : k = 64 := by omega
      have HE : Hid (R = c4 (adk q (mr m q 64) 4)) := by
        show _ = _
        rw [HR.out]; rfl
      generalize mr m q 64 = r at HW HE
      go_wp2_with fail
      clear HM
      go_loopw [53] (fun i wr => ∃ k : Nat, i = .int .i64 k ∧ k ≤ 4 ∧ Hid (Has 100 (c4 (adk q r k)) w.heap.size wr) ∧ Hid (Has 100 (c4 (0, 0, 0, 0)) (w.heap.size + 1 + 1) wr) ∧ Hid (Has 100 (c4 r) (w.heap.size + 1 + 1 + 1) wr) ∧ Hid (Below w.heap.size w wr)) (fun i _ => 4 - (RowKit.intOf i).toNat)
      case atStart => exact ⟨0, rfl, by omega, HA.out, HZ.out, HW.out, HB.out⟩
      case round =>
        clear HA HZ HW HB
        rename_i wr0 _
        obtain ⟨k, rfl, hk, HA, HZ, HW, HB⟩ := hrel
        have h4 : k = 0 ∨ k = 1 ∨ k = 2 ∨ k = 3 ∨ k = 4 := by omega
        rcases h4 with rfl | rfl | rfl | rfl | rfl
        · have ha := HA.out.cell (j := 0) (v := .int .u32 q.1) rfl
          have hf := HA.out.frozen (j := 0)
          have hw := HW.out.cell (j := 0) (v := .int .u32 r.1) rfl
          have HN : Hid (∀ W, Has 100 (c4 (adk q r 0)) w.heap.size W → Has 100 (c4 (adk q r 1)) w.heap.size (W.setCell ⟨w.heap.size, 0, none⟩ (.int .u32 ((q.1 + r.1) % 4294967296)))) := fun W h => h.set _
          have HDr := Lib.hid (below_drewN wr)
          go_wp2_with fail
          go_region
          go_wp2_with fail
          exact ⟨⟨1, by go_num, by omega, HN.out _ (HA.out.drewN 1), (HZ.out.drewN 1).other (a := ⟨w.heap.size, 0, none⟩) (show w.heap.size + 1 + 1 ≠ w.heap.size by omega) _, (HW.out.drewN 1).other (a := ⟨w.heap.size, 0, none⟩) (show w.heap.size + 1 + 1 + 1 ≠ w.heap.size by omega) _, (HB.out.trans ((HDr.out 1).mono HB.out.size)).setCell (by simp) _⟩, by simp [RowKit.intOf]⟩
        · have ha := HA.out.cell (j := 1) (v := .int .u32 q.2.1) rfl
          have hf := HA.out.frozen (j := 1)
          have hw := HW.out.cell (j := 1) (v := .int .u32 r.2.1) rfl
          have HN : Hid (∀ W, Has 100 (c4 (adk q r 1)) w.heap.size W → Has 100 (c4 (adk q r 2)) w.heap.size (W.setCell ⟨w.heap.size, 1, none⟩ (.int .u32 ((q.2.1 + r.2.1) % 4294967296)))) := fun W h => h.set _
          have HDr := Lib.hid (below_drewN wr)
          go_wp2_with fail
          go_region
          go_wp2_with fail
          exact ⟨⟨2, by go_num, by omega, HN.out _ (HA.out.drewN 1), (HZ.out.drewN 1).other (a := ⟨w.heap.size, 1, none⟩) (show w.heap.size + 1 + 1 ≠ w.heap.size by omega) _, (HW.out.drewN 1).other (a := ⟨w.heap.size, 1, none⟩) (show w.heap.size + 1 + 1 + 1 ≠ w.heap.size by omega) _, (HB.out.trans ((HDr.out 1).mono HB.out.size)).setCell (by simp) _⟩, by simp [RowKit.intOf]⟩
        · have ha := HA.out.cell (j := 2) (v := .int .u32 q.2.2.1) rfl
          have hf := HA.out.frozen (j := 2)
          have hw := HW.out.cell (j := 2) (v := .int .u32 r.2.2.1) rfl
          have HN : Hid (∀ W, Has 100 (c4 (adk q r 2)) w.heap.size W → Has 100 (c4 (adk q r 3)) w.heap.size (W.setCell ⟨w.heap.size, 2, none⟩ (.int .u32 ((q.2.2.1 + r.2.2.1) % 4294967296)))) := fun W h => h.set _
          have HDr := Lib.hid (below_drewN wr)
          go_wp2_with fail
          go_region
          go_wp2_with fail
          exact ⟨⟨3, by go_num, by omega, HN.out _ (HA.out.drewN 1), (HZ.out.drewN 1).other (a := ⟨w.heap.size, 2, none⟩) (show w.heap.size + 1 + 1 ≠ w.heap.size by omega) _, (HW.out.drewN 1).other (a := ⟨w.heap.size, 2, none⟩) (show w.heap.size + 1 + 1 + 1 ≠ w.heap.size by omega) _, (HB.out.trans ((HDr.out 1).mono HB.out.size)).setCell (by simp) _⟩, by simp [RowKit.intOf]⟩
        · have ha := HA.out.cell (j := 3) (v := .int .u32 q.2.2.2) rfl
          have hf := HA.out.frozen (j := 3)
          have hw := HW.out.cell (j := 3) (v := .int .u32 r.2.2.2) rfl
          have HN : Hid (∀ W, Has 100 (c4 (adk q r 3)) w.heap.size W → Has 100 (c4 (adk q r 4)) w.heap.size (W.setCell ⟨w.heap.size, 3, none⟩ (.int .u32 ((q.2.2.2 + r.2.2.2) % 4294967296)))) := fun W h => h.set _
          have HDr := Lib.hid (below_drewN wr)
          go_wp2_with fail
          go_region
          go_wp2_with fail
          exact ⟨⟨4, by go_num, by omega, HN.out _ (HA.out.drewN 1), (HZ.out.drewN 1).other (a := ⟨w.heap.size, 3, none⟩) (show w.heap.size + 1 + 1 ≠ w.heap.size by omega) _, (HW.out.drewN 1).other (a := ⟨w.heap.size, 3, none⟩) (show w.heap.size + 1 + 1 + 1 ≠ w.heap.size by omega) _, (HB.out.trans ((HDr.out 1).mono HB.out.size)).setCell (by simp) _⟩, by simp [RowKit.intOf]⟩
        · have HB2 := Lib.hid (below_setRow (g := w.heap.size + 1 + 1) HB.out (by omega) (c4 (adk q r 4)))
          have HR2 := Lib.hid (HZ.out.row (c4 (adk q r 4)))
          have HA2 := HA.out
          rw [← HE.out] at HB2 HR2 HA2
          have HO : Hid (R.all (·.oneCell') = true ∧ R.size = 4) := by rw [HE.out]; exact ⟨c4_one _, rfl⟩
          have HA3 := Lib.hid HA2
          clear HA2
          go_wp2_with (first | (refine wpList_load_row rfl 100 _ rfl w.heap.size rfl 100 _ (0, 0) _ HA3.out Tryz.underlying100 rfl (by rw [HO.out.2]; kernel_rfl) ?_) | (refine wpList_store_row rfl 100 _ _ rfl (w.heap.size + 1 + 1) _ rfl rfl 100 _ HZ.out (by rw [HO.out.2]; kernel_rfl) HO.out.2.symm HO.out.1 ?_))
          exact bodyPost_ret (results_cell_row Tryz.results80 _ _ (w.heap.size + 1 + 1) 100 _ (0, 0) _ rfl HR2.out Tryz.underlying100 rfl (by rw [HO.out.2]; kernel_rfl)) rfl ⟨rfl, HB2.out⟩
end Go.Proofs.YthbeempmdpfnmaaGreatDoor.M

namespace Go.Proofs.YthbeempmdpfnmaaGreatDoor.M
open Go.RowKit Go.Lib By Dg
theorem add_off (B j : Nat) : (⟨B, 0, none⟩ : Addr).add j = ⟨B, j, none⟩ := by unfold Addr.add; split <;> simp_all
end Go.Proofs.YthbeempmdpfnmaaGreatDoor.M

namespace Go.Proofs.YthbeempmdpfnmaaGreatDoor.M
open Go.RowKit Go.Lib By Dg
theorem filled (g : Bool) (s : ByteArray) : (s ++ fil g s.size).data.toList = fl g s.data.toList := by
  rw [append_list, ← len_size s]
  simp [fil, fl]
theorem filled_size (g : Bool) (s : ByteArray) : (s ++ fil g s.size).size = 64 * ch s.size := by
  rw [Lib.size_eq, filled, fl_ch, len_size]
theorem ws4_cell (q : Q) : ∀ j, j < (ws4 q).length → (c4 q)[j]? = some (.int .u32 ((ws4 q).getD j 0)) := by
  intro j hj
  have : j = 0 ∨ j = 1 ∨ j = 2 ∨ j = 3 := by have : j < 4 := hj; omega
  rcases this with rfl | rfl | rfl | rfl <;> rfl
theorem md5_any (s : ByteArray) (w : World) (hs : s.size ≤ 100000) (hG : Gd w) : Calls Tryz.prog 67 #[.string s] w fun e w' => e = .returned (.string ⟨(md5 s.data.toList).toArray⟩) ∧ Below w.heap.size w w' := by
  have HG := Lib.hid hG
  clear hG
  have HFil := Lib.hid (fun W => filling_any false s.size W hs)
  have hF2 := filled_size false s
  have HF := Lib.hid (filled false s)
  have hc := ch_le hs
  have hs2 : s.size ≤ 100000 := hs
  have HB0 := Lib.hid (fun o => (Below.refl _ w).alloc (Nat.le_refl _) o)
  have H0 := Lib.hid (Has.new 100 (c4 (md (fl false s.data.toList) 0)) w)
  generalize hfi : fil false s.size = fi at hF2 HF HFil
  clear hfi
  generalize hn : ch s.size = n at hF2 hc
  have HN := Lib.hid hn
  clear hn
  have hfs : fi.size ≤ 200000 := by rw [ByteArray.size_append] at hF2; omega
  go_enter Tryz.func67, Tryz.ntmps67
  go_wp2_with fail
  refine (HFil.out _).mono ?_
  rintro r w1 ⟨rfl, hb⟩
  have H1 := Lib.hid (H0.out.below hb)
  have HB1 := Lib.hid ((HB0.out _).trans (hb.mono (HB0.out _).size))
  clear hb H0 HB0
  generalize hFF : s ++ fi = F at HF
  have HFF := Lib.hid hFF
  have hFs : F.size = 64 * n := by rw [← hFF]; exact hF2
  have hdv : (F.size : Int) / 64 = (n : Int) := by omega
  have hF3 : F.size ≤ 200000 := by omega
  have HFs := Lib.hid hFs
  have hn2 : (n : Int) ≤ 2000 := by omega
  clear hFs hF2
  go_wp2_with fail
  clear hFF
  go_loopw [15] (fun i wr => ∃ k : Nat, i = .int .i64 k ∧ k ≤ n ∧ Hid (Has 100 (c4 (md (fl false s.data.toList) k)) w.heap.size wr) ∧ Hid (Below w.heap.size w wr)) (fun i _ => n - (RowKit.intOf i).toNat)
  case atStart => exact ⟨0, rfl, by omega, H1.out, HB1.out⟩
  case round =>
    clear H1 HB1
    obtain ⟨k, rfl, hk, HA, HB⟩ := hrel
    by_cases hlt : k < n
    · obtain ⟨q, hq⟩ : ∃ q, q = md (fl false s.data.toList) k := ⟨_, rfl⟩
      have HQ : Hid (md (fl false s.data.toList) (k + 1) = mc (fun j => wd false (fl false s.data.toList) (64 * k + 4 * j)) q) := by show _ = _; rw [hq]; rfl
      rw [← hq] at HA
      clear hq
      have HWD : Hid (∀ W, Calls Tryz.prog 81 #[.int .i64 0, .string F, .int .i64 k] W fun e w' => e = .returned (.agg (c16 (fun j => wd false (fl false s.data.toList) (64 * k + 4 * j)))) ∧ Below W.heap.size W w') := fun W => by
        have := words_any false F k W (by have := HFs.out; omega) hF3
        rw [HF.out] at this
        exact this
      generalize (fun j => wd false (fl false s.data.toList) (64 * k + 4 * j)) = m at HWD HQ
      have HMA : Hid (∀ x : Ext wr, Calls Tryz.prog 80 #[.agg #[.int .u32 q.1, .int .u32 q.2.1, .int .u32 q.2.2.1, .int .u32 q.2.2.2], .agg (c16 m)] x.to fun e w' => e = .returned (.agg (c4 (mc m q))) ∧ Below x.to.heap.size x.to w') := fun x => md5Add_any q m x.to (HG.out.below (HB.out.trans (x.below.mono HB.out.size)))
      have f0 : ∀ x : Ext wr, x.to.cell? ⟨w.heap.size, 0, none⟩ = _ := fun x => ext_cell x (HA.out.cell (j := 0) (v := .int .u32 q.1) rfl)
      have f1 : ∀ x : Ext wr, x.to.cell? ⟨w.heap.size, 1, none⟩ = _ := fun x => ext_cell x (HA.out.cell (j := 1) (v := .int .u32 q.2.1) rfl)
      have f2 : ∀ x : Ext wr, x.to.cell? ⟨w.heap.size, 2, none⟩ = _ := fun x => ext_cell x (HA.out.cell (j := 2) (v := .int .u32 q.2.2.1) rfl)
      have f3 : ∀ x : Ext wr, x.to.cell? ⟨w.heap.size, 3, none⟩ = _ := fun x => ext_cell x (HA.out.cell (j := 3) (v := .int .u32 q.2.2.2) rfl)
      have hne := extSome wr
      have HL : Hid (c4 (mc m q) = c4 (mc m q)) := rfl
      have HN2 := Lib.hid hlt
      clear hc hfs hF3
      go_wp2_with fail
      refine ext_tail 5 (by kernel_rfl) (by kernel_rfl) ?_
      simp only [List.take_succ_cons, List.take_zero, List.drop_succ_cons, List.drop_zero]
      repeat (go_big_quiet_step (first | (go_at_call 81; with_reducible exact ext_call _ (HWD.out _)) | (go_at_call 80; with_reducible exact ext_call _ (HMA.out _))))
      refine wpQuiet_nil ?_
      rintro _ ⟨v, hv⟩
      subst hv
      have HA1 := Lib.hid (HA.out.below v.below)
      have HA2 := Lib.hid (HA1.out.row (c4 (mc m q)))
      have HB2 := Lib.hid (below_setRow (g := w.heap.size) (HB.out.trans (v.below.mono HB.out.size)) (Nat.le_refl _) (c4 (mc m q)))
      generalize v.to = w5 at HA1 HA2 HB2 ⊢
      clear v f0 f1 f2 f3 hne HMA HWD
      go_wp2_with (refine wpList_store_row rfl 100 _ _ rfl w.heap.size _ rfl rfl 100 _ HA1.out (by kernel_rfl) rfl (c4_one _) ?_)
      exact ⟨⟨k + 1, by go_num, by omega, by rw [HQ.out]; exact HA2.out, HB2.out⟩, by simp [RowKit.intOf]; omega⟩
    · obtain rfl : k = n := by omega
      have HPW := Lib.hid (fun W hB hl => putWords_any false (ws4 (md (fl false s.data.toList) k)) w.heap.size 4 W (show 4 ≤ 100 by omega) (md_w _ _) hB hl)
      have HE : Hid (outp false (ws4 (md (fl false s.data.toList) k)) = md5 s.data.toList) := by show _ = _; rw [md5, len_size, HN.out]
      go_wp2_with fail
      refine (HPW.out _ (fun j hj => HA.out.cell (ws4_cell _ j hj)) HA.out.lt).mono ?_
      rintro r w3 ⟨rfl, hb3⟩
      have HB3 := Lib.hid (HB.out.trans (hb3.mono HB.out.size))
      clear hb3
      rw [HE.out]
      go_wp2_with fail
      go_ret
      exact ⟨rfl, HB3.out⟩
theorem salted_any (k p t : ByteArray) (w : World) (hs : k.size + p.size + t.size ≤ 90000) (hG : Gd w) : Calls Tryz.prog 58 #[.string k, .string p, .string t] w fun e w' => e = .returned (.string ⟨(md5 (k.data.toList ++ md5 p.data.toList ++ t.data.toList)).toArray⟩) ∧ Below w.heap.size w w' := by
  have H1 := Lib.hid (md5_any p w (by omega) hG)
  have HG := Lib.hid hG
  have hm : (⟨(md5 p.data.toList).toArray⟩ : ByteArray).size = 16 := by rw [Lib.size_eq]; exact md5_length _
  have HE : Hid ((k ++ ⟨(md5 p.data.toList).toArray⟩ ++ t).data.toList = k.data.toList ++ md5 p.data.toList ++ t.data.toList) := by show _ = _; rw [append_list, append_list]
  generalize (⟨(md5 p.data.toList).toArray⟩ : ByteArray) = m at H1 hm HE
  have H2 := Lib.hid (fun W hg => md5_any (k ++ m ++ t) W (by rw [ByteArray.size_append, ByteArray.size_append]; omega) hg)
  rw [HE.out] at H2
  generalize (⟨(md5 (k.data.toList ++ md5 p.data.toList ++ t.data.toList)).toArray⟩ : ByteArray) = R at H2 ⊢
  clear hG
  go_enter Tryz.func58, Tryz.ntmps58
  go_wp2_with fail
  refine H1.out.mono ?_
  rintro r w1 ⟨rfl, hb⟩
  have HB := Lib.hid hb
  have HG1 := Lib.hid (HG.out.below hb)
  clear hb
  go_wp2_with fail
  refine (H2.out _ HG1.out).mono ?_
  rintro r w2 ⟨rfl, hb⟩
  have HB2 := Lib.hid (HB.out.trans (hb.mono HB.out.size))
  clear hb
  go_wp2_with fail
  go_ret
  exact ⟨rfl, HB2.out⟩
end Go.Proofs.YthbeempmdpfnmaaGreatDoor.M
