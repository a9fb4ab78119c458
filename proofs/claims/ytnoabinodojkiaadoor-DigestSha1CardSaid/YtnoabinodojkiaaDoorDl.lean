/- Contracts of package digest's Md5, Sha1 and Salted. Condition: a text has at most 100000 bytes; the two tables hold what the program's text lays. -/
import Derived.Test.YtnoabinodojkiaaDoorDk
namespace Go.Proofs.YtnoabinodojkiaaDoor
open Go.RowKit Go.Lib By Dg

theorem filled (g : Bool) (s : ByteArray) : (s ++ fil g s.size).data.toList = fl g s.data.toList := by
  rw [append_list, ← len_size s]
  simp [fil, fl]
theorem filled_size (g : Bool) (s : ByteArray) : (s ++ fil g s.size).size = 64 * ch s.size := by
  rw [Lib.size_eq, filled, fl_ch, len_size]
theorem ws4_cell (q : Q) : ∀ j, j < (ws4 q).length → (c4 q)[j]? = some (.int .u32 ((ws4 q).getD j 0)) := by
  intro j hj
  have : j = 0 ∨ j = 1 ∨ j = 2 ∨ j = 3 := by have : j < 4 := hj; omega
  rcases this with rfl | rfl | rfl | rfl <;> rfl
theorem ws5_cell (q : Q5) : ∀ j, j < (ws5 q).length → (c5 q)[j]? = some (.int .u32 ((ws5 q).getD j 0)) := by
  intro j hj
  have : j = 0 ∨ j = 1 ∨ j = 2 ∨ j = 3 ∨ j = 4 := by have : j < 5 := hj; omega
  rcases this with rfl | rfl | rfl | rfl | rfl <;> rfl

set_option maxHeartbeats 1000000 in
theorem md5_any (s : ByteArray) (w : World) (hs : s.size ≤ 100000) (hG : Gd w) : Calls Tryd.prog 8 #[.string s] w fun e w' => e = .returned (.string ⟨(md5 s.data.toList).toArray⟩) ∧ Below w.heap.size w w' := by
  have HG := Lib.hid hG
  clear hG
  have HFil := Lib.hid (fun W => filling_any false s.size W hs)
  have hF2 := filled_size false s
  have HF := Lib.hid (filled false s)
  have hc := ch_le hs
  have hs2 : s.size ≤ 100000 := hs
  have HB0 := Lib.hid (fun o => (Below.refl _ w).alloc (Nat.le_refl _) o)
  have H0 := Lib.hid (Has.new 29 (c4 (md (fl false s.data.toList) 0)) w)
  generalize hfi : fil false s.size = fi at hF2 HF HFil
  clear hfi
  generalize hn : ch s.size = n at hF2 hc
  have HN := Lib.hid hn
  clear hn
  have hfs : fi.size ≤ 200000 := by rw [ByteArray.size_append] at hF2; omega
  go_enter Tryd.func8, Tryd.ntmps8
  go_wp2_with fail
  refine (HFil.out _).mono ?_
  rintro r w1 ⟨rfl, hb⟩
  have H1 := Lib.hid (H0.out.below hb)
  have HB1 := Lib.hid ((HB0.out _).trans (hb.mono (HB0.out _).size))
  clear hb H0 HB0
  generalize hFF : s ++ fi = F at HF
  have HFF := Lib.hid hFF
  have hFs : F.size = 64 * n := by rw [← hFF]; exact hF2
  have hdv : (F.size : Int) / 64 = (n : Int) := by omega
  have hF3 : F.size ≤ 200000 := by omega
  have HFs := Lib.hid hFs
  have hn2 : (n : Int) ≤ 2000 := by omega
  clear hFs hF2
  go_wp2_with fail
  clear hFF
  go_loopw [15] (fun i wr => ∃ k : Nat, i = .int .i64 k ∧ k ≤ n ∧ Hid (Has 29 (c4 (md (fl false s.data.toList) k)) w.heap.size wr) ∧ Hid (Below w.heap.size w wr)) (fun i _ => n - (RowKit.intOf i).toNat)
  case atStart => exact ⟨0, rfl, by omega, H1.out, HB1.out⟩
  case round =>
    clear H1 HB1
    obtain ⟨k, rfl, hk, HA, HB⟩ := hrel
    by_cases hlt : k < n
    · obtain ⟨q, hq⟩ : ∃ q, q = md (fl false s.data.toList) k := ⟨_, rfl⟩
      have HQ : Hid (md (fl false s.data.toList) (k + 1) = mc (fun j => wd false (fl false s.data.toList) (64 * k + 4 * j)) q) := by show _ = _; rw [hq]; rfl
      rw [← hq] at HA
      clear hq
      have HWD : Hid (∀ W, Calls Tryd.prog 17 #[.int .i64 0, .string F, .int .i64 k] W fun e w' => e = .returned (.agg (c16 (fun j => wd false (fl false s.data.toList) (64 * k + 4 * j)))) ∧ Below W.heap.size W w') := fun W => by
        have := words_any false F k W (by have := HFs.out; omega) hF3
        rw [HF.out] at this
        exact this
      generalize (fun j => wd false (fl false s.data.toList) (64 * k + 4 * j)) = m at HWD HQ
      have HMA : Hid (∀ x : Ext wr, Calls Tryd.prog 16 #[.agg #[.int .u32 q.1, .int .u32 q.2.1, .int .u32 q.2.2.1, .int .u32 q.2.2.2], .agg (c16 m)] x.to fun e w' => e = .returned (.agg (c4 (mc m q))) ∧ Below x.to.heap.size x.to w') := fun x => md5Add_any q m x.to (HG.out.below (HB.out.trans (x.below.mono HB.out.size)))
      have f0 : ∀ x : Ext wr, x.to.cell? ⟨w.heap.size, 0, none⟩ = _ := fun x => ext_cell x (HA.out.cell (j := 0) (v := .int .u32 q.1) rfl)
      have f1 : ∀ x : Ext wr, x.to.cell? ⟨w.heap.size, 1, none⟩ = _ := fun x => ext_cell x (HA.out.cell (j := 1) (v := .int .u32 q.2.1) rfl)
      have f2 : ∀ x : Ext wr, x.to.cell? ⟨w.heap.size, 2, none⟩ = _ := fun x => ext_cell x (HA.out.cell (j := 2) (v := .int .u32 q.2.2.1) rfl)
      have f3 : ∀ x : Ext wr, x.to.cell? ⟨w.heap.size, 3, none⟩ = _ := fun x => ext_cell x (HA.out.cell (j := 3) (v := .int .u32 q.2.2.2) rfl)
      have hne := extSome wr
      have HL : Hid (c4 (mc m q) = c4 (mc m q)) := rfl
      have HN2 := Lib.hid hlt
      clear hc hfs hF3
      go_wp2_with fail
      refine ext_tail 5 (by kernel_rfl) (by kernel_rfl) ?_
      simp only [List.take_succ_cons, List.take_zero, List.drop_succ_cons, List.drop_zero]
      repeat (go_big_quiet_step (first | (go_at_call 17; with_reducible exact ext_call _ (HWD.out _)) | (go_at_call 16; with_reducible exact ext_call _ (HMA.out _))))
      refine wpQuiet_nil ?_
      rintro _ ⟨v, hv⟩
      subst hv
      have HA1 := Lib.hid (HA.out.below v.below)
      have HA2 := Lib.hid (HA1.out.row (c4 (mc m q)))
      have HB2 := Lib.hid (below_setRow (g := w.heap.size) (HB.out.trans (v.below.mono HB.out.size)) (Nat.le_refl _) (c4 (mc m q)))
      generalize v.to = w5 at HA1 HA2 HB2 ⊢
      clear v f0 f1 f2 f3 hne HMA HWD
      go_wp2_with (refine wpList_store_row rfl 29 _ _ rfl w.heap.size _ rfl rfl 29 _ HA1.out (by kernel_rfl) rfl (c4_one _) ?_)
      exact ⟨⟨k + 1, by go_num, by omega, by rw [HQ.out]; exact HA2.out, HB2.out⟩, by simp [RowKit.intOf]; omega⟩
    · obtain rfl : k = n := by omega
      have HPW := Lib.hid (fun W hB hl => putWords_any false (ws4 (md (fl false s.data.toList) k)) w.heap.size 4 W (show 4 ≤ 100 by omega) (md_w _ _) hB hl)
      have HE : Hid (outp false (ws4 (md (fl false s.data.toList) k)) = md5 s.data.toList) := by show _ = _; rw [md5, len_size, HN.out]
      go_wp2_with fail
      refine (HPW.out _ (fun j hj => HA.out.cell (ws4_cell _ j hj)) HA.out.lt).mono ?_
      rintro r w3 ⟨rfl, hb3⟩
      have HB3 := Lib.hid (HB.out.trans (hb3.mono HB.out.size))
      clear hb3
      rw [HE.out]
      go_wp2_with fail
      go_ret
      exact ⟨rfl, HB3.out⟩

set_option maxHeartbeats 1000000 in
theorem sha1_any (s : ByteArray) (w : World) (hs : s.size ≤ 100000) : Calls Tryd.prog 10 #[.string s] w fun e w' => e = .returned (.string ⟨(sha1 s.data.toList).toArray⟩) ∧ Below w.heap.size w w' := by
  have HFil := Lib.hid (fun W => filling_any true s.size W hs)
  have hF2 := filled_size true s
  have HF := Lib.hid (filled true s)
  have hc := ch_le hs
  have hs2 : s.size ≤ 100000 := hs
  have HB0 := Lib.hid (fun o => (Below.refl _ w).alloc (Nat.le_refl _) o)
  have H0 := Lib.hid (Has.new 44 (c5 (sd (fl true s.data.toList) 0)) w)
  generalize hfi : fil true s.size = fi at hF2 HF HFil
  clear hfi
  generalize hn : ch s.size = n at hF2 hc
  have HN := Lib.hid hn
  clear hn
  have hfs : fi.size ≤ 200000 := by rw [ByteArray.size_append] at hF2; omega
  go_enter Tryd.func10, Tryd.ntmps10
  go_wp2_with fail
  refine (HFil.out _).mono ?_
  rintro r w1 ⟨rfl, hb⟩
  have H1 := Lib.hid (H0.out.below hb)
  have HB1 := Lib.hid ((HB0.out _).trans (hb.mono (HB0.out _).size))
  clear hb H0 HB0
  generalize hFF : s ++ fi = F at HF
  have HFF := Lib.hid hFF
  have hFs : F.size = 64 * n := by rw [← hFF]; exact hF2
  have hdv : (F.size : Int) / 64 = (n : Int) := by omega
  have hF3 : F.size ≤ 200000 := by omega
  have HFs := Lib.hid hFs
  have hn2 : (n : Int) ≤ 2000 := by omega
  clear hFs hF2
  go_wp2_with fail
  clear hFF
  go_loopw [15] (fun i wr => ∃ k : Nat, i = .int .i64 k ∧ k ≤ n ∧ Hid (Has 44 (c5 (sd (fl true s.data.toList) k)) w.heap.size wr) ∧ Hid (Below w.heap.size w wr)) (fun i _ => n - (RowKit.intOf i).toNat)
  case atStart => exact ⟨0, rfl, by omega, H1.out, HB1.out⟩
  case round =>
    clear H1 HB1
    obtain ⟨k, rfl, hk, HA, HB⟩ := hrel
    by_cases hlt : k < n
    · obtain ⟨q, hq⟩ : ∃ q, q = sd (fl true s.data.toList) k := ⟨_, rfl⟩
      have HQ : Hid (sd (fl true s.data.toList) (k + 1) = sc (fun j => wd true (fl true s.data.toList) (64 * k + 4 * j)) q) := by show _ = _; rw [hq]; rfl
      rw [← hq] at HA
      clear hq
      have HWD : Hid (∀ W, Calls Tryd.prog 17 #[.int .i64 1, .string F, .int .i64 k] W fun e w' => e = .returned (.agg (c16 (fun j => wd true (fl true s.data.toList) (64 * k + 4 * j)))) ∧ Below W.heap.size W w') := fun W => by
        have := words_any true F k W (by have := HFs.out; omega) hF3
        rw [HF.out] at this
        exact this
      generalize (fun j => wd true (fl true s.data.toList) (64 * k + 4 * j)) = m at HWD HQ
      have HMA : Hid (∀ x : Ext wr, Calls Tryd.prog 25 #[.agg #[.int .u32 q.1, .int .u32 q.2.1, .int .u32 q.2.2.1, .int .u32 q.2.2.2.1, .int .u32 q.2.2.2.2], .agg (c16 m)] x.to fun e w' => e = .returned (.agg (c5 (sc m q))) ∧ Below x.to.heap.size x.to w') := fun x => sha1Add_any q m x.to
      have f0 : ∀ x : Ext wr, x.to.cell? ⟨w.heap.size, 0, none⟩ = _ := fun x => ext_cell x (HA.out.cell (j := 0) (v := .int .u32 q.1) rfl)
      have f1 : ∀ x : Ext wr, x.to.cell? ⟨w.heap.size, 1, none⟩ = _ := fun x => ext_cell x (HA.out.cell (j := 1) (v := .int .u32 q.2.1) rfl)
      have f2 : ∀ x : Ext wr, x.to.cell? ⟨w.heap.size, 2, none⟩ = _ := fun x => ext_cell x (HA.out.cell (j := 2) (v := .int .u32 q.2.2.1) rfl)
      have f3 : ∀ x : Ext wr, x.to.cell? ⟨w.heap.size, 3, none⟩ = _ := fun x => ext_cell x (HA.out.cell (j := 3) (v := .int .u32 q.2.2.2.1) rfl)
      have f4 : ∀ x : Ext wr, x.to.cell? ⟨w.heap.size, 4, none⟩ = _ := fun x => ext_cell x (HA.out.cell (j := 4) (v := .int .u32 q.2.2.2.2) rfl)
      have hne := extSome wr
      have HL : Hid (c5 (sc m q) = c5 (sc m q)) := rfl
      have HN2 := Lib.hid hlt
      clear hc hfs hF3
      go_wp2_with fail
      refine ext_tail 5 (by kernel_rfl) (by kernel_rfl) ?_
      simp only [List.take_succ_cons, List.take_zero, List.drop_succ_cons, List.drop_zero]
      repeat (go_big_quiet_step (first | (go_at_call 17; with_reducible exact ext_call _ (HWD.out _)) | (go_at_call 25; with_reducible exact ext_call _ (HMA.out _))))
      refine wpQuiet_nil ?_
      rintro _ ⟨v, hv⟩
      subst hv
      have HA1 := Lib.hid (HA.out.below v.below)
      have HA2 := Lib.hid (HA1.out.row (c5 (sc m q)))
      have HB2 := Lib.hid (below_setRow (g := w.heap.size) (HB.out.trans (v.below.mono HB.out.size)) (Nat.le_refl _) (c5 (sc m q)))
      generalize v.to = w5 at HA1 HA2 HB2 ⊢
      clear v f0 f1 f2 f3 f4 hne HMA HWD
      go_wp2_with (refine wpList_store_row rfl 44 _ _ rfl w.heap.size _ rfl rfl 44 _ HA1.out (by kernel_rfl) rfl (c5_one _) ?_)
      exact ⟨⟨k + 1, by go_num, by omega, by rw [HQ.out]; exact HA2.out, HB2.out⟩, by simp [RowKit.intOf]; omega⟩
    · obtain rfl : k = n := by omega
      have HPW := Lib.hid (fun W hB hl => putWords_any true (ws5 (sd (fl true s.data.toList) k)) w.heap.size 5 W (show 5 ≤ 100 by omega) (sd_w _ _) hB hl)
      have HE : Hid (outp true (ws5 (sd (fl true s.data.toList) k)) = sha1 s.data.toList) := by show _ = _; rw [sha1, len_size, HN.out]
      go_wp2_with fail
      refine (HPW.out _ (fun j hj => HA.out.cell (ws5_cell _ j hj)) HA.out.lt).mono ?_
      rintro r w3 ⟨rfl, hb3⟩
      have HB3 := Lib.hid (HB.out.trans (hb3.mono HB.out.size))
      clear hb3
      rw [HE.out]
      go_wp2_with fail
      go_ret
      exact ⟨rfl, HB3.out⟩

theorem salted_any (k p t : ByteArray) (w : World) (hs : k.size + p.size + t.size ≤ 3000) (hG : Gd w) : Calls Tryd.prog 14 #[.string k, .string p, .string t] w fun e w' => e = .returned (.string ⟨(md5 (k.data.toList ++ md5 p.data.toList ++ t.data.toList)).toArray⟩) ∧ Below w.heap.size w w' := by
  have H1 := Lib.hid (md5_any p w (by omega) hG)
  have HG := Lib.hid hG
  have hm : (⟨(md5 p.data.toList).toArray⟩ : ByteArray).size = 16 := by rw [Lib.size_eq]; exact md5_length _
  have HE : Hid ((k ++ ⟨(md5 p.data.toList).toArray⟩ ++ t).data.toList = k.data.toList ++ md5 p.data.toList ++ t.data.toList) := by show _ = _; rw [append_list, append_list]
  generalize (⟨(md5 p.data.toList).toArray⟩ : ByteArray) = m at H1 hm HE
  have H2 := Lib.hid (fun W hg => md5_any (k ++ m ++ t) W (by rw [ByteArray.size_append, ByteArray.size_append]; omega) hg)
  rw [HE.out] at H2
  generalize (⟨(md5 (k.data.toList ++ md5 p.data.toList ++ t.data.toList)).toArray⟩ : ByteArray) = R at H2 ⊢
  clear hG
  go_enter Tryd.func14, Tryd.ntmps14
  go_wp2_with fail
  refine H1.out.mono ?_
  rintro r w1 ⟨rfl, hb⟩
  have HB := Lib.hid hb
  have HG1 := Lib.hid (HG.out.below hb)
  clear hb
  go_wp2_with fail
  refine (H2.out _ HG1.out).mono ?_
  rintro r w2 ⟨rfl, hb⟩
  have HB2 := Lib.hid (HB.out.trans (hb.mono HB.out.size))
  clear hb
  go_wp2_with fail
  go_ret
  exact ⟨rfl, HB2.out⟩
end Go.Proofs.YtnoabinodojkiaaDoor
