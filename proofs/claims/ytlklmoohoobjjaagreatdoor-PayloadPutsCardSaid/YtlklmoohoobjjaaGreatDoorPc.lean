/- The contract of payload.with: the element with these kids more, in its own row. Condition: at most 1000 kids. -/
import Derived.Test.YtlklmoohoobjjaaGreatDoorPb
namespace Go.Proofs.YtlklmoohoobjjaaGreatDoor
open Go.RowKit Go.Lib Go.Shelf Tg

set_option maxRecDepth 100000 in
set_option maxHeartbeats 8000000 in
theorem with_any (N : Nat) (S : Nat → Prop) (sp nm : ByteArray) (l : List At) (ks qs : List El) (aA aK aQ : Option Addr) (cA cK cQ : Nat) (w : World) (hN : N ≤ w.heap.size) (hO : Oe N S w sp nm l ks aA cA aK cK) (hQ : KsS (fun b => S b ∧ ob aK ks.length cK ≠ some b) w aQ qs) (hl : ks.length + qs.length ≤ 1000) :
    Calls Tryz.prog 33 #[.agg #[.string sp, .string nm, .slice aA l.length cA, .string ⟨#[]⟩, .slice aK ks.length cK], .slice aQ qs.length cQ] w (WiP N S sp nm l (ks ++ qs.map (reS sp)) aA cA (ob aK ks.length cK) w) := by
  have hsp := hO.sz.1.1
  have HEND : Hid (∀ (a : Option Addr) (n c : Nat) (W W' : World) (r : Ending), r = .returned (.agg #[.string sp, .string nm, .slice aA l.length cA, .string ⟨#[]⟩, .slice a n c]) → Wi N (fun b => S b ∧ b < w.heap.size ∧ ob aK ks.length cK ≠ some b) sp nm aA l.length cA w (ob aK ks.length cK) (ks ++ qs.map (reS sp)) a n c W →
      (∀ b, b ≠ w.heap.size + 1 → W'.heap[b]? = W.heap[b]?) → w.grownBy W' (ob aK ks.length cK) → WiP N S sp nm l (ks ++ qs.map (reS sp)) aA cA (ob aK ks.length cK) w r W') := by
    intro a n c W W' r hr h hk hg
    have hln := h.ln
    subst hln
    have hlt : ∀ b, S b ∧ b < w.heap.size ∧ ob aK ks.length cK ≠ some b → ob a (ks ++ qs.map (reS sp)).length c ≠ some b := fun b hb e => by
      rcases h.loc with h3 | h3
      · exact hb.2.2 (h3.symm.trans e)
      · have := h3 b e; omega
    refine ⟨a, c, hr, ⟨hO.sz, ?_, ?_⟩, hg, h.loc.imp id fun h3 b e => by have := h3 b e; omega⟩
    · have q : SlA (fun b => (S b ∧ ob aK ks.length cK ≠ some b) ∧ b < w.heap.size) w (.slice aA l.length cA) l := hO.at_.weak fun b hb h => ⟨h, hb⟩
      exact (q.keep fun b hb hb2 => hg.block b hb2 fun e => hb.1.2 e.symm).weak fun b _ hb => ⟨hb.1.1, hlt b ⟨hb.1.1, hb.2, hb.1.2⟩⟩
    · refine KRow.keep h.kr (fun b _ hb => ⟨hb.1, hlt b hb⟩) (fun b hb _ => hk b (by omega)) fun b e => hk b ?_
      rcases h.loc with h3 | h3
      · have := (hO.lt b (h3.symm.trans e)).2; omega
      · have := h3 b e; omega
  have hrow : ∀ b, ob aK ks.length cK = some b → b < w.heap.size := fun b e => (hO.lt b e).2
  have HROW := Lib.hid hrow
  have HNN := Lib.hid hN
  have HB0 : Hid (Wi N (fun b => S b ∧ b < w.heap.size ∧ ob aK ks.length cK ≠ some b) sp nm aA l.length cA w (ob aK ks.length cK) (ks ++ (qs.take 0).map (reS sp)) aK ks.length cK ((w.alloc (.cells #[.string sp, .string nm, .slice aA l.length cA, .string ⟨#[]⟩, .slice aK ks.length cK] 30)).alloc (.cells #[.string ⟨#[]⟩, .string ⟨#[]⟩, .slice none 0 0, .string ⟨#[]⟩, .slice none 0 0] 30))) := by
    refine ⟨gr_of (((Below.refl _ w).alloc (Nat.le_refl _) _).alloc (by simp) _) _, (Below.heap_alloc _ _ _ (by simp)).trans (box_new w _ _), ?_, by simp, ?_, .inl rfl⟩
    · have := box_new (w.alloc (.cells #[.string sp, .string nm, .slice aA l.length cA, .string ⟨#[]⟩, .slice aK ks.length cK] 30)) #[.string ⟨#[]⟩, .string ⟨#[]⟩, .slice none 0 0, .string ⟨#[]⟩, .slice none 0 0] 30
      simpa using this
    · have q : KRow N _ w _ ks := hO.kr
      have q2 := q.keep (S' := fun b => S b ∧ b < w.heap.size ∧ ob aK ks.length cK ≠ some b) (w' := w) (fun b hb h => ⟨h.1, hb, h.2⟩) (fun _ _ _ => rfl) (fun _ _ => rfl)
      simpa using q2.below (((Below.refl _ w).alloc (Nat.le_refl _) _).alloc (by simp) _)
  have HQ : Hid (∀ (W : World), w.grownBy W (ob aK ks.length cK) → KsS (fun b => S b ∧ b < w.heap.size ∧ ob aK ks.length cK ≠ some b) W aQ qs) := fun W hg => by
    have q : KsS (fun b => S b ∧ b < w.heap.size ∧ ob aK ks.length cK ≠ some b) w aQ qs := hQ.weak fun b hb h => ⟨h.1, hb, h.2⟩
    exact q.keep fun b hb hb2 => hg.block b hb2 fun e => hb.2.2 e.symm
  generalize hpost : WiP N S sp nm l (ks ++ qs.map (reS sp)) aA cA (ob aK ks.length cK) w = POST at HEND ⊢
  clear hpost hQ hrow hN hO
  go_enter Tryz.func33, Tryz.ntmps33
  go_wp2_with fail
  go_loopw [9] (fun i wr => ∃ (k : Nat) (a : Option Addr) (n c : Nat), i = .int .i64 k ∧ k ≤ qs.length ∧ Hid (Wi N (fun b => S b ∧ b < w.heap.size ∧ ob aK ks.length cK ≠ some b) sp nm aA l.length cA w (ob aK ks.length cK) (ks ++ (qs.take k).map (reS sp)) a n c wr)) (fun i _ => qs.length - (RowKit.intOf i).toNat)
  case atStart => exact ⟨0, aK, ks.length, cK, rfl, Nat.zero_le _, HB0.out⟩
  case round =>
    clear HB0
    obtain ⟨k, a, n, c, rfl, hk, HI⟩ := hrel
    by_cases hlt : k < qs.length
    · obtain ⟨b, o, v0, v1, v2, v3, v4, rfl, hb, ⟨y0, y1, y2, y3, y4⟩, hin⟩ := HQ.out wr HI.out.gr k hlt
      obtain ⟨aA1, cA1, aK1, cK1, hf⟩ := hin.out
      have HTK : Hid (ks ++ (qs.take (k + 1)).map (reS sp) = (ks ++ (qs.take k).map (reS sp)) ++ [reS sp qs[k]]) := by
        show _ = _
        rw [List.take_succ_eq_append_getElem hlt, List.map_append, List.append_assoc]; rfl
      have HRE := Lib.hid (ins_re hin hsp)
      generalize qs[k] = K at hf HTK HRE
      simp only [Value.agg.injEq] at hf
      injection hf with hf
      simp only [List.cons.injEq] at hf
      obtain ⟨rfl, rfl, rfl, rfl, rfl, _⟩ := hf
      have hwb : w.heap.size < wr.heap.size := heap_lt HI.out.eb
      have hbl : b < wr.heap.size := World.block_lt_of_cell? _ _ y0
      have HCE : Hid (Below wr.heap.size wr (wr.alloc (.cells #[.string sp, .string K.nm, .slice aA1 K.atr.length cA1, .string K.tx, .slice aK1 K.ks.length cK1] 30))) := (Below.refl _ wr).alloc (Nat.le_refl _) _
      have HI2 := Lib.hid (HI.out.st HCE.out)
      have HRE2 := Lib.hid (HRE.out.stay HCE.out)
      have HX2 := Lib.hid (box_new wr #[.string sp, .string K.nm, .slice aA1 K.atr.length cA1, .string K.tx, .slice aK1 K.ks.length cK1] 30)
      have hnn : n ≤ 999 := by
        have := HI.out.ln
        have h2 : (ks ++ (qs.take k).map (reS sp)).length = ks.length + k := by simp; omega
        omega
      clear HCE HRE hin hb
      obtain ⟨x0, x1, x2, x3, x4⟩ := bx5 HI.out.eb
      have x0b := cell_alloc x0 (.cells #[.string K.sp, .string K.nm, .slice aA1 K.atr.length cA1, .string K.tx, .slice aK1 K.ks.length cK1] 30)
      go_upto_region 5 with fail
      clear x0 x1 x2 x3 x4 x0b y0 y1 y2 y3 y4 HI
      generalize wr.alloc (.cells #[.string sp, .string K.nm, .slice aA1 K.atr.length cA1, .string K.tx, .slice aK1 K.ks.length cK1] 30) = W2 at HI2 HRE2 HX2 ⊢
      generalize wr.heap.size = P at HX2 hwb hbl ⊢
      obtain ⟨x0, x1, x2, x3, x4⟩ := bx5 HI2.out.eb
      obtain ⟨z0, z1, z2, z3, z4⟩ := bx5 HX2.out
      have HI3 := Lib.hid (HI2.out.al (.cells #[.string sp, .string K.nm, .slice aA1 K.atr.length cA1, .string K.tx, .slice aK1 K.ks.length cK1] 30))
      have HRE3 := Lib.hid (HRE2.out.stay ((Below.refl _ W2).alloc (Nat.le_refl _) (.cells #[.string sp, .string K.nm, .slice aA1 K.atr.length cA1, .string K.tx, .slice aK1 K.ks.length cK1] 30)))
      have hwl : w.heap.size < W2.heap.size := heap_lt HI2.out.eb
      clear HI2 HRE2 HX2
      obtain ⟨xs, hxs, hxk⟩ := HI3.out.kr
      have hxs' : (W2.alloc (.cells #[.string sp, .string K.nm, .slice aA1 K.atr.length cA1, .string K.tx, .slice aK1 K.ks.length cK1] 30)).ownsRow N 30 5 (.slice a n c) n xs := by
        have := hxs
        rw [← HI3.out.ln] at this
        exact this
      have HXS := Lib.hid hxs'
      have HXK := Lib.hid hxk
      clear hxs hxk hxs'
      obtain ⟨i0, hi0, hz0, hz1, hz2⟩ := info_parts infoElem
      go_wp2_with (at_builtin; go_loud (refine wpList_append_lies _ rfl _ _ 28 rfl N 30 i0 _ 5 96 Tryz.underlying28 hi0 hz0 hz1 hz2 rfl (by decide) _ n xs rfl HXS.out ⟨W2.heap.size, 0, none⟩ 1 1 [.string sp, .string K.nm, .slice aA1 K.atr.length cA1, .string K.tx, .slice aK1 K.ks.length cK1] rfl rfl (World.news_of_block (cs := #[.string sp, .string K.nm, .slice aA1 K.atr.length cA1, .string K.tx, .slice aK1 K.ks.length cK1]) (t := 30) (fr := (0, 0)) (heap_alloc_new W2 _)) (by simp [Value.oneCell']) (by decide) (by unfold maxLen; omega) (by omega) (by have := HNN.out; simp; omega) _ rfl ?_); intro g cap w5 hown hgrow hat hlt5; have HE5 := Lib.hid (HI3.out.egr HROW.out hgrow); have t5 := (bx5 HE5.out).2.2.2.2; have f5 := Lib.frozen_of_heap HE5.out 4)
      have HI5 := Lib.hid (HI3.out.app HROW.out (fun b h => ⟨h.2.1, h.2.2⟩) HXS.out HXK.out hgrow hat HRE3.out hown)
      clear hown hgrow hat hlt5 t5 f5 HE5 HI3 HRE3 HXS HXK x0 x1 x2 x3 x4 z0 z1 z2 z3 z4
      generalize w5.setCell ⟨w.heap.size, 4, none⟩ (.slice (some ⟨g, 0, none⟩) (n + 1) cap) = W6 at HI5 ⊢
      go_wp2_with fail
      go_roundw
      case rel => exact ⟨k + 1, _, _, _, by go_num, by omega, by (show Wi _ _ _ _ _ _ _ _ _ _ _ _ _ _); rw [HTK.out]; exact HI5.out⟩
      case measure => simp [RowKit.intOf]; omega
    · obtain rfl : k = qs.length := by omega
      obtain ⟨x0, x1, x2, x3, x4⟩ := bx5 HI.out.eb
      obtain ⟨q0, q1, q2, q3, q4⟩ := bx5 HI.out.rb
      have p0 := Lib.frozen_of_heap HI.out.rb 0
      have p1 := Lib.frozen_of_heap HI.out.rb 1
      have p2 := Lib.frozen_of_heap HI.out.rb 2
      have p3 := Lib.frozen_of_heap HI.out.rb 3
      have p4 := Lib.frozen_of_heap HI.out.rb 4
      have HI2 : Hid (Wi N (fun b => S b ∧ b < w.heap.size ∧ ob aK ks.length cK ≠ some b) sp nm aA l.length cA w (ob aK ks.length cK) (ks ++ qs.map (reS sp)) a n c wr) := by
        have := HI.out
        rw [List.take_of_length_le (Nat.le_refl _)] at this
        exact this
      clear HI
      go_wp2_with fail
      refine bodyPost_ret (v := .agg #[.string sp, .string nm, .slice aA l.length cA, .string ⟨#[]⟩, .slice a n c]) (by simp [results, Tryz.results33, go_sem, q0, q1, q2, q3, q4]) rfl ?_
      refine HEND.out a n c wr _ _ rfl HI2.out (fun b hb => ?_) ?_
      · rw [setCell_other hb, setCell_other hb, setCell_other hb, setCell_other hb, setCell_other hb]
      · exact gr_set (gr_set (gr_set (gr_set (gr_set HI2.out.gr (Nat.le_succ _)) (Nat.le_succ _)) (Nat.le_succ _)) (Nat.le_succ _)) (Nat.le_succ _)
end Go.Proofs.YtlklmoohoobjjaaGreatDoor
