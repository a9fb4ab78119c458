/- The contract of wharfref05.New. Condition: texts of at most 1048576 bytes, at most 1000 of them. -/
import Derived.Test.YtlklmoohoobjjaaGreatDoorQa
namespace Go.Proofs.YtlklmoohoobjjaaGreatDoor
open Go.RowKit Go.Lib Go.Shelf Tg

theorem newA_two2 {l : List ByteArray} {j : Nat} (hj : j % 2 = 0) (h : j + 1 < l.length) : newA (l.take (j + 2)) = newA (l.take j) ++ (if l[j + 1].toList.isEmpty = true then [] else [(l[j]'(by omega), l[j + 1])]) := by
  obtain ⟨k, rfl⟩ : ∃ k, j = k * 2 := ⟨j / 2, by omega⟩
  exact newA_two h
theorem newA_end {l : List ByteArray} {j : Nat} (hj : j % 2 = 0) (h : ¬ j + 1 < l.length) : newA (l.take j) = newA l := by
  by_cases h2 : l.length ≤ j
  · rw [List.take_of_length_le h2]
  · obtain ⟨k, rfl⟩ : ∃ k, j = k * 2 := ⟨j / 2, by omega⟩
    have h3 : l.length = k * 2 + 1 := by omega
    have main : ∀ (k : Nat) (l : List ByteArray), l.length = k * 2 + 1 → newA (l.take (k * 2)) = newA l := by
      intro k
      induction k with
      | zero => intro l h; match l, h with | [x], _ => rfl
      | succ k ih =>
        intro l h
        match l, h with
        | x :: y :: r, h =>
          rw [show (k + 1) * 2 = (k * 2) + 1 + 1 by omega]
          simp only [List.take_succ_cons, newA]
          rw [ih r (by simp at h; omega)]
    exact main k l h3
set_option maxRecDepth 100000 in
set_option maxHeartbeats 8000000 in
theorem rNew_any (sp nm : ByteArray) (l : List ByteArray) (a0 : Option Addr) (c0 : Nat) (w : World) (hsp : sp.size ≤ 1048576) (hnm : nm.size ≤ 1048576) (hl : l.length ≤ 1000) (hs : ∀ s ∈ l, s.size ≤ 1048576)
    (hA : ∀ i (h : i < l.length), ∃ S, a0 = some ⟨S, 0, none⟩ ∧ w.cell? ⟨S, i, none⟩ = some (.string l[i])) :
    Calls Tryz.prog 37 #[.string sp, .string nm, .slice a0 l.length c0] w (NewP sp nm l w) := by
  have HQ0 : Hid (Nw sp nm w (w.heap.size + 1) (.slice none 0 0) ((w.alloc (.cells #[.string ⟨#[]⟩, .string ⟨#[]⟩, .slice none 0 0, .string ⟨#[]⟩, .slice none 0 0] 30)).alloc (.cells #[.string sp, .string nm, .slice none 0 0, .string ⟨#[]⟩, .slice none 0 0] 30))) :=
    ⟨((Below.refl _ w).alloc (Nat.le_refl _) _).alloc (by simp) _, (Below.heap_alloc _ _ _ (by simp)).trans (box_new w _ _), (by have := box_new (w.alloc (.cells #[.string ⟨#[]⟩, .string ⟨#[]⟩, .slice none 0 0, .string ⟨#[]⟩, .slice none 0 0] 30)) #[.string sp, .string nm, .slice none 0 0, .string ⟨#[]⟩, .slice none 0 0] 30; simpa using this), Nat.lt_succ_self _⟩
  have HA := Lib.hid hA
  have HS := Lib.hid hs
  have HEND : Hid (∀ (r : Ending) (T c : Nat) (a : Option Addr) (W W' : World), r = .returned (.agg #[.string sp, .string nm, .slice a (newA l).length c, .string ⟨#[]⟩, .slice none 0 0]) → AR T (newA l) a c W → w.heap.size < T →
      (∀ b, w.heap.size < b → W'.heap[b]? = W.heap[b]?) → Below w.heap.size w W' → NewP sp nm l w r W') := by
    intro r T c a W W' hr ha hT hW hbel
    have hz : Szd sp nm ⟨#[]⟩ (newA l) := by
      have h1 := newA_len l
      refine ⟨⟨by omega, by omega, by decide, by omega⟩, fun x hx => ?_⟩
      obtain ⟨h2, h3⟩ := newA_mem hx
      have := hs _ h2
      have := hs _ h3
      omega
    have q1 : SlA (fun b => w.heap.size < b) W (.slice a (newA l).length c) (newA l) := (SlA.own ha).weak fun b _ h => by omega
    have q3 := InS.make hz q1 (SlK.nil _ W)
    exact ⟨a, c, hr, (q3.keep fun b hb _ => hW b hb).weak fun b _ h => Nat.le_of_lt h, hbel⟩
  have HR0 : Hid (∀ T W, AR T (newA (l.take (0 * 2))) none 0 W) := fun T W => World.ownsRow_nil _ _ _ _
  generalize hpost : NewP sp nm l w = POST at HEND ⊢
  clear hpost hA hs hsp hnm
  go_enter Tryz.func37, Tryz.ntmps37
  go_upto_region 2 with fail
  generalize ((w.alloc (.cells #[.string ⟨#[]⟩, .string ⟨#[]⟩, .slice none 0 0, .string ⟨#[]⟩, .slice none 0 0] 30)).alloc (.cells #[.string sp, .string nm, .slice none 0 0, .string ⟨#[]⟩, .slice none 0 0] 30)) = W0 at HQ0 ⊢
  generalize w.heap.size + 1 = T at HQ0 ⊢
  go_wp2_with fail
  go_loopw [8] (fun i wr => ∃ (j : Nat) (a : Option Addr) (c n : Nat), i = .int .i64 (j : Int) ∧ j ≤ l.length + 1 ∧ n ≤ 1000 ∧ Hid (j % 2 = 0) ∧ Hid (n = (newA (l.take j)).length) ∧ Hid (Nw sp nm w T (.slice a n c) wr) ∧ Hid (AR T (newA (l.take j)) a c wr)) (fun i _ => l.length + 2 - (RowKit.intOf i).toNat)
  case atStart => exact ⟨0, none, 0, 0, rfl, Nat.zero_le _, Nat.zero_le _, rfl, rfl, HQ0.out, HR0.out _ _⟩
  case round =>
    obtain ⟨j, a, c, n, rfl, hk, hn, HJ, HN, HQ, HR⟩ := hrel
    clear HQ0 HR0
    by_cases hlt : j + 1 < l.length
    · obtain ⟨S, rfl, y0⟩ := HA.out j (by omega)
      obtain ⟨S', hS', y1⟩ := HA.out (j + 1) hlt
      cases hS'
      have hSw := World.block_lt_of_cell? _ _ y0
      have s1 : wr.cell? ⟨S, j + 1, none⟩ = some (.string l[j + 1]) := (HQ.out.bel.cell (p := ⟨S, j + 1, none⟩) hSw).trans y1
      have z0 := HS.out _ (List.getElem_mem (show j < l.length by omega))
      have z1 := HS.out _ (List.getElem_mem hlt)
      have htwo := newA_two2 HJ.out hlt
      have HJ2 : Hid ((j + 2) % 2 = 0) := by have := HJ.out; show _ = _; omega
      have hi : ((j : Int) + 1 < l.length) := by omega
      have hm : IntKind.i64.wrap ((j : Int) + 1) = (j : Int) + 1 := wrap_in (by omega) (by omega)
      have hi0 : (j : Int) < l.length := by omega
      have hi1 : (0 : Int) ≤ (j : Int) := by omega
      have hi3 : (0 : Int) ≤ (j : Int) + 1 := by omega
      have hi4 : ((j : Int) + 1).toNat = j + 1 := by omega
      generalize l[j]'(by omega) = p1 at y0 z0 htwo
      generalize l[j + 1] = p2 at y1 s1 z1 htwo
      by_cases he : p2.toList.isEmpty = true
      · have HT2 : Hid (newA (l.take (j + 2)) = newA (l.take j)) := by
          show _ = _
          rw [htwo, if_pos he, List.append_nil]
        have he2 : (p2.toList != []) = false := by
          have : p2.toList = [] := List.isEmpty_iff.1 he
          rw [this]; rfl
        clear htwo y0 y1
        go_wp2_with fail
        go_roundw
        case rel => exact ⟨j + 2, a, c, n, by go_num, by omega, hn, HJ2.out, by (show _ = _); rw [HT2.out]; exact HN.out, HQ.out, by (show AR _ _ _ _ _); rw [HT2.out]; exact HR.out⟩
        case measure => simp [RowKit.intOf]; omega
      · have he0 : p2.toList.isEmpty = false := by simpa using he
        have HT2 : Hid (newA (l.take (j + 2)) = newA (l.take j) ++ [(p1, p2)]) := by
          show _ = _
          rw [htwo, if_neg he]
        have he2 : (p2.toList != []) = true := by
          rw [bne_iff_ne]; intro h; rw [h] at he0; cases he0
        have HR1 : Hid (wr.ownsRow (T + 1) 64 2 (.slice a n c) n (cellsA (newA (l.take j)))) := by
          have := HR.out
          unfold AR at this
          rw [← HN.out] at this
          exact this
        clear htwo he HR
        have hTl : T < wr.heap.size := heap_lt HQ.out.tb
        go_upto_region 6 with fail
        generalize hxs : cellsA (newA (l.take j)) = xs at HR1
        have HXS0 := Lib.hid hxs
        clear hxs
        refine region_psi 13 (fun j => [25, 26, 27, 28, 29, 30, 31, 32, 33, 34, 35, 36, 37].getD j 0) (psL [Pr.eq (.pointer (some ⟨T, 2, none⟩)), Pr.eq (.slice a n c), Pr.eq (.slice (some ⟨S, 0, none⟩) l.length c0), Pr.eq (.int .i64 (j : Int)), Pr.eq (.pointer (some ⟨S, j, none⟩)), Pr.eq (.string p1), Pr.eq (.slice (some ⟨S, 0, none⟩) l.length c0), Pr.eq (.int .i64 (j : Int)), Pr.eq (.int .i64 ((j : Int) + 1)), Pr.eq (.pointer (some ⟨S, j + 1, none⟩)), Pr.eq (.string p2), Pr.eq (.agg #[.string p1, .string p2]), Pr.blk (T + 1) 1 #[.string p1, .string p2] 64]) (by kernel_rfl) (by kernel_rfl) (by kernel_rfl) (by kernel_rfl) (by decide) (by kernel_rfl) (by kernel_rfl) (psL_mono _) ?_ ?_
        · intro i o hi ho q W hsz hout hbel hdep
          have HQW := HQ.out.st hbel
          have x2 := (bx5 HQW.tb).2.2.1
          have s0 := (HQW.bel.cell (p := ⟨S, j, none⟩) hSw).trans y0
          have s1 := (HQW.bel.cell (p := ⟨S, j + 1, none⟩) hSw).trans y1
          have hc : i = 0 ∨ i = 1 ∨ i = 2 ∨ i = 3 ∨ i = 4 ∨ i = 5 ∨ i = 6 ∨ i = 7 ∨ i = 8 ∨ i = 9 ∨ i = 10 ∨ i = 11 ∨ i = 12 := by omega
          rcases hc with rfl | rfl | rfl | rfl | rfl | rfl | rfl | rfl | rfl | rfl | rfl | rfl | rfl
          · -- 0
            cases ho
            have e7 : q.eval (.tmp 7) = .pointer (some ⟨T, 0, none⟩) := (hout 7 (by decide)).trans rfl
            refine gives_read (v := .pointer (some ⟨T, 2, none⟩)) ?_ rfl
            unfold execOp
            dsimp only
            rw [e7]
            go_simp
          · -- 1
            cases ho
            have e25 : q.eval (.tmp 25) = .pointer (some ⟨T, 2, none⟩) := hdep ⟨0, .data⟩ (by simp) rfl (by decide)
            refine gives_read (v := .slice a n c) ?_ rfl
            unfold execOp
            dsimp only
            rw [e25]
            go_simp
          · -- 2
            cases ho
            have e2 : q.eval (.tmp 2) = .slice (some ⟨S, 0, none⟩) l.length c0 := (hout 2 (by decide)).trans rfl
            refine gives_read (v := .slice (some ⟨S, 0, none⟩) l.length c0) ?_ rfl
            unfold execOp
            dsimp only
            rw [e2]
            go_simp
          · -- 3
            cases ho
            have e8 : q.eval (.tmp 8) = .int .i64 (j : Int) := (hout 8 (by decide)).trans rfl
            refine gives_read (v := .int .i64 (j : Int)) ?_ rfl
            unfold execOp
            dsimp only
            rw [e8]
            go_simp
          · -- 4
            cases ho
            have e27 : q.eval (.tmp 27) = .slice (some ⟨S, 0, none⟩) l.length c0 := hdep ⟨2, .data⟩ (by simp) rfl (by decide)
            have e28 : q.eval (.tmp 28) = .int .i64 (j : Int) := hdep ⟨3, .data⟩ (by simp) rfl (by decide)
            refine gives_read (v := .pointer (some ⟨S, j, none⟩)) ?_ rfl
            unfold execOp
            dsimp only
            rw [e27, e28]
            go_simp
          · -- 5
            cases ho
            have e29 : q.eval (.tmp 29) = .pointer (some ⟨S, j, none⟩) := hdep ⟨4, .data⟩ (by simp) rfl (by decide)
            refine gives_read (v := .string p1) ?_ rfl
            unfold execOp
            dsimp only
            rw [e29]
            go_simp
          · -- 6
            cases ho
            have e2 : q.eval (.tmp 2) = .slice (some ⟨S, 0, none⟩) l.length c0 := (hout 2 (by decide)).trans rfl
            refine gives_read (v := .slice (some ⟨S, 0, none⟩) l.length c0) ?_ rfl
            unfold execOp
            dsimp only
            rw [e2]
            go_simp
          · -- 7
            cases ho
            have e8 : q.eval (.tmp 8) = .int .i64 (j : Int) := (hout 8 (by decide)).trans rfl
            refine gives_read (v := .int .i64 (j : Int)) ?_ rfl
            unfold execOp
            dsimp only
            rw [e8]
            go_simp
          · -- 8
            cases ho
            have e32 : q.eval (.tmp 32) = .int .i64 (j : Int) := hdep ⟨7, .data⟩ (by simp) rfl (by decide)
            refine gives_read (v := .int .i64 ((j : Int) + 1)) ?_ rfl
            unfold execOp
            dsimp only
            rw [e32]
            go_simp
          · -- 9
            cases ho
            have e31 : q.eval (.tmp 31) = .slice (some ⟨S, 0, none⟩) l.length c0 := hdep ⟨6, .data⟩ (by simp) rfl (by decide)
            have e33 : q.eval (.tmp 33) = .int .i64 ((j : Int) + 1) := hdep ⟨8, .data⟩ (by simp) rfl (by decide)
            refine gives_read (v := .pointer (some ⟨S, j + 1, none⟩)) ?_ rfl
            unfold execOp
            dsimp only
            rw [e31, e33]
            go_simp
          · -- 10
            cases ho
            have e34 : q.eval (.tmp 34) = .pointer (some ⟨S, j + 1, none⟩) := hdep ⟨9, .data⟩ (by simp) rfl (by decide)
            refine gives_read (v := .string p2) ?_ rfl
            unfold execOp
            dsimp only
            rw [e34]
            go_simp
          · -- 11
            cases ho
            have e30 : q.eval (.tmp 30) = .string p1 := hdep ⟨5, .data⟩ (by simp) rfl (by decide)
            have e35 : q.eval (.tmp 35) = .string p2 := hdep ⟨10, .data⟩ (by simp) rfl (by decide)
            refine gives_read (v := .agg #[.string p1, .string p2]) ?_ rfl
            unfold execOp
            dsimp only
            simp only [List.map_toArray, List.map_cons, List.map_nil, e30, e35]
            go_simp
          · -- 12
            cases ho
            have e36 : q.eval (.tmp 36) = .agg #[.string p1, .string p2] := hdep ⟨11, .data⟩ (by simp) rfl (by decide)
            refine gives_run (W' := W.alloc (.cells #[.string p1, .string p2] 64)) (v := .slice (some ⟨W.heap.size, 0, none⟩) 1 1) ?_ ((Below.refl _ W).alloc (Nat.le_refl _) _) (blk_new (by have := hbel.size; omega))
            unfold execOp
            dsimp only
            simp only [List.map_toArray, List.map_cons, List.map_nil, e36]
            go_simp
        · intro q W hq hbel hv
          have e26 : q.eval (.tmp 26) = .slice a n c := hv 1 (by decide)
          obtain ⟨B, e37, hB, hBB⟩ : ∃ B, q.eval (.tmp 37) = .slice (some ⟨B, 0, none⟩) 1 1 ∧ T + 1 ≤ B ∧ W.heap[B]? = some (.cells #[.string p1, .string p2] 64 (0, 0)) := hv 12 (by decide)
          have HQW := Lib.hid (HQ.out.st hbel)
          have HXS := Lib.hid (ow_st HR1.out hbel)
          have hTW : T + 1 ≤ W.heap.size := by have := heap_lt hBB; omega
          have HBB := Lib.hid hBB
          have hq2 : q = canonL q [25, 26, 27, 28, 29, 30, 31, 32, 33, 34, 35, 36, 37] _ := hq
          simp only [canonL] at hq2
          rw [e26, e37] at hq2
          clear hq hv e26 e37
          generalize q.eval (.tmp 25) = u25 at hq2
          generalize q.eval (.tmp 27) = u27 at hq2
          generalize q.eval (.tmp 28) = u28 at hq2
          generalize q.eval (.tmp 29) = u29 at hq2
          generalize q.eval (.tmp 30) = u30 at hq2
          generalize q.eval (.tmp 31) = u31 at hq2
          generalize q.eval (.tmp 32) = u32 at hq2
          generalize q.eval (.tmp 33) = u33 at hq2
          generalize q.eval (.tmp 34) = u34 at hq2
          generalize q.eval (.tmp 35) = u35 at hq2
          generalize q.eval (.tmp 36) = u36 at hq2
          subst hq2
          clear hB hBB HQ HR1 hbel hTl y0 y1 s1
          obtain ⟨i0, hi0', hz0, hz1, hz2⟩ := info_parts infoAttr
          simp only [List.drop_succ_cons, List.drop_zero]
          go_simp
          refine wpList_append_lies _ rfl _ _ 27 rfl (T + 1) 64 i0 _ 2 32 Tryz.underlying27 hi0' hz0 hz1 hz2 rfl (by decide) _ n xs rfl HXS.out ⟨B, 0, none⟩ 1 1 [.string p1, .string p2] rfl rfl (World.news_of_block (cs := #[.string p1, .string p2]) (t := 64) (fr := (0, 0)) HBB.out) (by simp [Value.oneCell']) (by decide) (by unfold maxLen; omega) (by omega) hTW _ rfl ?_
          intro g cap w5 hown hgrow hat hlt5
          have HQ5 := Lib.hid (HQW.out.gr hgrow (fun b e => (own_heap HXS.out e).1))
          have t5 := (bx5 HQ5.out.tb).2.2.1
          have f5 := Lib.frozen_of_heap HQ5.out.tb 2
          have HLN : Hid (n + 1 = (newA (l.take (j + 2))).length) := by show _ = _; rw [HT2.out, List.length_append, ← HN.out]; rfl
          have HRN : Hid (AR T (newA (l.take (j + 2))) (some ⟨g, 0, none⟩) cap (w5.setCell ⟨T, 2, none⟩ (.slice (some ⟨g, 0, none⟩) (n + 1) cap))) := by
            refine AR.put ?_
            unfold AR
            rw [← HLN.out, HT2.out, cellsA_append, HXS0.out]
            exact hown
          have HQN := Lib.hid (HQ5.out.put (.slice (some ⟨g, 0, none⟩) (n + 1) cap))
          have HNL : Hid (n + 1 ≤ 1000) := by
            have h1 := newA_len (l.take (j + 2))
            have h2 := HLN.out
            have h3 : (l.take (j + 2)).length ≤ l.length := by rw [List.length_take]; omega
            show _ ≤ _; omega
          go_wp2_with fail
          clear hown hgrow hat hlt5 t5 f5 HQ5
          generalize w5.setCell ⟨T, 2, none⟩ (.slice (some ⟨g, 0, none⟩) (n + 1) cap) = W6 at HRN HQN ⊢
          go_roundw
          case rel => exact ⟨j + 2, _, _, _, by go_num, by omega, HNL.out, HJ2.out, HLN.out, HQN.out, HRN.out⟩
          case measure => simp [RowKit.intOf]; omega
    · have HT2 : Hid (newA (l.take j) = newA l) := newA_end HJ.out hlt
      obtain ⟨x0, x1, x2, x3, x4⟩ := bx5 HQ.out.tb
      obtain ⟨q0, q1, q2, q3, q4⟩ := bx5 HQ.out.rb
      have p0 := Lib.frozen_of_heap HQ.out.rb 0
      have p1 := Lib.frozen_of_heap HQ.out.rb 1
      have p2 := Lib.frozen_of_heap HQ.out.rb 2
      have p3 := Lib.frozen_of_heap HQ.out.rb 3
      have p4 := Lib.frozen_of_heap HQ.out.rb 4
      have hi : ¬ ((j : Int) + 1 < l.length) := by omega
      have HR2 : Hid (AR T (newA l) a c wr ∧ n = (newA l).length) := ⟨by rw [← HT2.out]; exact HR.out, by rw [← HT2.out]; exact HN.out⟩
      go_wp2_with fail
      exact bodyPost_ret (v := .agg #[.string sp, .string nm, .slice a n c, .string ⟨#[]⟩, .slice none 0 0]) (by simp [results, Tryz.results37, go_sem, q0, q1, q2, q3, q4]) rfl
        (HEND.out _ T c a wr _ (by rw [HR2.out.2]) HR2.out.1 HQ.out.lt (fun b hb => by
          have k : ∀ (W : World) (i : Nat) (u : Value), (W.setCell ⟨w.heap.size, i, none⟩ u).heap[b]? = W.heap[b]? := fun W i u => Below.heap_setCell W ⟨w.heap.size, i, none⟩ u b (by show b ≠ w.heap.size; omega)
          rw [k, k, k, k, k])
          (((((HQ.out.bel.setCell (Nat.le_refl _) _).setCell (Nat.le_refl _) _).setCell (Nat.le_refl _) _).setCell (Nat.le_refl _) _).setCell (Nat.le_refl _) _))
end Go.Proofs.YtlklmoohoobjjaaGreatDoor
