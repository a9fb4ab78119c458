/- The contract of wharfref10.with. Condition: texts of at most 1048576 bytes, at most 1000 of them. -/
import Derived.Test.YtlklmoohoobjjaaGreatDoorQc
namespace Go.Proofs.YtlklmoohoobjjaaGreatDoor
open Go.RowKit Go.Lib Go.Shelf Tg

/-- Kids: names and texts by turns. -/
def kidA (sp : ByteArray) : List ByteArray → List El
  | a :: b :: r => .mk sp a [] b [] :: kidA sp r
  | _ => []
theorem kidA_two (sp : ByteArray) : ∀ (k : Nat) (l : List ByteArray) (h : k * 2 + 1 < l.length), kidA sp (l.take (k * 2 + 2)) = kidA sp (l.take (k * 2)) ++ [.mk sp (l[k * 2]'(by omega)) [] l[k * 2 + 1] []] := by
  intro k
  induction k with
  | zero =>
    intro l h
    match l, h with
    | a :: b :: r, _ => simp [kidA]
  | succ k ih =>
    intro l h
    match l, h with
    | a :: b :: r, h =>
      have h2 : k * 2 + 1 < r.length := by simp at h; omega
      have e1 : (a :: b :: r).take ((k + 1) * 2 + 2) = a :: b :: r.take (k * 2 + 2) := by
        rw [show (k + 1) * 2 + 2 = (k * 2 + 2) + 1 + 1 by omega]; rfl
      have e2 : (a :: b :: r).take ((k + 1) * 2) = a :: b :: r.take (k * 2) := by
        rw [show (k + 1) * 2 = (k * 2) + 1 + 1 by omega]; rfl
      have e3 : (a :: b :: r)[(k + 1) * 2 + 1]'h = r[k * 2 + 1] := by
        have : ∀ (j : Nat) (hj : j < (a :: b :: r).length), j = (k * 2 + 1) + 1 + 1 → (a :: b :: r)[j] = r[k * 2 + 1] := by intro j hj e; subst e; rfl
        exact this _ _ (by omega)
      have e4 : (a :: b :: r)[(k + 1) * 2]'(by omega) = r[k * 2]'(by omega) := by
        have : ∀ (j : Nat) (hj : j < (a :: b :: r).length), j = (k * 2) + 1 + 1 → (a :: b :: r)[j] = r[k * 2]'(by omega) := by intro j hj e; subst e; rfl
        exact this _ _ (by omega)
      rw [e1, e2, e3, e4, kidA, kidA, ih r h2]
      simp
theorem kidA_two2 {sp : ByteArray} {l : List ByteArray} {j : Nat} (hj : j % 2 = 0) (h : j + 1 < l.length) : kidA sp (l.take (j + 2)) = kidA sp (l.take j) ++ [.mk sp (l[j]'(by omega)) [] l[j + 1] []] := by
  obtain ⟨k, rfl⟩ : ∃ k, j = k * 2 := ⟨j / 2, by omega⟩
  exact kidA_two sp k l h
theorem kidA_len (sp : ByteArray) : ∀ l : List ByteArray, (kidA sp l).length ≤ l.length
  | [] => by simp [kidA]
  | [_] => by simp [kidA]
  | a :: b :: r => by
    rw [kidA]
    have := kidA_len sp r
    simp; omega
theorem kidA_end {sp : ByteArray} {l : List ByteArray} {j : Nat} (hj : j % 2 = 0) (h : ¬ j + 1 < l.length) : kidA sp (l.take j) = kidA sp l := by
  by_cases h2 : l.length ≤ j
  · rw [List.take_of_length_le h2]
  · obtain ⟨k, rfl⟩ : ∃ k, j = k * 2 := ⟨j / 2, by omega⟩
    have h3 : l.length = k * 2 + 1 := by omega
    have main : ∀ (k : Nat) (l : List ByteArray), l.length = k * 2 + 1 → kidA sp (l.take (k * 2)) = kidA sp l := by
      intro k
      induction k with
      | zero => intro l h; match l, h with | [x], _ => rfl
      | succ k ih =>
        intro l h
        match l, h with
        | x :: y :: r, h =>
          rw [show (k + 1) * 2 = (k * 2) + 1 + 1 by omega]
          simp only [List.take_succ_cons, kidA]
          rw [ih r (by simp at h; omega)]
    exact main k l h3
def withE (sp : ByteArray) (l : List ByteArray) : El := .mk sp ⟨#[113, 117, 101, 114, 121]⟩ [] ⟨#[]⟩ (kidA sp l)
set_option maxRecDepth 100000 in
set_option maxHeartbeats 8000000 in
theorem rWith_any (sp : ByteArray) (l : List ByteArray) (a0 : Option Addr) (c0 : Nat) (w : World) (hsp : sp.size ≤ 1048576) (hl : l.length ≤ 1000) (hs : ∀ s ∈ l, s.size ≤ 1048576)
    (hA : ∀ i (h : i < l.length), ∃ S, a0 = some ⟨S, 0, none⟩ ∧ w.cell? ⟨S, i, none⟩ = some (.string l[i])) :
    Calls Tryz.prog 32 #[.string sp, .slice a0 l.length c0] w (ElP (withE sp l) w) := by
  have HF0 : Hid (Fm w w.heap.size (w.heap.size + 1) sp ⟨#[113, 117, 101, 114, 121]⟩ none 0 [] none 0 ((w.alloc (.cells #[.string ⟨#[]⟩, .string ⟨#[]⟩, .slice none 0 0, .string ⟨#[]⟩, .slice none 0 0] 30)).alloc (.cells #[.string sp, .string ⟨#[113, 117, 101, 114, 121]⟩, .slice none 0 0, .string ⟨#[]⟩, .slice none 0 0] 30))) := by
    have := Fm.new (w := w) (W := w.alloc (.cells #[.string ⟨#[]⟩, .string ⟨#[]⟩, .slice none 0 0, .string ⟨#[]⟩, .slice none 0 0] 30)) (Q := w.heap.size) (aA := none) (cA := 0) ((Below.refl _ w).alloc (Nat.le_refl _) _) (Nat.le_refl _) (box_new w _ _) (ins_leaf (fun _ => True) _ sp ⟨#[113, 117, 101, 114, 121]⟩ ⟨#[]⟩ (by omega) (by decide) (by decide))
    have e : (w.alloc (.cells #[.string ⟨#[]⟩, .string ⟨#[]⟩, .slice none 0 0, .string ⟨#[]⟩, .slice none 0 0] 30)).heap.size = w.heap.size + 1 := by simp
    rw [e] at this
    exact this
  have HA := Lib.hid hA
  have HS := Lib.hid hs
  clear hA hs
  go_enter Tryz.func32, Tryz.ntmps32
  go_upto_region 2 with fail
  generalize ((w.alloc (.cells #[.string ⟨#[]⟩, .string ⟨#[]⟩, .slice none 0 0, .string ⟨#[]⟩, .slice none 0 0] 30)).alloc (.cells #[.string sp, .string ⟨#[113, 117, 101, 114, 121]⟩, .slice none 0 0, .string ⟨#[]⟩, .slice none 0 0] 30)) = W0 at HF0 ⊢
  generalize w.heap.size + 1 = T at HF0 ⊢
  go_wp2_with fail
  go_loopw [6] (fun i wr => ∃ (j : Nat) (a : Option Addr) (c : Nat), i = .int .i64 (j : Int) ∧ j ≤ l.length + 1 ∧ Hid (j % 2 = 0) ∧ Hid (Fm w w.heap.size T sp ⟨#[113, 117, 101, 114, 121]⟩ none 0 (kidA sp (l.take j)) a c wr)) (fun i _ => l.length + 2 - (RowKit.intOf i).toNat)
  case atStart => exact ⟨0, none, 0, rfl, Nat.zero_le _, rfl, HF0.out⟩
  case round =>
    obtain ⟨j, a, c, rfl, hk, HJ, HF⟩ := hrel
    clear HF0
    by_cases hlt : j + 1 < l.length
    · obtain ⟨S, rfl, y0⟩ := HA.out j (by omega)
      obtain ⟨S', hS', y1⟩ := HA.out (j + 1) hlt
      cases hS'
      have hSw := World.block_lt_of_cell? _ _ y0
      have z0 := HS.out _ (List.getElem_mem (show j < l.length by omega))
      have z1 := HS.out _ (List.getElem_mem hlt)
      have HTK := Lib.hid (kidA_two2 (sp := sp) HJ.out hlt)
      have HJ2 : Hid ((j + 2) % 2 = 0) := by have := HJ.out; show _ = _; omega
      have hi : ((j : Int) + 1 < l.length) := by omega
      have hm : IntKind.i64.wrap ((j : Int) + 1) = (j : Int) + 1 := wrap_in (by omega) (by omega)
      have hi0 : (j : Int) < l.length := by omega
      have hi1 : (0 : Int) ≤ (j : Int) := by omega
      have hi3 : (0 : Int) ≤ (j : Int) + 1 := by omega
      have hi4 : ((j : Int) + 1).toNat = j + 1 := by omega
      have hkl : (kidA sp (l.take j)).length ≤ 1000 := by
        have h1 := kidA_len sp (l.take j)
        have h3 : (l.take j).length ≤ l.length := by rw [List.length_take]; omega
        omega
      generalize l[j]'(by omega) = p1 at y0 z0 HTK
      generalize l[j + 1] = p2 at y1 z1 HTK
      generalize kidA sp (l.take j) = kk at HF HTK hkl
      go_upto_region 5 with fail
      refine region_psi 14 (fun j => [16, 17, 18, 19, 20, 21, 22, 23, 24, 25, 26, 27, 28, 29].getD j 0) (psL [Pr.eq (.pointer (some ⟨T, 4, none⟩)), Pr.eq (.slice a kk.length c), Pr.eq (.string sp), Pr.eq (.slice (some ⟨S, 0, none⟩) l.length c0), Pr.eq (.int .i64 (j : Int)), Pr.eq (.pointer (some ⟨S, j, none⟩)), Pr.eq (.string p1), Pr.eq (.slice (some ⟨S, 0, none⟩) l.length c0), Pr.eq (.int .i64 (j : Int)), Pr.eq (.int .i64 ((j : Int) + 1)), Pr.eq (.pointer (some ⟨S, j + 1, none⟩)), Pr.eq (.string p2), Pr.eq (.agg #[.string sp, .string p1, .slice none 0 0, .string p2, .slice none 0 0]), Pr.blk (T + 1) 1 #[.string sp, .string p1, .slice none 0 0, .string p2, .slice none 0 0] 30]) (by kernel_rfl) (by kernel_rfl) (by kernel_rfl) (by kernel_rfl) (by decide) (by kernel_rfl) (by kernel_rfl) (psL_mono _) ?_ ?_
      · intro i o hi ho q W hsz hout hbel hdep
        have HFW := HF.out.st hbel
        have x4 := (bx5 HFW.tb).2.2.2.2
        have s0 := (HFW.bel.cell (p := ⟨S, j, none⟩) hSw).trans y0
        have s1 := (HFW.bel.cell (p := ⟨S, j + 1, none⟩) hSw).trans y1
        have hc : i = 0 ∨ i = 1 ∨ i = 2 ∨ i = 3 ∨ i = 4 ∨ i = 5 ∨ i = 6 ∨ i = 7 ∨ i = 8 ∨ i = 9 ∨ i = 10 ∨ i = 11 ∨ i = 12 ∨ i = 13 := by omega
        rcases hc with rfl | rfl | rfl | rfl | rfl | rfl | rfl | rfl | rfl | rfl | rfl | rfl | rfl | rfl
        · -- 0
          cases ho
          have e5 : q.eval (.tmp 5) = .pointer (some ⟨T, 0, none⟩) := (hout 5 (by decide)).trans rfl
          refine gives_read (v := .pointer (some ⟨T, 4, none⟩)) ?_ rfl
          unfold execOp
          dsimp only
          rw [e5]
          go_simp
        · -- 1
          cases ho
          have e16 : q.eval (.tmp 16) = .pointer (some ⟨T, 4, none⟩) := hdep ⟨0, .data⟩ (by simp) rfl (by decide)
          refine gives_read (v := .slice a kk.length c) ?_ rfl
          unfold execOp
          dsimp only
          rw [e16]
          go_simp
        · -- 2
          cases ho
          have e0 : q.eval (.tmp 0) = .string sp := (hout 0 (by decide)).trans rfl
          refine gives_read (v := .string sp) ?_ rfl
          unfold execOp
          dsimp only
          rw [e0]
          go_simp
        · -- 3
          cases ho
          have e1 : q.eval (.tmp 1) = .slice (some ⟨S, 0, none⟩) l.length c0 := (hout 1 (by decide)).trans rfl
          refine gives_read (v := .slice (some ⟨S, 0, none⟩) l.length c0) ?_ rfl
          unfold execOp
          dsimp only
          rw [e1]
          go_simp
        · -- 4
          cases ho
          have e6 : q.eval (.tmp 6) = .int .i64 (j : Int) := (hout 6 (by decide)).trans rfl
          refine gives_read (v := .int .i64 (j : Int)) ?_ rfl
          unfold execOp
          dsimp only
          rw [e6]
          go_simp
        · -- 5
          cases ho
          have e19 : q.eval (.tmp 19) = .slice (some ⟨S, 0, none⟩) l.length c0 := hdep ⟨3, .data⟩ (by simp) rfl (by decide)
          have e20 : q.eval (.tmp 20) = .int .i64 (j : Int) := hdep ⟨4, .data⟩ (by simp) rfl (by decide)
          refine gives_read (v := .pointer (some ⟨S, j, none⟩)) ?_ rfl
          unfold execOp
          dsimp only
          rw [e19, e20]
          go_simp
        · -- 6
          cases ho
          have e21 : q.eval (.tmp 21) = .pointer (some ⟨S, j, none⟩) := hdep ⟨5, .data⟩ (by simp) rfl (by decide)
          refine gives_read (v := .string p1) ?_ rfl
          unfold execOp
          dsimp only
          rw [e21]
          go_simp
        · -- 7
          cases ho
          have e1 : q.eval (.tmp 1) = .slice (some ⟨S, 0, none⟩) l.length c0 := (hout 1 (by decide)).trans rfl
          refine gives_read (v := .slice (some ⟨S, 0, none⟩) l.length c0) ?_ rfl
          unfold execOp
          dsimp only
          rw [e1]
          go_simp
        · -- 8
          cases ho
          have e6 : q.eval (.tmp 6) = .int .i64 (j : Int) := (hout 6 (by decide)).trans rfl
          refine gives_read (v := .int .i64 (j : Int)) ?_ rfl
          unfold execOp
          dsimp only
          rw [e6]
          go_simp
        · -- 9
          cases ho
          have e24 : q.eval (.tmp 24) = .int .i64 (j : Int) := hdep ⟨8, .data⟩ (by simp) rfl (by decide)
          refine gives_read (v := .int .i64 ((j : Int) + 1)) ?_ rfl
          unfold execOp
          dsimp only
          rw [e24]
          go_simp
        · -- 10
          cases ho
          have e23 : q.eval (.tmp 23) = .slice (some ⟨S, 0, none⟩) l.length c0 := hdep ⟨7, .data⟩ (by simp) rfl (by decide)
          have e25 : q.eval (.tmp 25) = .int .i64 ((j : Int) + 1) := hdep ⟨9, .data⟩ (by simp) rfl (by decide)
          refine gives_read (v := .pointer (some ⟨S, j + 1, none⟩)) ?_ rfl
          unfold execOp
          dsimp only
          rw [e23, e25]
          go_simp
        · -- 11
          cases ho
          have e26 : q.eval (.tmp 26) = .pointer (some ⟨S, j + 1, none⟩) := hdep ⟨10, .data⟩ (by simp) rfl (by decide)
          refine gives_read (v := .string p2) ?_ rfl
          unfold execOp
          dsimp only
          rw [e26]
          go_simp
        · -- 12
          cases ho
          have e18 : q.eval (.tmp 18) = .string sp := hdep ⟨2, .data⟩ (by simp) rfl (by decide)
          have e22 : q.eval (.tmp 22) = .string p1 := hdep ⟨6, .data⟩ (by simp) rfl (by decide)
          have e27 : q.eval (.tmp 27) = .string p2 := hdep ⟨11, .data⟩ (by simp) rfl (by decide)
          refine gives_read (v := .agg #[.string sp, .string p1, .slice none 0 0, .string p2, .slice none 0 0]) ?_ rfl
          unfold execOp
          dsimp only
          simp only [List.map_toArray, List.map_cons, List.map_nil, e18, e22, e27]
          go_simp
        · -- 13
          cases ho
          have e28 : q.eval (.tmp 28) = .agg #[.string sp, .string p1, .slice none 0 0, .string p2, .slice none 0 0] := hdep ⟨12, .data⟩ (by simp) rfl (by decide)
          refine gives_run (W' := W.alloc (.cells #[.string sp, .string p1, .slice none 0 0, .string p2, .slice none 0 0] 30)) (v := .slice (some ⟨W.heap.size, 0, none⟩) 1 1) ?_ ((Below.refl _ W).alloc (Nat.le_refl _) _) (blk_new (by have := hbel.size; have := heap_lt HF.out.tb; omega))
          unfold execOp
          dsimp only
          simp only [List.map_toArray, List.map_cons, List.map_nil, e28]
          go_simp
      · intro q W hq hbel hv
        have e17 : q.eval (.tmp 17) = .slice a kk.length c := hv 1 (by decide)
        obtain ⟨B, e29, hB, hBB⟩ : ∃ B, q.eval (.tmp 29) = .slice (some ⟨B, 0, none⟩) 1 1 ∧ T + 1 ≤ B ∧ W.heap[B]? = some (.cells #[.string sp, .string p1, .slice none 0 0, .string p2, .slice none 0 0] 30 (0, 0)) := hv 13 (by decide)
        have HFW := Lib.hid (HF.out.st hbel)
        have hTW : w.heap.size + 1 ≤ W.heap.size := heap_lt HFW.out.rb
        have HBB := Lib.hid hBB
        have hq2 : q = canonL q [16, 17, 18, 19, 20, 21, 22, 23, 24, 25, 26, 27, 28, 29] _ := hq
        simp only [canonL] at hq2
        rw [e17, e29] at hq2
        clear hq hv e17 e29
        generalize q.eval (.tmp 16) = u16 at hq2
        generalize q.eval (.tmp 18) = u18 at hq2
        generalize q.eval (.tmp 19) = u19 at hq2
        generalize q.eval (.tmp 20) = u20 at hq2
        generalize q.eval (.tmp 21) = u21 at hq2
        generalize q.eval (.tmp 22) = u22 at hq2
        generalize q.eval (.tmp 23) = u23 at hq2
        generalize q.eval (.tmp 24) = u24 at hq2
        generalize q.eval (.tmp 25) = u25 at hq2
        generalize q.eval (.tmp 26) = u26 at hq2
        generalize q.eval (.tmp 27) = u27 at hq2
        generalize q.eval (.tmp 28) = u28 at hq2
        subst hq2
        clear hB hBB HF hbel y0 y1
        obtain ⟨xs, hxs, hxk⟩ := HFW.out.oe.kr
        have HXS := Lib.hid hxs
        have HXK := Lib.hid hxk
        clear hxs hxk
        obtain ⟨i0, hi0', hz0, hz1, hz2⟩ := info_parts infoElem
        simp only [List.drop_succ_cons, List.drop_zero]
        go_simp
        refine wpList_append_lies _ rfl _ _ 28 rfl (w.heap.size + 1) 30 i0 _ 5 96 Tryz.underlying28 hi0' hz0 hz1 hz2 rfl (by decide) _ kk.length xs rfl HXS.out ⟨B, 0, none⟩ 1 1 [.string sp, .string p1, .slice none 0 0, .string p2, .slice none 0 0] rfl rfl (World.news_of_block (cs := #[.string sp, .string p1, .slice none 0 0, .string p2, .slice none 0 0]) (t := 30) (fr := (0, 0)) HBB.out) (by simp [Value.oneCell']) (by decide) (by unfold maxLen; omega) (by omega) hTW _ rfl ?_
        intro g cap w5 hown hgrow hat hlt5
        have ht5 := (hgrow.block _ (heap_lt HFW.out.tb) (fun e => HFW.out.nt e.symm)).trans HFW.out.tb
        have t5 := (bx5 ht5).2.2.2.2
        have f5 := Lib.frozen_of_heap ht5 4
        have HF5 := Lib.hid (HFW.out.app HXS.out HXK.out hgrow hat (ins_leaf _ _ sp p1 p2 (by omega) (by omega) (by omega)) hown)
        rw [← HTK.out] at HF5
        go_wp2_with fail
        clear hown hgrow hat hlt5 t5 f5 ht5 HFW HXS HXK
        generalize w5.setCell ⟨T, 4, none⟩ (.slice (some ⟨g, 0, none⟩) (kk.length + 1) cap) = W6 at HF5 ⊢
        go_roundw
        case rel => exact ⟨j + 2, _, _, by go_num, by omega, HJ2.out, HF5.out⟩
        case measure => simp [RowKit.intOf]; omega
    · have HE : Hid (withE sp l = .mk sp ⟨#[113, 117, 101, 114, 121]⟩ [] ⟨#[]⟩ (kidA sp (l.take j))) := by
        show _ = _
        rw [kidA_end HJ.out hlt]; rfl
      generalize kidA sp (l.take j) = kk at HF HE
      obtain ⟨x0, x1, x2, x3, x4⟩ := HF.out.load
      obtain ⟨q0, q1, q2, q3, q4⟩ := bx5 HF.out.rb
      have p0 := Lib.frozen_of_heap HF.out.rb 0
      have p1 := Lib.frozen_of_heap HF.out.rb 1
      have p2 := Lib.frozen_of_heap HF.out.rb 2
      have p3 := Lib.frozen_of_heap HF.out.rb 3
      have p4 := Lib.frozen_of_heap HF.out.rb 4
      have hi : ¬ ((j : Int) + 1 < l.length) := by omega
      have hm : IntKind.i64.wrap ((j : Int) + 1) = (j : Int) + 1 := wrap_in (by omega) (by omega)
      clear HA HS
      go_wp2_with fail
      refine bodyPost_ret (v := .agg #[.string sp, .string ⟨#[113, 117, 101, 114, 121]⟩, .slice none 0 0, .string ⟨#[]⟩, .slice a kk.length c]) (by simp [results, Tryz.results32, go_sem, q0, q1, q2, q3, q4]) rfl ?_
      rw [HE.out]
      have hf := HF.out.fin (u0 := .string sp) (u1 := .string ⟨#[113, 117, 101, 114, 121]⟩) (u2 := .slice none 0 0) (u3 := .string ⟨#[]⟩) (u4 := .slice a kk.length c)
      exact ⟨_, rfl, hf.1, hf.2⟩
end Go.Proofs.YtlklmoohoobjjaaGreatDoor
