/- The contract of wharfref10.Info. No condition. -/
import Derived.Test.YtlklmoohoobjjaaGreatDoorQi
namespace Go.Proofs.YtlklmoohoobjjaaGreatDoor
open Go.RowKit Go.Lib Go.Shelf Tg

theorem ss0_f (w : World) (o o1 : Obj) (cs : Array Value) (t : TypeId) : (((w.alloc o).alloc o1).alloc (.cells cs t)).heap[w.heap.size + 1 + 1]? = some (.cells cs t (0, 0)) := by
  have := box_new ((w.alloc o).alloc o1) cs t
  simpa using this
theorem ss0_t (w : World) (o o1 o2 : Obj) (cs : Array Value) (t : TypeId) : ((((w.alloc o).alloc o1).alloc o2).alloc (.cells cs t)).heap[w.heap.size + 1 + 1 + 1]? = some (.cells cs t (0, 0)) := by
  have := box_new (((w.alloc o).alloc o1).alloc o2) cs t
  simpa using this
theorem fm0_f (w : World) (sp : ByteArray) (h : sp.size ≤ 1048576) (hq : (⟨#[113, 117, 101, 114, 121]⟩ : ByteArray).size ≤ 140737488351232) (o : Obj) : Fm w w.heap.size (w.heap.size + 1) sp ⟨#[113, 117, 101, 114, 121]⟩ none 0 [] none 0 (((w.alloc (.cells #[.string ⟨#[]⟩, .string ⟨#[]⟩, .slice none 0 0, .string ⟨#[]⟩, .slice none 0 0] 30)).alloc (.cells #[.string sp, .string ⟨#[113, 117, 101, 114, 121]⟩, .slice none 0 0, .string ⟨#[]⟩, .slice none 0 0] 30)).alloc o) := by
  have := Fm.new (w := w) (W := w.alloc (.cells #[.string ⟨#[]⟩, .string ⟨#[]⟩, .slice none 0 0, .string ⟨#[]⟩, .slice none 0 0] 30)) (Q := w.heap.size) (aA := none) (cA := 0) ((Below.refl _ w).alloc (Nat.le_refl _) _) (Nat.le_refl _) (box_new w _ _) (ins_leaf (fun _ => True) _ sp ⟨#[113, 117, 101, 114, 121]⟩ ⟨#[]⟩ (by omega) hq (by decide))
  have e : (w.alloc (.cells #[.string ⟨#[]⟩, .string ⟨#[]⟩, .slice none 0 0, .string ⟨#[]⟩, .slice none 0 0] 30)).heap.size = w.heap.size + 1 := by simp
  rw [e] at this
  exact this.st ((Below.refl _ _).alloc (Nat.le_refl _) o)
theorem fm0_t (w : World) (sp : ByteArray) (h : sp.size ≤ 1048576) (hq : (⟨#[113, 117, 101, 114, 121]⟩ : ByteArray).size ≤ 140737488351232) (o o2 : Obj) : Fm w w.heap.size (w.heap.size + 1) sp ⟨#[113, 117, 101, 114, 121]⟩ none 0 [] none 0 ((((w.alloc (.cells #[.string ⟨#[]⟩, .string ⟨#[]⟩, .slice none 0 0, .string ⟨#[]⟩, .slice none 0 0] 30)).alloc (.cells #[.string sp, .string ⟨#[113, 117, 101, 114, 121]⟩, .slice none 0 0, .string ⟨#[]⟩, .slice none 0 0] 30)).alloc o).alloc o2) :=
  (fm0_f w sp h hq o).st ((Below.refl _ _).alloc (Nat.le_refl _) o2)
set_option maxRecDepth 100000 in
set_option maxHeartbeats 8000000 in
theorem rinfo_f (w : World) : Calls Tryz.prog 16 #[.bool false] w (ElP (infoE false) w) := by
  have HF0 := Lib.hid (fm0_f w ⟨#[104, 116, 116, 112, 58, 47, 47, 106, 97, 98, 98, 101, 114, 46, 111, 114, 103, 47, 112, 114, 111, 116, 111, 99, 111, 108, 47, 100, 105, 115, 99, 111, 35, 105, 110, 102, 111]⟩ (by decide) (by decide) (.cells #[.string ⟨#[104, 116, 116, 112, 58, 47, 47, 106, 97, 98, 98, 101, 114, 46, 111, 114, 103, 47, 112, 114, 111, 116, 111, 99, 111, 108, 47, 100, 105, 115, 99, 111, 35, 105, 110, 102, 111]⟩, .string ⟨#[106, 97, 98, 98, 101, 114, 58, 105, 113, 58, 108, 97, 115, 116]⟩] 9))
  have HS0 := Lib.hid (ss0_f w (.cells #[.string ⟨#[]⟩, .string ⟨#[]⟩, .slice none 0 0, .string ⟨#[]⟩, .slice none 0 0] 30) (.cells #[.string ⟨#[104, 116, 116, 112, 58, 47, 47, 106, 97, 98, 98, 101, 114, 46, 111, 114, 103, 47, 112, 114, 111, 116, 111, 99, 111, 108, 47, 100, 105, 115, 99, 111, 35, 105, 110, 102, 111]⟩, .string ⟨#[113, 117, 101, 114, 121]⟩, .slice none 0 0, .string ⟨#[]⟩, .slice none 0 0] 30) #[.string ⟨#[104, 116, 116, 112, 58, 47, 47, 106, 97, 98, 98, 101, 114, 46, 111, 114, 103, 47, 112, 114, 111, 116, 111, 99, 111, 108, 47, 100, 105, 115, 99, 111, 35, 105, 110, 102, 111]⟩, .string ⟨#[106, 97, 98, 98, 101, 114, 58, 105, 113, 58, 108, 97, 115, 116]⟩] 9)
  go_enter Tryz.func16, Tryz.ntmps16
  go_upto_region 5 with fail
  generalize (((w.alloc (.cells #[.string ⟨#[]⟩, .string ⟨#[]⟩, .slice none 0 0, .string ⟨#[]⟩, .slice none 0 0] 30)).alloc (.cells #[.string ⟨#[104, 116, 116, 112, 58, 47, 47, 106, 97, 98, 98, 101, 114, 46, 111, 114, 103, 47, 112, 114, 111, 116, 111, 99, 111, 108, 47, 100, 105, 115, 99, 111, 35, 105, 110, 102, 111]⟩, .string ⟨#[113, 117, 101, 114, 121]⟩, .slice none 0 0, .string ⟨#[]⟩, .slice none 0 0] 30)).alloc (.cells #[.string ⟨#[104, 116, 116, 112, 58, 47, 47, 106, 97, 98, 98, 101, 114, 46, 111, 114, 103, 47, 112, 114, 111, 116, 111, 99, 111, 108, 47, 100, 105, 115, 99, 111, 35, 105, 110, 102, 111]⟩, .string ⟨#[106, 97, 98, 98, 101, 114, 58, 105, 113, 58, 108, 97, 115, 116]⟩] 9)) = W0 at HF0 HS0 ⊢
  obtain ⟨SB, hSBe⟩ : ∃ SB, SB = w.heap.size + 1 + 1 := ⟨_, rfl⟩
  rw [← hSBe] at HS0 ⊢
  obtain ⟨T, hTe⟩ : ∃ T, T = w.heap.size + 1 := ⟨_, rfl⟩
  rw [← hTe] at HF0 ⊢
  have hST : SB ≠ T := by omega
  clear hSBe hTe
  obtain ⟨L, hL⟩ : ∃ L : List ByteArray, L = [⟨#[104, 116, 116, 112, 58, 47, 47, 106, 97, 98, 98, 101, 114, 46, 111, 114, 103, 47, 112, 114, 111, 116, 111, 99, 111, 108, 47, 100, 105, 115, 99, 111, 35, 105, 110, 102, 111]⟩, ⟨#[106, 97, 98, 98, 101, 114, 58, 105, 113, 58, 108, 97, 115, 116]⟩] := ⟨_, rfl⟩
  have HLS : Hid (∀ i (h : i < L.length), W0.cell? ⟨SB, i, none⟩ = some (.string L[i])) := by
    subst hL
    intro i hi
    have hi2 : i < 2 := hi
    rw [Lib.cell_of_heap HS0.out]
    have hc : i = 0 ∨ i = 1 := by omega
    rcases hc with rfl | rfl <;> rfl
  have hLn : L.length = 2 := by rw [hL]; rfl
  have HSZ : Hid (∀ s ∈ L, s.size ≤ 1048576) := by
    subst hL
    show ∀ s ∈ ([⟨#[104, 116, 116, 112, 58, 47, 47, 106, 97, 98, 98, 101, 114, 46, 111, 114, 103, 47, 112, 114, 111, 116, 111, 99, 111, 108, 47, 100, 105, 115, 99, 111, 35, 105, 110, 102, 111]⟩, ⟨#[106, 97, 98, 98, 101, 114, 58, 105, 113, 58, 108, 97, 115, 116]⟩] : List ByteArray), s.size ≤ 1048576
    decide
  have HLL := Lib.hid hL
  clear hL
  have hSB : SB < W0.heap.size := heap_lt HS0.out
  clear HS0
  obtain ⟨kk, a, c, hkk, ha, hc0, HOS⟩ : ∃ (kk : List El) (a : Option Addr) (c : Nat), kk = [] ∧ a = none ∧ c = 0 ∧ Hid (ob a kk.length c ≠ some SB) := ⟨[], none, 0, rfl, rfl, rfl, fun e => by cases e⟩
  have HF : Hid (Fm w w.heap.size T ⟨#[104, 116, 116, 112, 58, 47, 47, 106, 97, 98, 98, 101, 114, 46, 111, 114, 103, 47, 112, 114, 111, 116, 111, 99, 111, 108, 47, 100, 105, 115, 99, 111, 35, 105, 110, 102, 111]⟩ ⟨#[113, 117, 101, 114, 121]⟩ none 0 kk a c W0) := by show Fm _ _ _ _ _ _ _ _ _ _ _; rw [hkk, ha, hc0]; exact HF0.out
  have HKK := Lib.hid hkk
  have hkn : kk.length ≤ 900 := by rw [hkk]; decide
  clear HF0 ha hc0 hkk
  refine region_psi 7 (fun j => [12, 13, 14, 15, 16, 17, 18].getD j 0) (psL [Pr.eq (.pointer (some ⟨T, 4, none⟩)), Pr.eq (.slice a kk.length c), Pr.eq (.string ⟨#[99, 108, 105, 101, 110, 116]⟩), Pr.eq (.string ⟨#[112, 99]⟩), Pr.blk (W0.heap.size) 4 #[.string ⟨#[99, 97, 116, 101, 103, 111, 114, 121]⟩, .string ⟨#[99, 108, 105, 101, 110, 116]⟩, .string ⟨#[116, 121, 112, 101]⟩, .string ⟨#[112, 99]⟩] 9, Pr.el W0.heap.size (idE ⟨#[99, 108, 105, 101, 110, 116]⟩ ⟨#[112, 99]⟩), Pr.row (W0.heap.size) (idE ⟨#[99, 108, 105, 101, 110, 116]⟩ ⟨#[112, 99]⟩)]) (by kernel_rfl) (by kernel_rfl) (by kernel_rfl) (by kernel_rfl) (by decide) (by kernel_rfl) (by kernel_rfl) (psL_mono _) ?_ ?_
  · intro i o hi ho q W hsz hout hbel hdep
    obtain ⟨x0, x1, x2, x3, x4⟩ := (HF.out.st hbel).load
    have hc : i = 0 ∨ i = 1 ∨ i = 2 ∨ i = 3 ∨ i = 4 ∨ i = 5 ∨ i = 6 := by omega
    rcases hc with rfl | rfl | rfl | rfl | rfl | rfl | rfl
    · -- 0
      cases ho
      have e3 : q.eval (.tmp 3) = .pointer (some ⟨T, 0, none⟩) := (hout 3 (by decide)).trans rfl
      refine gives_read (v := .pointer (some ⟨T, 4, none⟩)) ?_ rfl
      unfold execOp
      dsimp only
      rw [e3]
      go_simp
    · -- 1
      cases ho
      have e12 : q.eval (.tmp 12) = .pointer (some ⟨T, 4, none⟩) := hdep ⟨0, .data⟩ (by simp) rfl (by decide)
      refine gives_read (v := .slice a kk.length c) ?_ rfl
      unfold execOp
      dsimp only
      rw [e12]
      go_simp
    · -- 2
      cases ho
      have e4 : q.eval (.tmp 4) = .string ⟨#[99, 108, 105, 101, 110, 116]⟩ := (hout 4 (by decide)).trans rfl
      refine gives_read (v := .string ⟨#[99, 108, 105, 101, 110, 116]⟩) ?_ rfl
      unfold execOp
      dsimp only
      rw [e4]
      go_simp
    · -- 3
      cases ho
      have e5 : q.eval (.tmp 5) = .string ⟨#[112, 99]⟩ := (hout 5 (by decide)).trans rfl
      refine gives_read (v := .string ⟨#[112, 99]⟩) ?_ rfl
      unfold execOp
      dsimp only
      rw [e5]
      go_simp
    · -- 4
      cases ho
      have e14 : q.eval (.tmp 14) = .string ⟨#[99, 108, 105, 101, 110, 116]⟩ := hdep ⟨2, .data⟩ (by simp) rfl (by decide)
      have e15 : q.eval (.tmp 15) = .string ⟨#[112, 99]⟩ := hdep ⟨3, .data⟩ (by simp) rfl (by decide)
      refine gives_run (W' := W.alloc (.cells #[.string ⟨#[99, 97, 116, 101, 103, 111, 114, 121]⟩, .string ⟨#[99, 108, 105, 101, 110, 116]⟩, .string ⟨#[116, 121, 112, 101]⟩, .string ⟨#[112, 99]⟩] 9)) (v := .slice (some ⟨W.heap.size, 0, none⟩) 4 4) ?_ ((Below.refl _ W).alloc (Nat.le_refl _) _) (blk_new (by have := hbel.size; omega))
      unfold execOp
      dsimp only
      simp only [List.map_toArray, List.map_cons, List.map_nil, e14, e15]
      go_simp
    · -- 5
      cases ho
      obtain ⟨S, e16, hSN, hS⟩ : ∃ S, q.eval (.tmp 16) = .slice (some ⟨S, 0, none⟩) 4 4 ∧ W0.heap.size ≤ S ∧ W.heap[S]? = some (.cells #[.string ⟨#[99, 97, 116, 101, 103, 111, 114, 121]⟩, .string ⟨#[99, 108, 105, 101, 110, 116]⟩, .string ⟨#[116, 121, 112, 101]⟩, .string ⟨#[112, 99]⟩] 9 (0, 0)) := hdep ⟨4, .data⟩ (by simp) rfl (by decide)
      clear hSN
      refine gives_call (f := 37) (args := #[.string ⟨#[104, 116, 116, 112, 58, 47, 47, 106, 97, 98, 98, 101, 114, 46, 111, 114, 103, 47, 112, 114, 111, 116, 111, 99, 111, 108, 47, 100, 105, 115, 99, 111, 35, 105, 110, 102, 111]⟩, .string ⟨#[105, 100, 101, 110, 116, 105, 116, 121]⟩, .slice (some ⟨S, 0, none⟩) 4 4]) ?_ ((rNew_any ⟨#[104, 116, 116, 112, 58, 47, 47, 106, 97, 98, 98, 101, 114, 46, 111, 114, 103, 47, 112, 114, 111, 116, 111, 99, 111, 108, 47, 100, 105, 115, 99, 111, 35, 105, 110, 102, 111]⟩ ⟨#[105, 100, 101, 110, 116, 105, 116, 121]⟩ [⟨#[99, 97, 116, 101, 103, 111, 114, 121]⟩, ⟨#[99, 108, 105, 101, 110, 116]⟩, ⟨#[116, 121, 112, 101]⟩, ⟨#[112, 99]⟩] (some ⟨S, 0, none⟩) 4 W (by decide) (by decide) (by simp) (sz4 (by decide) (by decide) (by decide) (by decide)) (str_mem4 hS)).mono ?_)
      · unfold execOp
        dsimp only
        simp only [resolve, List.map_toArray, List.map_cons, List.map_nil, e16]
        go_simp
      · rintro e W' ⟨a7, c7, rfl, hin, hb⟩
        exact ⟨_, rfl, hb, a7, c7, none, 0, rfl, hin.weak fun _ _ h => Nat.le_trans hbel.size h⟩
    · -- 6
      cases ho
      obtain ⟨aA, cA, aK, cK, e17, hE⟩ : ∃ aA cA aK cK, q.eval (.tmp 17) = .agg #[.string ((idE ⟨#[99, 108, 105, 101, 110, 116]⟩ ⟨#[112, 99]⟩)).sp, .string ((idE ⟨#[99, 108, 105, 101, 110, 116]⟩ ⟨#[112, 99]⟩)).nm, .slice aA ((idE ⟨#[99, 108, 105, 101, 110, 116]⟩ ⟨#[112, 99]⟩)).atr.length cA, .string ((idE ⟨#[99, 108, 105, 101, 110, 116]⟩ ⟨#[112, 99]⟩)).tx, .slice aK ((idE ⟨#[99, 108, 105, 101, 110, 116]⟩ ⟨#[112, 99]⟩)).ks.length cK] ∧ InS (fun b => W0.heap.size ≤ b) W (idE ⟨#[99, 108, 105, 101, 110, 116]⟩ ⟨#[112, 99]⟩) (q.eval (.tmp 17)) := hdep ⟨5, .data⟩ (by simp) rfl (by decide)
      rw [e17] at hE
      refine gives_run (W' := W.alloc (.cells #[.string ((idE ⟨#[99, 108, 105, 101, 110, 116]⟩ ⟨#[112, 99]⟩)).sp, .string ((idE ⟨#[99, 108, 105, 101, 110, 116]⟩ ⟨#[112, 99]⟩)).nm, .slice aA ((idE ⟨#[99, 108, 105, 101, 110, 116]⟩ ⟨#[112, 99]⟩)).atr.length cA, .string ((idE ⟨#[99, 108, 105, 101, 110, 116]⟩ ⟨#[112, 99]⟩)).tx, .slice aK ((idE ⟨#[99, 108, 105, 101, 110, 116]⟩ ⟨#[112, 99]⟩)).ks.length cK] 30)) (v := .slice (some ⟨W.heap.size, 0, none⟩) 1 1) ?_ ((Below.refl _ W).alloc (Nat.le_refl _) _) (row_new (by have := hbel.size; omega) hE)
      unfold execOp
      dsimp only
      simp only [List.map_toArray, List.map_cons, List.map_nil, e17]
      go_simp
  · intro q W hq hbel hv
    have e13 : q.eval (.tmp 13) = .slice a kk.length c := hv 1 (by decide)
    obtain ⟨B, v0, v1, v2, v3, v4, e18, hB, hBB, hBI⟩ : ∃ B v0 v1 v2 v3 v4, q.eval (.tmp 18) = .slice (some ⟨B, 0, none⟩) 1 1 ∧ W0.heap.size ≤ B ∧ W.heap[B]? = some (.cells #[v0, v1, v2, v3, v4] 30 (0, 0)) ∧ InS (fun b => W0.heap.size ≤ b) W (idE ⟨#[99, 108, 105, 101, 110, 116]⟩ ⟨#[112, 99]⟩) (.agg #[v0, v1, v2, v3, v4]) := hv 6 (by decide)
    have HFW := Lib.hid (HF.out.st hbel)
    have hTW : w.heap.size + 1 ≤ W.heap.size := heap_lt HFW.out.rb
    have HBB := Lib.hid hBB
    have HBI : Hid (InS (fun b => (w.heap.size < b ∧ b ≠ T) ∧ ob a kk.length c ≠ some b) W (idE ⟨#[99, 108, 105, 101, 110, 116]⟩ ⟨#[112, 99]⟩) (.agg #[v0, v1, v2, v3, v4])) := hBI.weak fun b _ hb => ⟨⟨Nat.lt_of_lt_of_le (heap_lt HF.out.rb) hb, fun e => by have := heap_lt HF.out.tb; omega⟩, fun e => by have := (HF.out.oe.lt b e).2; omega⟩
    obtain ⟨aA7, cA7, aK7, cK7, hsh, _⟩ := hBI.toIn.out
    simp only [Value.agg.injEq] at hsh
    injection hsh with hsh
    simp only [List.cons.injEq] at hsh
    obtain ⟨rfl, rfl, rfl, rfl, rfl, _⟩ := hsh
    have HLW : Hid (∀ i (h : i < L.length), W.cell? ⟨SB, i, none⟩ = some (.string L[i])) := fun i h => (hbel.cell (p := ⟨SB, i, none⟩) (World.block_lt_of_cell? _ _ (HLS.out i h))).trans (HLS.out i h)
    have hsW : SB < W.heap.size := Nat.lt_of_lt_of_le hSB hbel.size
    have hq2 : q = canonL q [12, 13, 14, 15, 16, 17, 18] _ := hq
    simp only [canonL] at hq2
    rw [e13, e18] at hq2
    clear hq hv e13 e18
    generalize q.eval (.tmp 12) = u12 at hq2
    generalize q.eval (.tmp 14) = u14 at hq2
    generalize q.eval (.tmp 15) = u15 at hq2
    generalize q.eval (.tmp 16) = u16 at hq2
    generalize q.eval (.tmp 17) = u17 at hq2
    subst hq2
    clear hB hBB hBI HF HLS hbel
    obtain ⟨xs, hxs, hxk⟩ := HFW.out.oe.kr
    have HXS := Lib.hid hxs
    have HXK := Lib.hid hxk
    clear hxs hxk
    obtain ⟨i0, hi0', hz0, hz1, hz2⟩ := info_parts infoElem
    simp only [List.drop_succ_cons, List.drop_zero]
    go_simp
    refine wpList_append_lies _ rfl _ _ 28 rfl (w.heap.size + 1) 30 i0 _ 5 96 Tryz.underlying28 hi0' hz0 hz1 hz2 rfl (by decide) _ kk.length xs rfl HXS.out ⟨B, 0, none⟩ 1 1 [.string ((idE ⟨#[99, 108, 105, 101, 110, 116]⟩ ⟨#[112, 99]⟩)).sp, .string ((idE ⟨#[99, 108, 105, 101, 110, 116]⟩ ⟨#[112, 99]⟩)).nm, .slice aA7 ((idE ⟨#[99, 108, 105, 101, 110, 116]⟩ ⟨#[112, 99]⟩)).atr.length cA7, .string ((idE ⟨#[99, 108, 105, 101, 110, 116]⟩ ⟨#[112, 99]⟩)).tx, .slice aK7 ((idE ⟨#[99, 108, 105, 101, 110, 116]⟩ ⟨#[112, 99]⟩)).ks.length cK7] rfl rfl (World.news_of_block (cs := #[.string ((idE ⟨#[99, 108, 105, 101, 110, 116]⟩ ⟨#[112, 99]⟩)).sp, .string ((idE ⟨#[99, 108, 105, 101, 110, 116]⟩ ⟨#[112, 99]⟩)).nm, .slice aA7 ((idE ⟨#[99, 108, 105, 101, 110, 116]⟩ ⟨#[112, 99]⟩)).atr.length cA7, .string ((idE ⟨#[99, 108, 105, 101, 110, 116]⟩ ⟨#[112, 99]⟩)).tx, .slice aK7 ((idE ⟨#[99, 108, 105, 101, 110, 116]⟩ ⟨#[112, 99]⟩)).ks.length cK7]) (t := 30) (fr := (0, 0)) HBB.out) (by simp [Value.oneCell']) (by decide) (by unfold maxLen; omega) (by omega) hTW _ rfl ?_
    intro g cap w5 hown hgrow hat hlt5
    have ht5 := (hgrow.block _ (heap_lt HFW.out.tb) (fun e => HFW.out.nt e.symm)).trans HFW.out.tb
    have t5 := (bx5 ht5).2.2.2.2
    have f5 := Lib.frozen_of_heap ht5 4
    have HF5 := Lib.hid (HFW.out.app HXS.out HXK.out hgrow hat HBI.out hown)
    have HOS5 : Hid (g ≠ SB) := by
      rcases hat with h | h
      · intro e; exact HOS.out (h.trans (by rw [e]))
      · show _ ≠ _; omega
    have HLS5 : Hid (∀ i (h : i < L.length), (w5.setCell ⟨T, 4, none⟩ (.slice (some ⟨g, 0, none⟩) (kk.length + 1) cap)).cell? ⟨SB, i, none⟩ = some (.string L[i])) := fun i h => (World.cell?_of_block (a := ⟨SB, i, none⟩) (setCell_other hST)).trans ((World.cell?_of_block (a := ⟨SB, i, none⟩) (hgrow.block SB hsW (fun e => HOS.out e.symm))).trans (HLW.out i h))
    have hsz5 : SB < (w5.setCell ⟨T, 4, none⟩ (.slice (some ⟨g, 0, none⟩) (kk.length + 1) cap)).heap.size := by have := hgrow.size; simp; omega
    go_wp2_with fail
    clear hown hgrow hat hlt5 t5 f5 ht5 HFW HXS HXK HBB HBI HLW HOS hsW
    generalize w5.setCell ⟨T, 4, none⟩ (.slice (some ⟨g, 0, none⟩) (kk.length + 1) cap) = W6 at HF5 HLS5 hsz5 ⊢
    have HK1 : Hid (kk ++ [(idE ⟨#[99, 108, 105, 101, 110, 116]⟩ ⟨#[112, 99]⟩)] = [(idE ⟨#[99, 108, 105, 101, 110, 116]⟩ ⟨#[112, 99]⟩)]) := by show _ = _; rw [HKK.out]; rfl
    have hk1 : (kk ++ [(idE ⟨#[99, 108, 105, 101, 110, 116]⟩ ⟨#[112, 99]⟩)]).length = 1 := by rw [HK1.out]; rfl
    clear HKK hkn
    generalize kk ++ [(idE ⟨#[99, 108, 105, 101, 110, 116]⟩ ⟨#[112, 99]⟩)] = k1 at HF5 HK1 hk1
    generalize kk.length + 1 = n1 at *
    go_wp2_with fail
    go_loopw [7] (fun i wr => ∃ (k : Nat) (a : Option Addr) (c : Nat), i = .int .i64 k ∧ k ≤ 2 ∧ Hid (Fm w w.heap.size T ⟨#[104, 116, 116, 112, 58, 47, 47, 106, 97, 98, 98, 101, 114, 46, 111, 114, 103, 47, 112, 114, 111, 116, 111, 99, 111, 108, 47, 100, 105, 115, 99, 111, 35, 105, 110, 102, 111]⟩ ⟨#[113, 117, 101, 114, 121]⟩ none 0 (k1 ++ (L.take k).map featE) a c wr) ∧ Hid (ob a (k1 ++ (L.take k).map featE).length c ≠ some SB) ∧ Hid (∀ i (h : i < L.length), wr.cell? ⟨SB, i, none⟩ = some (.string L[i])) ∧ SB < wr.heap.size) (fun i _ => 2 - (RowKit.intOf i).toNat)
    case atStart => exact ⟨0, _, _, rfl, Nat.zero_le _, (by show Fm _ _ _ _ _ _ _ _ _ _ _; rw [List.take_zero, List.map_nil, List.append_nil]; exact HF5.out), (fun e => by have e2 : some g = some SB := e; injection e2 with e3; exact HOS5.out e3), HLS5.out, hsz5⟩
    case round =>
      clear HF5 HLS5 HOS5 hsz5
      obtain ⟨k, a, c, rfl, hk, HF, HOS, HLS, hSB⟩ := hrel
      by_cases hlt : k < 2
      · have hkL : k < L.length := by omega
        have hs := HLS.out k hkL
        have hss := HSZ.out _ (List.getElem_mem hkL)
        have HTK : Hid (k1 ++ (L.take (k + 1)).map featE = (k1 ++ (L.take k).map featE) ++ [featE L[k]]) := by
          show _ = _
          rw [List.take_succ_eq_append_getElem hkL, List.map_append, List.append_assoc]; rfl
        have hkn : (k1 ++ (L.take k).map featE).length ≤ 900 := by rw [List.length_append, List.length_map, List.length_take]; omega
        have q1 : ((k : Int) < 2) := by omega
        have q2 : (0 : Int) ≤ k := by omega
        generalize L[k] = s at hs hss HTK
        generalize k1 ++ (L.take k).map featE = kk at HF HTK hkn HOS
        go_upto_region 9 with fail
        refine region_psi 9 (fun j => [27, 28, 29, 30, 31, 32, 33, 34, 35].getD j 0) (psL [Pr.eq (.pointer (some ⟨T, 4, none⟩)), Pr.eq (.slice a kk.length c), Pr.eq (.slice (some ⟨SB, 0, none⟩) 2 2), Pr.eq (.int .i64 (k : Int)), Pr.eq (.pointer (some ⟨SB, k, none⟩)), Pr.eq (.string s), Pr.blk (wr.heap.size) 2 #[.string ⟨#[118, 97, 114]⟩, .string s] 9, Pr.el wr.heap.size (featE s), Pr.row (wr.heap.size) (featE s)]) (by kernel_rfl) (by kernel_rfl) (by kernel_rfl) (by kernel_rfl) (by decide) (by kernel_rfl) (by kernel_rfl) (psL_mono _) ?_ ?_
        · intro i o hi ho q W hsz hout hbel hdep
          obtain ⟨x0, x1, x2, x3, x4⟩ := (HF.out.st hbel).load
          have s0 := (hbel.cell (p := ⟨SB, k, none⟩) hSB).trans hs
          have hc : i = 0 ∨ i = 1 ∨ i = 2 ∨ i = 3 ∨ i = 4 ∨ i = 5 ∨ i = 6 ∨ i = 7 ∨ i = 8 := by omega
          rcases hc with rfl | rfl | rfl | rfl | rfl | rfl | rfl | rfl | rfl
          · -- 0
            cases ho
            have e3 : q.eval (.tmp 3) = .pointer (some ⟨T, 0, none⟩) := (hout 3 (by decide)).trans rfl
            refine gives_read (v := .pointer (some ⟨T, 4, none⟩)) ?_ rfl
            unfold execOp
            dsimp only
            rw [e3]
            go_simp
          · -- 1
            cases ho
            have e27 : q.eval (.tmp 27) = .pointer (some ⟨T, 4, none⟩) := hdep ⟨0, .data⟩ (by simp) rfl (by decide)
            refine gives_read (v := .slice a kk.length c) ?_ rfl
            unfold execOp
            dsimp only
            rw [e27]
            go_simp
          · -- 2
            cases ho
            have e6 : q.eval (.tmp 6) = .slice (some ⟨SB, 0, none⟩) 2 2 := (hout 6 (by decide)).trans rfl
            refine gives_read (v := .slice (some ⟨SB, 0, none⟩) 2 2) ?_ rfl
            unfold execOp
            dsimp only
            rw [e6]
            go_simp
          · -- 3
            cases ho
            have e7 : q.eval (.tmp 7) = .int .i64 (k : Int) := (hout 7 (by decide)).trans rfl
            refine gives_read (v := .int .i64 (k : Int)) ?_ rfl
            unfold execOp
            dsimp only
            rw [e7]
            go_simp
          · -- 4
            cases ho
            have e29 : q.eval (.tmp 29) = .slice (some ⟨SB, 0, none⟩) 2 2 := hdep ⟨2, .data⟩ (by simp) rfl (by decide)
            have e30 : q.eval (.tmp 30) = .int .i64 (k : Int) := hdep ⟨3, .data⟩ (by simp) rfl (by decide)
            refine gives_read (v := .pointer (some ⟨SB, k, none⟩)) ?_ rfl
            unfold execOp
            dsimp only
            rw [e29, e30]
            go_simp
          · -- 5
            cases ho
            have e31 : q.eval (.tmp 31) = .pointer (some ⟨SB, k, none⟩) := hdep ⟨4, .data⟩ (by simp) rfl (by decide)
            refine gives_read (v := .string s) ?_ rfl
            unfold execOp
            dsimp only
            rw [e31]
            go_simp
          · -- 6
            cases ho
            have e32 : q.eval (.tmp 32) = .string s := hdep ⟨5, .data⟩ (by simp) rfl (by decide)
            refine gives_run (W' := W.alloc (.cells #[.string ⟨#[118, 97, 114]⟩, .string s] 9)) (v := .slice (some ⟨W.heap.size, 0, none⟩) 2 2) ?_ ((Below.refl _ W).alloc (Nat.le_refl _) _) (blk_new (by have := hbel.size; omega))
            unfold execOp
            dsimp only
            simp only [List.map_toArray, List.map_cons, List.map_nil, e32]
            go_simp
          · -- 7
            cases ho
            obtain ⟨S, e33, hSN, hS⟩ : ∃ S, q.eval (.tmp 33) = .slice (some ⟨S, 0, none⟩) 2 2 ∧ wr.heap.size ≤ S ∧ W.heap[S]? = some (.cells #[.string ⟨#[118, 97, 114]⟩, .string s] 9 (0, 0)) := hdep ⟨6, .data⟩ (by simp) rfl (by decide)
            clear hSN
            refine gives_call (f := 37) (args := #[.string ⟨#[104, 116, 116, 112, 58, 47, 47, 106, 97, 98, 98, 101, 114, 46, 111, 114, 103, 47, 112, 114, 111, 116, 111, 99, 111, 108, 47, 100, 105, 115, 99, 111, 35, 105, 110, 102, 111]⟩, .string ⟨#[102, 101, 97, 116, 117, 114, 101]⟩, .slice (some ⟨S, 0, none⟩) 2 2]) ?_ ((rNew_any ⟨#[104, 116, 116, 112, 58, 47, 47, 106, 97, 98, 98, 101, 114, 46, 111, 114, 103, 47, 112, 114, 111, 116, 111, 99, 111, 108, 47, 100, 105, 115, 99, 111, 35, 105, 110, 102, 111]⟩ ⟨#[102, 101, 97, 116, 117, 114, 101]⟩ [⟨#[118, 97, 114]⟩, s] (some ⟨S, 0, none⟩) 2 W (by decide) (by decide) (by simp) (sz2 (by decide) hss) (str_mem2 hS)).mono ?_)
            · unfold execOp
              dsimp only
              simp only [resolve, List.map_toArray, List.map_cons, List.map_nil, e33]
              go_simp
            · rintro e W' ⟨a7, c7, rfl, hin, hb⟩
              exact ⟨_, rfl, hb, a7, c7, none, 0, rfl, hin.weak fun _ _ h => Nat.le_trans hbel.size h⟩
          · -- 8
            cases ho
            obtain ⟨aA, cA, aK, cK, e34, hE⟩ : ∃ aA cA aK cK, q.eval (.tmp 34) = .agg #[.string ((featE s)).sp, .string ((featE s)).nm, .slice aA ((featE s)).atr.length cA, .string ((featE s)).tx, .slice aK ((featE s)).ks.length cK] ∧ InS (fun b => wr.heap.size ≤ b) W (featE s) (q.eval (.tmp 34)) := hdep ⟨7, .data⟩ (by simp) rfl (by decide)
            rw [e34] at hE
            refine gives_run (W' := W.alloc (.cells #[.string ((featE s)).sp, .string ((featE s)).nm, .slice aA ((featE s)).atr.length cA, .string ((featE s)).tx, .slice aK ((featE s)).ks.length cK] 30)) (v := .slice (some ⟨W.heap.size, 0, none⟩) 1 1) ?_ ((Below.refl _ W).alloc (Nat.le_refl _) _) (row_new (by have := hbel.size; omega) hE)
            unfold execOp
            dsimp only
            simp only [List.map_toArray, List.map_cons, List.map_nil, e34]
            go_simp
        · intro q W hq hbel hv
          have e28 : q.eval (.tmp 28) = .slice a kk.length c := hv 1 (by decide)
          obtain ⟨B, v0, v1, v2, v3, v4, e35, hB, hBB, hBI⟩ : ∃ B v0 v1 v2 v3 v4, q.eval (.tmp 35) = .slice (some ⟨B, 0, none⟩) 1 1 ∧ wr.heap.size ≤ B ∧ W.heap[B]? = some (.cells #[v0, v1, v2, v3, v4] 30 (0, 0)) ∧ InS (fun b => wr.heap.size ≤ b) W (featE s) (.agg #[v0, v1, v2, v3, v4]) := hv 8 (by decide)
          have HFW := Lib.hid (HF.out.st hbel)
          have hTW : w.heap.size + 1 ≤ W.heap.size := heap_lt HFW.out.rb
          have HBB := Lib.hid hBB
          have HBI : Hid (InS (fun b => (w.heap.size < b ∧ b ≠ T) ∧ ob a kk.length c ≠ some b) W (featE s) (.agg #[v0, v1, v2, v3, v4])) := hBI.weak fun b _ hb => ⟨⟨Nat.lt_of_lt_of_le (heap_lt HF.out.rb) hb, fun e => by have := heap_lt HF.out.tb; omega⟩, fun e => by have := (HF.out.oe.lt b e).2; omega⟩
          obtain ⟨aA7, cA7, aK7, cK7, hsh, _⟩ := hBI.toIn.out
          simp only [Value.agg.injEq] at hsh
          injection hsh with hsh
          simp only [List.cons.injEq] at hsh
          obtain ⟨rfl, rfl, rfl, rfl, rfl, _⟩ := hsh
          have HLW : Hid (∀ i (h : i < L.length), W.cell? ⟨SB, i, none⟩ = some (.string L[i])) := fun i h => (hbel.cell (p := ⟨SB, i, none⟩) (World.block_lt_of_cell? _ _ (HLS.out i h))).trans (HLS.out i h)
          have hsW : SB < W.heap.size := Nat.lt_of_lt_of_le hSB hbel.size
          have hq2 : q = canonL q [27, 28, 29, 30, 31, 32, 33, 34, 35] _ := hq
          simp only [canonL] at hq2
          rw [e28, e35] at hq2
          clear hq hv e28 e35
          generalize q.eval (.tmp 27) = u27 at hq2
          generalize q.eval (.tmp 29) = u29 at hq2
          generalize q.eval (.tmp 30) = u30 at hq2
          generalize q.eval (.tmp 31) = u31 at hq2
          generalize q.eval (.tmp 32) = u32 at hq2
          generalize q.eval (.tmp 33) = u33 at hq2
          generalize q.eval (.tmp 34) = u34 at hq2
          subst hq2
          clear hB hBB hBI HF HLS hbel
          obtain ⟨xs, hxs, hxk⟩ := HFW.out.oe.kr
          have HXS := Lib.hid hxs
          have HXK := Lib.hid hxk
          clear hxs hxk
          obtain ⟨i0, hi0', hz0, hz1, hz2⟩ := info_parts infoElem
          simp only [List.drop_succ_cons, List.drop_zero]
          go_simp
          refine wpList_append_lies _ rfl _ _ 28 rfl (w.heap.size + 1) 30 i0 _ 5 96 Tryz.underlying28 hi0' hz0 hz1 hz2 rfl (by decide) _ kk.length xs rfl HXS.out ⟨B, 0, none⟩ 1 1 [.string ((featE s)).sp, .string ((featE s)).nm, .slice aA7 ((featE s)).atr.length cA7, .string ((featE s)).tx, .slice aK7 ((featE s)).ks.length cK7] rfl rfl (World.news_of_block (cs := #[.string ((featE s)).sp, .string ((featE s)).nm, .slice aA7 ((featE s)).atr.length cA7, .string ((featE s)).tx, .slice aK7 ((featE s)).ks.length cK7]) (t := 30) (fr := (0, 0)) HBB.out) (by simp [Value.oneCell']) (by decide) (by unfold maxLen; omega) (by omega) hTW _ rfl ?_
          intro g cap w5 hown hgrow hat hlt5
          have ht5 := (hgrow.block _ (heap_lt HFW.out.tb) (fun e => HFW.out.nt e.symm)).trans HFW.out.tb
          have t5 := (bx5 ht5).2.2.2.2
          have f5 := Lib.frozen_of_heap ht5 4
          have HF5 := Lib.hid (HFW.out.app HXS.out HXK.out hgrow hat HBI.out hown)
          have HOS5 : Hid (g ≠ SB) := by
            rcases hat with h | h
            · intro e; exact HOS.out (h.trans (by rw [e]))
            · show _ ≠ _; omega
          have HLS5 : Hid (∀ i (h : i < L.length), (w5.setCell ⟨T, 4, none⟩ (.slice (some ⟨g, 0, none⟩) (kk.length + 1) cap)).cell? ⟨SB, i, none⟩ = some (.string L[i])) := fun i h => (World.cell?_of_block (a := ⟨SB, i, none⟩) (setCell_other hST)).trans ((World.cell?_of_block (a := ⟨SB, i, none⟩) (hgrow.block SB hsW (fun e => HOS.out e.symm))).trans (HLW.out i h))
          have hsz5 : SB < (w5.setCell ⟨T, 4, none⟩ (.slice (some ⟨g, 0, none⟩) (kk.length + 1) cap)).heap.size := by have := hgrow.size; simp; omega
          go_wp2_with fail
          clear hown hgrow hat hlt5 t5 f5 ht5 HFW HXS HXK HBB HBI HLW HOS hsW
          generalize w5.setCell ⟨T, 4, none⟩ (.slice (some ⟨g, 0, none⟩) (kk.length + 1) cap) = W6 at HF5 HLS5 hsz5 ⊢
          rw [← HTK.out] at HF5
          go_roundw
          case rel => exact ⟨k + 1, _, _, by go_num, by omega, HF5.out, (fun e => by have e2 : some g = some SB := e; injection e2 with e3; exact HOS5.out e3), HLS5.out, hsz5⟩
          case measure => simp [RowKit.intOf]; omega
      · obtain rfl : k = 2 := by omega
        have HE : Hid (infoE false = .mk ⟨#[104, 116, 116, 112, 58, 47, 47, 106, 97, 98, 98, 101, 114, 46, 111, 114, 103, 47, 112, 114, 111, 116, 111, 99, 111, 108, 47, 100, 105, 115, 99, 111, 35, 105, 110, 102, 111]⟩ ⟨#[113, 117, 101, 114, 121]⟩ [] ⟨#[]⟩ (k1 ++ (L.take 2).map featE)) := by
          show _ = _
          rw [HK1.out, HLL.out]; rfl
        generalize k1 ++ (L.take 2).map featE = kk at HF HE
        obtain ⟨x0, x1, x2, x3, x4⟩ := HF.out.load
        obtain ⟨q0, q1, q2, q3, q4⟩ := bx5 HF.out.rb
        have p0 := Lib.frozen_of_heap HF.out.rb 0
        have p1 := Lib.frozen_of_heap HF.out.rb 1
        have p2 := Lib.frozen_of_heap HF.out.rb 2
        have p3 := Lib.frozen_of_heap HF.out.rb 3
        have p4 := Lib.frozen_of_heap HF.out.rb 4
        clear HOS HLS
        go_wp2_with fail
        refine bodyPost_ret (v := .agg #[.string ⟨#[104, 116, 116, 112, 58, 47, 47, 106, 97, 98, 98, 101, 114, 46, 111, 114, 103, 47, 112, 114, 111, 116, 111, 99, 111, 108, 47, 100, 105, 115, 99, 111, 35, 105, 110, 102, 111]⟩, .string ⟨#[113, 117, 101, 114, 121]⟩, .slice none 0 0, .string ⟨#[]⟩, .slice a kk.length c]) (by simp [results, Tryz.results16, go_sem, q0, q1, q2, q3, q4]) rfl ?_
        rw [HE.out]
        have hf := HF.out.fin (u0 := .string ⟨#[104, 116, 116, 112, 58, 47, 47, 106, 97, 98, 98, 101, 114, 46, 111, 114, 103, 47, 112, 114, 111, 116, 111, 99, 111, 108, 47, 100, 105, 115, 99, 111, 35, 105, 110, 102, 111]⟩) (u1 := .string ⟨#[113, 117, 101, 114, 121]⟩) (u2 := .slice none 0 0) (u3 := .string ⟨#[]⟩) (u4 := .slice a kk.length c)
        exact ⟨_, rfl, hf.1, hf.2⟩
set_option maxRecDepth 100000 in
set_option maxHeartbeats 8000000 in
theorem rinfo_t (w : World) : Calls Tryz.prog 16 #[.bool true] w (ElP (infoE true) w) := by
  have HF0 := Lib.hid (fm0_t w ⟨#[104, 116, 116, 112, 58, 47, 47, 106, 97, 98, 98, 101, 114, 46, 111, 114, 103, 47, 112, 114, 111, 116, 111, 99, 111, 108, 47, 100, 105, 115, 99, 111, 35, 105, 110, 102, 111]⟩ (by decide) (by decide) (.cells #[.string ⟨#[104, 116, 116, 112, 58, 47, 47, 106, 97, 98, 98, 101, 114, 46, 111, 114, 103, 47, 112, 114, 111, 116, 111, 99, 111, 108, 47, 100, 105, 115, 99, 111, 35, 105, 110, 102, 111]⟩, .string ⟨#[106, 97, 98, 98, 101, 114, 58, 105, 113, 58, 108, 97, 115, 116]⟩] 9) (.cells #[.string ⟨#[106, 97, 98, 98, 101, 114, 58, 105, 113, 58, 114, 101, 103, 105, 115, 116, 101, 114]⟩, .string ⟨#[106, 97, 98, 98, 101, 114, 58, 105, 113, 58, 103, 97, 116, 101, 119, 97, 121]⟩, .string ⟨#[104, 116, 116, 112, 58, 47, 47, 106, 97, 98, 98, 101, 114, 46, 111, 114, 103, 47, 112, 114, 111, 116, 111, 99, 111, 108, 47, 100, 105, 115, 99, 111, 35, 105, 110, 102, 111]⟩, .string ⟨#[104, 116, 116, 112, 58, 47, 47, 106, 97, 98, 98, 101, 114, 46, 111, 114, 103, 47, 112, 114, 111, 116, 111, 99, 111, 108, 47, 100, 105, 115, 99, 111, 35, 105, 116, 101, 109, 115]⟩, .string ⟨#[106, 97, 98, 98, 101, 114, 58, 105, 113, 58, 108, 97, 115, 116]⟩] 9))
  have HS0 := Lib.hid (ss0_t w (.cells #[.string ⟨#[]⟩, .string ⟨#[]⟩, .slice none 0 0, .string ⟨#[]⟩, .slice none 0 0] 30) (.cells #[.string ⟨#[104, 116, 116, 112, 58, 47, 47, 106, 97, 98, 98, 101, 114, 46, 111, 114, 103, 47, 112, 114, 111, 116, 111, 99, 111, 108, 47, 100, 105, 115, 99, 111, 35, 105, 110, 102, 111]⟩, .string ⟨#[113, 117, 101, 114, 121]⟩, .slice none 0 0, .string ⟨#[]⟩, .slice none 0 0] 30) (.cells #[.string ⟨#[104, 116, 116, 112, 58, 47, 47, 106, 97, 98, 98, 101, 114, 46, 111, 114, 103, 47, 112, 114, 111, 116, 111, 99, 111, 108, 47, 100, 105, 115, 99, 111, 35, 105, 110, 102, 111]⟩, .string ⟨#[106, 97, 98, 98, 101, 114, 58, 105, 113, 58, 108, 97, 115, 116]⟩] 9) #[.string ⟨#[106, 97, 98, 98, 101, 114, 58, 105, 113, 58, 114, 101, 103, 105, 115, 116, 101, 114]⟩, .string ⟨#[106, 97, 98, 98, 101, 114, 58, 105, 113, 58, 103, 97, 116, 101, 119, 97, 121]⟩, .string ⟨#[104, 116, 116, 112, 58, 47, 47, 106, 97, 98, 98, 101, 114, 46, 111, 114, 103, 47, 112, 114, 111, 116, 111, 99, 111, 108, 47, 100, 105, 115, 99, 111, 35, 105, 110, 102, 111]⟩, .string ⟨#[104, 116, 116, 112, 58, 47, 47, 106, 97, 98, 98, 101, 114, 46, 111, 114, 103, 47, 112, 114, 111, 116, 111, 99, 111, 108, 47, 100, 105, 115, 99, 111, 35, 105, 116, 101, 109, 115]⟩, .string ⟨#[106, 97, 98, 98, 101, 114, 58, 105, 113, 58, 108, 97, 115, 116]⟩] 9)
  go_enter Tryz.func16, Tryz.ntmps16
  go_upto_region 5 with fail
  generalize ((((w.alloc (.cells #[.string ⟨#[]⟩, .string ⟨#[]⟩, .slice none 0 0, .string ⟨#[]⟩, .slice none 0 0] 30)).alloc (.cells #[.string ⟨#[104, 116, 116, 112, 58, 47, 47, 106, 97, 98, 98, 101, 114, 46, 111, 114, 103, 47, 112, 114, 111, 116, 111, 99, 111, 108, 47, 100, 105, 115, 99, 111, 35, 105, 110, 102, 111]⟩, .string ⟨#[113, 117, 101, 114, 121]⟩, .slice none 0 0, .string ⟨#[]⟩, .slice none 0 0] 30)).alloc (.cells #[.string ⟨#[104, 116, 116, 112, 58, 47, 47, 106, 97, 98, 98, 101, 114, 46, 111, 114, 103, 47, 112, 114, 111, 116, 111, 99, 111, 108, 47, 100, 105, 115, 99, 111, 35, 105, 110, 102, 111]⟩, .string ⟨#[106, 97, 98, 98, 101, 114, 58, 105, 113, 58, 108, 97, 115, 116]⟩] 9)).alloc (.cells #[.string ⟨#[106, 97, 98, 98, 101, 114, 58, 105, 113, 58, 114, 101, 103, 105, 115, 116, 101, 114]⟩, .string ⟨#[106, 97, 98, 98, 101, 114, 58, 105, 113, 58, 103, 97, 116, 101, 119, 97, 121]⟩, .string ⟨#[104, 116, 116, 112, 58, 47, 47, 106, 97, 98, 98, 101, 114, 46, 111, 114, 103, 47, 112, 114, 111, 116, 111, 99, 111, 108, 47, 100, 105, 115, 99, 111, 35, 105, 110, 102, 111]⟩, .string ⟨#[104, 116, 116, 112, 58, 47, 47, 106, 97, 98, 98, 101, 114, 46, 111, 114, 103, 47, 112, 114, 111, 116, 111, 99, 111, 108, 47, 100, 105, 115, 99, 111, 35, 105, 116, 101, 109, 115]⟩, .string ⟨#[106, 97, 98, 98, 101, 114, 58, 105, 113, 58, 108, 97, 115, 116]⟩] 9)) = W0 at HF0 HS0 ⊢
  obtain ⟨SB, hSBe⟩ : ∃ SB, SB = w.heap.size + 1 + 1 + 1 := ⟨_, rfl⟩
  rw [← hSBe] at HS0 ⊢
  obtain ⟨T, hTe⟩ : ∃ T, T = w.heap.size + 1 := ⟨_, rfl⟩
  rw [← hTe] at HF0 ⊢
  have hST : SB ≠ T := by omega
  clear hSBe hTe
  obtain ⟨L, hL⟩ : ∃ L : List ByteArray, L = [⟨#[106, 97, 98, 98, 101, 114, 58, 105, 113, 58, 114, 101, 103, 105, 115, 116, 101, 114]⟩, ⟨#[106, 97, 98, 98, 101, 114, 58, 105, 113, 58, 103, 97, 116, 101, 119, 97, 121]⟩, ⟨#[104, 116, 116, 112, 58, 47, 47, 106, 97, 98, 98, 101, 114, 46, 111, 114, 103, 47, 112, 114, 111, 116, 111, 99, 111, 108, 47, 100, 105, 115, 99, 111, 35, 105, 110, 102, 111]⟩, ⟨#[104, 116, 116, 112, 58, 47, 47, 106, 97, 98, 98, 101, 114, 46, 111, 114, 103, 47, 112, 114, 111, 116, 111, 99, 111, 108, 47, 100, 105, 115, 99, 111, 35, 105, 116, 101, 109, 115]⟩, ⟨#[106, 97, 98, 98, 101, 114, 58, 105, 113, 58, 108, 97, 115, 116]⟩] := ⟨_, rfl⟩
  have HLS : Hid (∀ i (h : i < L.length), W0.cell? ⟨SB, i, none⟩ = some (.string L[i])) := by
    subst hL
    intro i hi
    have hi2 : i < 5 := hi
    rw [Lib.cell_of_heap HS0.out]
    have hc : i = 0 ∨ i = 1 ∨ i = 2 ∨ i = 3 ∨ i = 4 := by omega
    rcases hc with rfl | rfl | rfl | rfl | rfl <;> rfl
  have hLn : L.length = 5 := by rw [hL]; rfl
  have HSZ : Hid (∀ s ∈ L, s.size ≤ 1048576) := by
    subst hL
    show ∀ s ∈ ([⟨#[106, 97, 98, 98, 101, 114, 58, 105, 113, 58, 114, 101, 103, 105, 115, 116, 101, 114]⟩, ⟨#[106, 97, 98, 98, 101, 114, 58, 105, 113, 58, 103, 97, 116, 101, 119, 97, 121]⟩, ⟨#[104, 116, 116, 112, 58, 47, 47, 106, 97, 98, 98, 101, 114, 46, 111, 114, 103, 47, 112, 114, 111, 116, 111, 99, 111, 108, 47, 100, 105, 115, 99, 111, 35, 105, 110, 102, 111]⟩, ⟨#[104, 116, 116, 112, 58, 47, 47, 106, 97, 98, 98, 101, 114, 46, 111, 114, 103, 47, 112, 114, 111, 116, 111, 99, 111, 108, 47, 100, 105, 115, 99, 111, 35, 105, 116, 101, 109, 115]⟩, ⟨#[106, 97, 98, 98, 101, 114, 58, 105, 113, 58, 108, 97, 115, 116]⟩] : List ByteArray), s.size ≤ 1048576
    decide
  have HLL := Lib.hid hL
  clear hL
  have hSB : SB < W0.heap.size := heap_lt HS0.out
  clear HS0
  obtain ⟨kk, a, c, hkk, ha, hc0, HOS⟩ : ∃ (kk : List El) (a : Option Addr) (c : Nat), kk = [] ∧ a = none ∧ c = 0 ∧ Hid (ob a kk.length c ≠ some SB) := ⟨[], none, 0, rfl, rfl, rfl, fun e => by cases e⟩
  have HF : Hid (Fm w w.heap.size T ⟨#[104, 116, 116, 112, 58, 47, 47, 106, 97, 98, 98, 101, 114, 46, 111, 114, 103, 47, 112, 114, 111, 116, 111, 99, 111, 108, 47, 100, 105, 115, 99, 111, 35, 105, 110, 102, 111]⟩ ⟨#[113, 117, 101, 114, 121]⟩ none 0 kk a c W0) := by show Fm _ _ _ _ _ _ _ _ _ _ _; rw [hkk, ha, hc0]; exact HF0.out
  have HKK := Lib.hid hkk
  have hkn : kk.length ≤ 900 := by rw [hkk]; decide
  clear HF0 ha hc0 hkk
  refine region_psi 7 (fun j => [12, 13, 14, 15, 16, 17, 18].getD j 0) (psL [Pr.eq (.pointer (some ⟨T, 4, none⟩)), Pr.eq (.slice a kk.length c), Pr.eq (.string ⟨#[103, 97, 116, 101, 119, 97, 121]⟩), Pr.eq (.string ⟨#[97, 105, 109]⟩), Pr.blk (W0.heap.size) 4 #[.string ⟨#[99, 97, 116, 101, 103, 111, 114, 121]⟩, .string ⟨#[103, 97, 116, 101, 119, 97, 121]⟩, .string ⟨#[116, 121, 112, 101]⟩, .string ⟨#[97, 105, 109]⟩] 9, Pr.el W0.heap.size (idE ⟨#[103, 97, 116, 101, 119, 97, 121]⟩ ⟨#[97, 105, 109]⟩), Pr.row (W0.heap.size) (idE ⟨#[103, 97, 116, 101, 119, 97, 121]⟩ ⟨#[97, 105, 109]⟩)]) (by kernel_rfl) (by kernel_rfl) (by kernel_rfl) (by kernel_rfl) (by decide) (by kernel_rfl) (by kernel_rfl) (psL_mono _) ?_ ?_
  · intro i o hi ho q W hsz hout hbel hdep
    obtain ⟨x0, x1, x2, x3, x4⟩ := (HF.out.st hbel).load
    have hc : i = 0 ∨ i = 1 ∨ i = 2 ∨ i = 3 ∨ i = 4 ∨ i = 5 ∨ i = 6 := by omega
    rcases hc with rfl | rfl | rfl | rfl | rfl | rfl | rfl
    · -- 0
      cases ho
      have e3 : q.eval (.tmp 3) = .pointer (some ⟨T, 0, none⟩) := (hout 3 (by decide)).trans rfl
      refine gives_read (v := .pointer (some ⟨T, 4, none⟩)) ?_ rfl
      unfold execOp
      dsimp only
      rw [e3]
      go_simp
    · -- 1
      cases ho
      have e12 : q.eval (.tmp 12) = .pointer (some ⟨T, 4, none⟩) := hdep ⟨0, .data⟩ (by simp) rfl (by decide)
      refine gives_read (v := .slice a kk.length c) ?_ rfl
      unfold execOp
      dsimp only
      rw [e12]
      go_simp
    · -- 2
      cases ho
      have e4 : q.eval (.tmp 4) = .string ⟨#[103, 97, 116, 101, 119, 97, 121]⟩ := (hout 4 (by decide)).trans rfl
      refine gives_read (v := .string ⟨#[103, 97, 116, 101, 119, 97, 121]⟩) ?_ rfl
      unfold execOp
      dsimp only
      rw [e4]
      go_simp
    · -- 3
      cases ho
      have e5 : q.eval (.tmp 5) = .string ⟨#[97, 105, 109]⟩ := (hout 5 (by decide)).trans rfl
      refine gives_read (v := .string ⟨#[97, 105, 109]⟩) ?_ rfl
      unfold execOp
      dsimp only
      rw [e5]
      go_simp
    · -- 4
      cases ho
      have e14 : q.eval (.tmp 14) = .string ⟨#[103, 97, 116, 101, 119, 97, 121]⟩ := hdep ⟨2, .data⟩ (by simp) rfl (by decide)
      have e15 : q.eval (.tmp 15) = .string ⟨#[97, 105, 109]⟩ := hdep ⟨3, .data⟩ (by simp) rfl (by decide)
      refine gives_run (W' := W.alloc (.cells #[.string ⟨#[99, 97, 116, 101, 103, 111, 114, 121]⟩, .string ⟨#[103, 97, 116, 101, 119, 97, 121]⟩, .string ⟨#[116, 121, 112, 101]⟩, .string ⟨#[97, 105, 109]⟩] 9)) (v := .slice (some ⟨W.heap.size, 0, none⟩) 4 4) ?_ ((Below.refl _ W).alloc (Nat.le_refl _) _) (blk_new (by have := hbel.size; omega))
      unfold execOp
      dsimp only
      simp only [List.map_toArray, List.map_cons, List.map_nil, e14, e15]
      go_simp
    · -- 5
      cases ho
      obtain ⟨S, e16, hSN, hS⟩ : ∃ S, q.eval (.tmp 16) = .slice (some ⟨S, 0, none⟩) 4 4 ∧ W0.heap.size ≤ S ∧ W.heap[S]? = some (.cells #[.string ⟨#[99, 97, 116, 101, 103, 111, 114, 121]⟩, .string ⟨#[103, 97, 116, 101, 119, 97, 121]⟩, .string ⟨#[116, 121, 112, 101]⟩, .string ⟨#[97, 105, 109]⟩] 9 (0, 0)) := hdep ⟨4, .data⟩ (by simp) rfl (by decide)
      clear hSN
      refine gives_call (f := 37) (args := #[.string ⟨#[104, 116, 116, 112, 58, 47, 47, 106, 97, 98, 98, 101, 114, 46, 111, 114, 103, 47, 112, 114, 111, 116, 111, 99, 111, 108, 47, 100, 105, 115, 99, 111, 35, 105, 110, 102, 111]⟩, .string ⟨#[105, 100, 101, 110, 116, 105, 116, 121]⟩, .slice (some ⟨S, 0, none⟩) 4 4]) ?_ ((rNew_any ⟨#[104, 116, 116, 112, 58, 47, 47, 106, 97, 98, 98, 101, 114, 46, 111, 114, 103, 47, 112, 114, 111, 116, 111, 99, 111, 108, 47, 100, 105, 115, 99, 111, 35, 105, 110, 102, 111]⟩ ⟨#[105, 100, 101, 110, 116, 105, 116, 121]⟩ [⟨#[99, 97, 116, 101, 103, 111, 114, 121]⟩, ⟨#[103, 97, 116, 101, 119, 97, 121]⟩, ⟨#[116, 121, 112, 101]⟩, ⟨#[97, 105, 109]⟩] (some ⟨S, 0, none⟩) 4 W (by decide) (by decide) (by simp) (sz4 (by decide) (by decide) (by decide) (by decide)) (str_mem4 hS)).mono ?_)
      · unfold execOp
        dsimp only
        simp only [resolve, List.map_toArray, List.map_cons, List.map_nil, e16]
        go_simp
      · rintro e W' ⟨a7, c7, rfl, hin, hb⟩
        exact ⟨_, rfl, hb, a7, c7, none, 0, rfl, hin.weak fun _ _ h => Nat.le_trans hbel.size h⟩
    · -- 6
      cases ho
      obtain ⟨aA, cA, aK, cK, e17, hE⟩ : ∃ aA cA aK cK, q.eval (.tmp 17) = .agg #[.string ((idE ⟨#[103, 97, 116, 101, 119, 97, 121]⟩ ⟨#[97, 105, 109]⟩)).sp, .string ((idE ⟨#[103, 97, 116, 101, 119, 97, 121]⟩ ⟨#[97, 105, 109]⟩)).nm, .slice aA ((idE ⟨#[103, 97, 116, 101, 119, 97, 121]⟩ ⟨#[97, 105, 109]⟩)).atr.length cA, .string ((idE ⟨#[103, 97, 116, 101, 119, 97, 121]⟩ ⟨#[97, 105, 109]⟩)).tx, .slice aK ((idE ⟨#[103, 97, 116, 101, 119, 97, 121]⟩ ⟨#[97, 105, 109]⟩)).ks.length cK] ∧ InS (fun b => W0.heap.size ≤ b) W (idE ⟨#[103, 97, 116, 101, 119, 97, 121]⟩ ⟨#[97, 105, 109]⟩) (q.eval (.tmp 17)) := hdep ⟨5, .data⟩ (by simp) rfl (by decide)
      rw [e17] at hE
      refine gives_run (W' := W.alloc (.cells #[.string ((idE ⟨#[103, 97, 116, 101, 119, 97, 121]⟩ ⟨#[97, 105, 109]⟩)).sp, .string ((idE ⟨#[103, 97, 116, 101, 119, 97, 121]⟩ ⟨#[97, 105, 109]⟩)).nm, .slice aA ((idE ⟨#[103, 97, 116, 101, 119, 97, 121]⟩ ⟨#[97, 105, 109]⟩)).atr.length cA, .string ((idE ⟨#[103, 97, 116, 101, 119, 97, 121]⟩ ⟨#[97, 105, 109]⟩)).tx, .slice aK ((idE ⟨#[103, 97, 116, 101, 119, 97, 121]⟩ ⟨#[97, 105, 109]⟩)).ks.length cK] 30)) (v := .slice (some ⟨W.heap.size, 0, none⟩) 1 1) ?_ ((Below.refl _ W).alloc (Nat.le_refl _) _) (row_new (by have := hbel.size; omega) hE)
      unfold execOp
      dsimp only
      simp only [List.map_toArray, List.map_cons, List.map_nil, e17]
      go_simp
  · intro q W hq hbel hv
    have e13 : q.eval (.tmp 13) = .slice a kk.length c := hv 1 (by decide)
    obtain ⟨B, v0, v1, v2, v3, v4, e18, hB, hBB, hBI⟩ : ∃ B v0 v1 v2 v3 v4, q.eval (.tmp 18) = .slice (some ⟨B, 0, none⟩) 1 1 ∧ W0.heap.size ≤ B ∧ W.heap[B]? = some (.cells #[v0, v1, v2, v3, v4] 30 (0, 0)) ∧ InS (fun b => W0.heap.size ≤ b) W (idE ⟨#[103, 97, 116, 101, 119, 97, 121]⟩ ⟨#[97, 105, 109]⟩) (.agg #[v0, v1, v2, v3, v4]) := hv 6 (by decide)
    have HFW := Lib.hid (HF.out.st hbel)
    have hTW : w.heap.size + 1 ≤ W.heap.size := heap_lt HFW.out.rb
    have HBB := Lib.hid hBB
    have HBI : Hid (InS (fun b => (w.heap.size < b ∧ b ≠ T) ∧ ob a kk.length c ≠ some b) W (idE ⟨#[103, 97, 116, 101, 119, 97, 121]⟩ ⟨#[97, 105, 109]⟩) (.agg #[v0, v1, v2, v3, v4])) := hBI.weak fun b _ hb => ⟨⟨Nat.lt_of_lt_of_le (heap_lt HF.out.rb) hb, fun e => by have := heap_lt HF.out.tb; omega⟩, fun e => by have := (HF.out.oe.lt b e).2; omega⟩
    obtain ⟨aA7, cA7, aK7, cK7, hsh, _⟩ := hBI.toIn.out
    simp only [Value.agg.injEq] at hsh
    injection hsh with hsh
    simp only [List.cons.injEq] at hsh
    obtain ⟨rfl, rfl, rfl, rfl, rfl, _⟩ := hsh
    have HLW : Hid (∀ i (h : i < L.length), W.cell? ⟨SB, i, none⟩ = some (.string L[i])) := fun i h => (hbel.cell (p := ⟨SB, i, none⟩) (World.block_lt_of_cell? _ _ (HLS.out i h))).trans (HLS.out i h)
    have hsW : SB < W.heap.size := Nat.lt_of_lt_of_le hSB hbel.size
    have hq2 : q = canonL q [12, 13, 14, 15, 16, 17, 18] _ := hq
    simp only [canonL] at hq2
    rw [e13, e18] at hq2
    clear hq hv e13 e18
    generalize q.eval (.tmp 12) = u12 at hq2
    generalize q.eval (.tmp 14) = u14 at hq2
    generalize q.eval (.tmp 15) = u15 at hq2
    generalize q.eval (.tmp 16) = u16 at hq2
    generalize q.eval (.tmp 17) = u17 at hq2
    subst hq2
    clear hB hBB hBI HF HLS hbel
    obtain ⟨xs, hxs, hxk⟩ := HFW.out.oe.kr
    have HXS := Lib.hid hxs
    have HXK := Lib.hid hxk
    clear hxs hxk
    obtain ⟨i0, hi0', hz0, hz1, hz2⟩ := info_parts infoElem
    simp only [List.drop_succ_cons, List.drop_zero]
    go_simp
    refine wpList_append_lies _ rfl _ _ 28 rfl (w.heap.size + 1) 30 i0 _ 5 96 Tryz.underlying28 hi0' hz0 hz1 hz2 rfl (by decide) _ kk.length xs rfl HXS.out ⟨B, 0, none⟩ 1 1 [.string ((idE ⟨#[103, 97, 116, 101, 119, 97, 121]⟩ ⟨#[97, 105, 109]⟩)).sp, .string ((idE ⟨#[103, 97, 116, 101, 119, 97, 121]⟩ ⟨#[97, 105, 109]⟩)).nm, .slice aA7 ((idE ⟨#[103, 97, 116, 101, 119, 97, 121]⟩ ⟨#[97, 105, 109]⟩)).atr.length cA7, .string ((idE ⟨#[103, 97, 116, 101, 119, 97, 121]⟩ ⟨#[97, 105, 109]⟩)).tx, .slice aK7 ((idE ⟨#[103, 97, 116, 101, 119, 97, 121]⟩ ⟨#[97, 105, 109]⟩)).ks.length cK7] rfl rfl (World.news_of_block (cs := #[.string ((idE ⟨#[103, 97, 116, 101, 119, 97, 121]⟩ ⟨#[97, 105, 109]⟩)).sp, .string ((idE ⟨#[103, 97, 116, 101, 119, 97, 121]⟩ ⟨#[97, 105, 109]⟩)).nm, .slice aA7 ((idE ⟨#[103, 97, 116, 101, 119, 97, 121]⟩ ⟨#[97, 105, 109]⟩)).atr.length cA7, .string ((idE ⟨#[103, 97, 116, 101, 119, 97, 121]⟩ ⟨#[97, 105, 109]⟩)).tx, .slice aK7 ((idE ⟨#[103, 97, 116, 101, 119, 97, 121]⟩ ⟨#[97, 105, 109]⟩)).ks.length cK7]) (t := 30) (fr := (0, 0)) HBB.out) (by simp [Value.oneCell']) (by decide) (by unfold maxLen; omega) (by omega) hTW _ rfl ?_
    intro g cap w5 hown hgrow hat hlt5
    have ht5 := (hgrow.block _ (heap_lt HFW.out.tb) (fun e => HFW.out.nt e.symm)).trans HFW.out.tb
    have t5 := (bx5 ht5).2.2.2.2
    have f5 := Lib.frozen_of_heap ht5 4
    have HF5 := Lib.hid (HFW.out.app HXS.out HXK.out hgrow hat HBI.out hown)
    have HOS5 : Hid (g ≠ SB) := by
      rcases hat with h | h
      · intro e; exact HOS.out (h.trans (by rw [e]))
      · show _ ≠ _; omega
    have HLS5 : Hid (∀ i (h : i < L.length), (w5.setCell ⟨T, 4, none⟩ (.slice (some ⟨g, 0, none⟩) (kk.length + 1) cap)).cell? ⟨SB, i, none⟩ = some (.string L[i])) := fun i h => (World.cell?_of_block (a := ⟨SB, i, none⟩) (setCell_other hST)).trans ((World.cell?_of_block (a := ⟨SB, i, none⟩) (hgrow.block SB hsW (fun e => HOS.out e.symm))).trans (HLW.out i h))
    have hsz5 : SB < (w5.setCell ⟨T, 4, none⟩ (.slice (some ⟨g, 0, none⟩) (kk.length + 1) cap)).heap.size := by have := hgrow.size; simp; omega
    go_wp2_with fail
    clear hown hgrow hat hlt5 t5 f5 ht5 HFW HXS HXK HBB HBI HLW HOS hsW
    generalize w5.setCell ⟨T, 4, none⟩ (.slice (some ⟨g, 0, none⟩) (kk.length + 1) cap) = W6 at HF5 HLS5 hsz5 ⊢
    have HK1 : Hid (kk ++ [(idE ⟨#[103, 97, 116, 101, 119, 97, 121]⟩ ⟨#[97, 105, 109]⟩)] = [(idE ⟨#[103, 97, 116, 101, 119, 97, 121]⟩ ⟨#[97, 105, 109]⟩)]) := by show _ = _; rw [HKK.out]; rfl
    have hk1 : (kk ++ [(idE ⟨#[103, 97, 116, 101, 119, 97, 121]⟩ ⟨#[97, 105, 109]⟩)]).length = 1 := by rw [HK1.out]; rfl
    clear HKK hkn
    generalize kk ++ [(idE ⟨#[103, 97, 116, 101, 119, 97, 121]⟩ ⟨#[97, 105, 109]⟩)] = k1 at HF5 HK1 hk1
    generalize kk.length + 1 = n1 at *
    go_wp2_with fail
    go_loopw [7] (fun i wr => ∃ (k : Nat) (a : Option Addr) (c : Nat), i = .int .i64 k ∧ k ≤ 5 ∧ Hid (Fm w w.heap.size T ⟨#[104, 116, 116, 112, 58, 47, 47, 106, 97, 98, 98, 101, 114, 46, 111, 114, 103, 47, 112, 114, 111, 116, 111, 99, 111, 108, 47, 100, 105, 115, 99, 111, 35, 105, 110, 102, 111]⟩ ⟨#[113, 117, 101, 114, 121]⟩ none 0 (k1 ++ (L.take k).map featE) a c wr) ∧ Hid (ob a (k1 ++ (L.take k).map featE).length c ≠ some SB) ∧ Hid (∀ i (h : i < L.length), wr.cell? ⟨SB, i, none⟩ = some (.string L[i])) ∧ SB < wr.heap.size) (fun i _ => 5 - (RowKit.intOf i).toNat)
    case atStart => exact ⟨0, _, _, rfl, Nat.zero_le _, (by show Fm _ _ _ _ _ _ _ _ _ _ _; rw [List.take_zero, List.map_nil, List.append_nil]; exact HF5.out), (fun e => by have e2 : some g = some SB := e; injection e2 with e3; exact HOS5.out e3), HLS5.out, hsz5⟩
    case round =>
      clear HF5 HLS5 HOS5 hsz5
      obtain ⟨k, a, c, rfl, hk, HF, HOS, HLS, hSB⟩ := hrel
      by_cases hlt : k < 5
      · have hkL : k < L.length := by omega
        have hs := HLS.out k hkL
        have hss := HSZ.out _ (List.getElem_mem hkL)
        have HTK : Hid (k1 ++ (L.take (k + 1)).map featE = (k1 ++ (L.take k).map featE) ++ [featE L[k]]) := by
          show _ = _
          rw [List.take_succ_eq_append_getElem hkL, List.map_append, List.append_assoc]; rfl
        have hkn : (k1 ++ (L.take k).map featE).length ≤ 900 := by rw [List.length_append, List.length_map, List.length_take]; omega
        have q1 : ((k : Int) < 5) := by omega
        have q2 : (0 : Int) ≤ k := by omega
        generalize L[k] = s at hs hss HTK
        generalize k1 ++ (L.take k).map featE = kk at HF HTK hkn HOS
        go_upto_region 9 with fail
        refine region_psi 9 (fun j => [27, 28, 29, 30, 31, 32, 33, 34, 35].getD j 0) (psL [Pr.eq (.pointer (some ⟨T, 4, none⟩)), Pr.eq (.slice a kk.length c), Pr.eq (.slice (some ⟨SB, 0, none⟩) 5 5), Pr.eq (.int .i64 (k : Int)), Pr.eq (.pointer (some ⟨SB, k, none⟩)), Pr.eq (.string s), Pr.blk (wr.heap.size) 2 #[.string ⟨#[118, 97, 114]⟩, .string s] 9, Pr.el wr.heap.size (featE s), Pr.row (wr.heap.size) (featE s)]) (by kernel_rfl) (by kernel_rfl) (by kernel_rfl) (by kernel_rfl) (by decide) (by kernel_rfl) (by kernel_rfl) (psL_mono _) ?_ ?_
        · intro i o hi ho q W hsz hout hbel hdep
          obtain ⟨x0, x1, x2, x3, x4⟩ := (HF.out.st hbel).load
          have s0 := (hbel.cell (p := ⟨SB, k, none⟩) hSB).trans hs
          have hc : i = 0 ∨ i = 1 ∨ i = 2 ∨ i = 3 ∨ i = 4 ∨ i = 5 ∨ i = 6 ∨ i = 7 ∨ i = 8 := by omega
          rcases hc with rfl | rfl | rfl | rfl | rfl | rfl | rfl | rfl | rfl
          · -- 0
            cases ho
            have e3 : q.eval (.tmp 3) = .pointer (some ⟨T, 0, none⟩) := (hout 3 (by decide)).trans rfl
            refine gives_read (v := .pointer (some ⟨T, 4, none⟩)) ?_ rfl
            unfold execOp
            dsimp only
            rw [e3]
            go_simp
          · -- 1
            cases ho
            have e27 : q.eval (.tmp 27) = .pointer (some ⟨T, 4, none⟩) := hdep ⟨0, .data⟩ (by simp) rfl (by decide)
            refine gives_read (v := .slice a kk.length c) ?_ rfl
            unfold execOp
            dsimp only
            rw [e27]
            go_simp
          · -- 2
            cases ho
            have e6 : q.eval (.tmp 6) = .slice (some ⟨SB, 0, none⟩) 5 5 := (hout 6 (by decide)).trans rfl
            refine gives_read (v := .slice (some ⟨SB, 0, none⟩) 5 5) ?_ rfl
            unfold execOp
            dsimp only
            rw [e6]
            go_simp
          · -- 3
            cases ho
            have e7 : q.eval (.tmp 7) = .int .i64 (k : Int) := (hout 7 (by decide)).trans rfl
            refine gives_read (v := .int .i64 (k : Int)) ?_ rfl
            unfold execOp
            dsimp only
            rw [e7]
            go_simp
          · -- 4
            cases ho
            have e29 : q.eval (.tmp 29) = .slice (some ⟨SB, 0, none⟩) 5 5 := hdep ⟨2, .data⟩ (by simp) rfl (by decide)
            have e30 : q.eval (.tmp 30) = .int .i64 (k : Int) := hdep ⟨3, .data⟩ (by simp) rfl (by decide)
            refine gives_read (v := .pointer (some ⟨SB, k, none⟩)) ?_ rfl
            unfold execOp
            dsimp only
            rw [e29, e30]
            go_simp
          · -- 5
            cases ho
            have e31 : q.eval (.tmp 31) = .pointer (some ⟨SB, k, none⟩) := hdep ⟨4, .data⟩ (by simp) rfl (by decide)
            refine gives_read (v := .string s) ?_ rfl
            unfold execOp
            dsimp only
            rw [e31]
            go_simp
          · -- 6
            cases ho
            have e32 : q.eval (.tmp 32) = .string s := hdep ⟨5, .data⟩ (by simp) rfl (by decide)
            refine gives_run (W' := W.alloc (.cells #[.string ⟨#[118, 97, 114]⟩, .string s] 9)) (v := .slice (some ⟨W.heap.size, 0, none⟩) 2 2) ?_ ((Below.refl _ W).alloc (Nat.le_refl _) _) (blk_new (by have := hbel.size; omega))
            unfold execOp
            dsimp only
            simp only [List.map_toArray, List.map_cons, List.map_nil, e32]
            go_simp
          · -- 7
            cases ho
            obtain ⟨S, e33, hSN, hS⟩ : ∃ S, q.eval (.tmp 33) = .slice (some ⟨S, 0, none⟩) 2 2 ∧ wr.heap.size ≤ S ∧ W.heap[S]? = some (.cells #[.string ⟨#[118, 97, 114]⟩, .string s] 9 (0, 0)) := hdep ⟨6, .data⟩ (by simp) rfl (by decide)
            clear hSN
            refine gives_call (f := 37) (args := #[.string ⟨#[104, 116, 116, 112, 58, 47, 47, 106, 97, 98, 98, 101, 114, 46, 111, 114, 103, 47, 112, 114, 111, 116, 111, 99, 111, 108, 47, 100, 105, 115, 99, 111, 35, 105, 110, 102, 111]⟩, .string ⟨#[102, 101, 97, 116, 117, 114, 101]⟩, .slice (some ⟨S, 0, none⟩) 2 2]) ?_ ((rNew_any ⟨#[104, 116, 116, 112, 58, 47, 47, 106, 97, 98, 98, 101, 114, 46, 111, 114, 103, 47, 112, 114, 111, 116, 111, 99, 111, 108, 47, 100, 105, 115, 99, 111, 35, 105, 110, 102, 111]⟩ ⟨#[102, 101, 97, 116, 117, 114, 101]⟩ [⟨#[118, 97, 114]⟩, s] (some ⟨S, 0, none⟩) 2 W (by decide) (by decide) (by simp) (sz2 (by decide) hss) (str_mem2 hS)).mono ?_)
            · unfold execOp
              dsimp only
              simp only [resolve, List.map_toArray, List.map_cons, List.map_nil, e33]
              go_simp
            · rintro e W' ⟨a7, c7, rfl, hin, hb⟩
              exact ⟨_, rfl, hb, a7, c7, none, 0, rfl, hin.weak fun _ _ h => Nat.le_trans hbel.size h⟩
          · -- 8
            cases ho
            obtain ⟨aA, cA, aK, cK, e34, hE⟩ : ∃ aA cA aK cK, q.eval (.tmp 34) = .agg #[.string ((featE s)).sp, .string ((featE s)).nm, .slice aA ((featE s)).atr.length cA, .string ((featE s)).tx, .slice aK ((featE s)).ks.length cK] ∧ InS (fun b => wr.heap.size ≤ b) W (featE s) (q.eval (.tmp 34)) := hdep ⟨7, .data⟩ (by simp) rfl (by decide)
            rw [e34] at hE
            refine gives_run (W' := W.alloc (.cells #[.string ((featE s)).sp, .string ((featE s)).nm, .slice aA ((featE s)).atr.length cA, .string ((featE s)).tx, .slice aK ((featE s)).ks.length cK] 30)) (v := .slice (some ⟨W.heap.size, 0, none⟩) 1 1) ?_ ((Below.refl _ W).alloc (Nat.le_refl _) _) (row_new (by have := hbel.size; omega) hE)
            unfold execOp
            dsimp only
            simp only [List.map_toArray, List.map_cons, List.map_nil, e34]
            go_simp
        · intro q W hq hbel hv
          have e28 : q.eval (.tmp 28) = .slice a kk.length c := hv 1 (by decide)
          obtain ⟨B, v0, v1, v2, v3, v4, e35, hB, hBB, hBI⟩ : ∃ B v0 v1 v2 v3 v4, q.eval (.tmp 35) = .slice (some ⟨B, 0, none⟩) 1 1 ∧ wr.heap.size ≤ B ∧ W.heap[B]? = some (.cells #[v0, v1, v2, v3, v4] 30 (0, 0)) ∧ InS (fun b => wr.heap.size ≤ b) W (featE s) (.agg #[v0, v1, v2, v3, v4]) := hv 8 (by decide)
          have HFW := Lib.hid (HF.out.st hbel)
          have hTW : w.heap.size + 1 ≤ W.heap.size := heap_lt HFW.out.rb
          have HBB := Lib.hid hBB
          have HBI : Hid (InS (fun b => (w.heap.size < b ∧ b ≠ T) ∧ ob a kk.length c ≠ some b) W (featE s) (.agg #[v0, v1, v2, v3, v4])) := hBI.weak fun b _ hb => ⟨⟨Nat.lt_of_lt_of_le (heap_lt HF.out.rb) hb, fun e => by have := heap_lt HF.out.tb; omega⟩, fun e => by have := (HF.out.oe.lt b e).2; omega⟩
          obtain ⟨aA7, cA7, aK7, cK7, hsh, _⟩ := hBI.toIn.out
          simp only [Value.agg.injEq] at hsh
          injection hsh with hsh
          simp only [List.cons.injEq] at hsh
          obtain ⟨rfl, rfl, rfl, rfl, rfl, _⟩ := hsh
          have HLW : Hid (∀ i (h : i < L.length), W.cell? ⟨SB, i, none⟩ = some (.string L[i])) := fun i h => (hbel.cell (p := ⟨SB, i, none⟩) (World.block_lt_of_cell? _ _ (HLS.out i h))).trans (HLS.out i h)
          have hsW : SB < W.heap.size := Nat.lt_of_lt_of_le hSB hbel.size
          have hq2 : q = canonL q [27, 28, 29, 30, 31, 32, 33, 34, 35] _ := hq
          simp only [canonL] at hq2
          rw [e28, e35] at hq2
          clear hq hv e28 e35
          generalize q.eval (.tmp 27) = u27 at hq2
          generalize q.eval (.tmp 29) = u29 at hq2
          generalize q.eval (.tmp 30) = u30 at hq2
          generalize q.eval (.tmp 31) = u31 at hq2
          generalize q.eval (.tmp 32) = u32 at hq2
          generalize q.eval (.tmp 33) = u33 at hq2
          generalize q.eval (.tmp 34) = u34 at hq2
          subst hq2
          clear hB hBB hBI HF HLS hbel
          obtain ⟨xs, hxs, hxk⟩ := HFW.out.oe.kr
          have HXS := Lib.hid hxs
          have HXK := Lib.hid hxk
          clear hxs hxk
          obtain ⟨i0, hi0', hz0, hz1, hz2⟩ := info_parts infoElem
          simp only [List.drop_succ_cons, List.drop_zero]
          go_simp
          refine wpList_append_lies _ rfl _ _ 28 rfl (w.heap.size + 1) 30 i0 _ 5 96 Tryz.underlying28 hi0' hz0 hz1 hz2 rfl (by decide) _ kk.length xs rfl HXS.out ⟨B, 0, none⟩ 1 1 [.string ((featE s)).sp, .string ((featE s)).nm, .slice aA7 ((featE s)).atr.length cA7, .string ((featE s)).tx, .slice aK7 ((featE s)).ks.length cK7] rfl rfl (World.news_of_block (cs := #[.string ((featE s)).sp, .string ((featE s)).nm, .slice aA7 ((featE s)).atr.length cA7, .string ((featE s)).tx, .slice aK7 ((featE s)).ks.length cK7]) (t := 30) (fr := (0, 0)) HBB.out) (by simp [Value.oneCell']) (by decide) (by unfold maxLen; omega) (by omega) hTW _ rfl ?_
          intro g cap w5 hown hgrow hat hlt5
          have ht5 := (hgrow.block _ (heap_lt HFW.out.tb) (fun e => HFW.out.nt e.symm)).trans HFW.out.tb
          have t5 := (bx5 ht5).2.2.2.2
          have f5 := Lib.frozen_of_heap ht5 4
          have HF5 := Lib.hid (HFW.out.app HXS.out HXK.out hgrow hat HBI.out hown)
          have HOS5 : Hid (g ≠ SB) := by
            rcases hat with h | h
            · intro e; exact HOS.out (h.trans (by rw [e]))
            · show _ ≠ _; omega
          have HLS5 : Hid (∀ i (h : i < L.length), (w5.setCell ⟨T, 4, none⟩ (.slice (some ⟨g, 0, none⟩) (kk.length + 1) cap)).cell? ⟨SB, i, none⟩ = some (.string L[i])) := fun i h => (World.cell?_of_block (a := ⟨SB, i, none⟩) (setCell_other hST)).trans ((World.cell?_of_block (a := ⟨SB, i, none⟩) (hgrow.block SB hsW (fun e => HOS.out e.symm))).trans (HLW.out i h))
          have hsz5 : SB < (w5.setCell ⟨T, 4, none⟩ (.slice (some ⟨g, 0, none⟩) (kk.length + 1) cap)).heap.size := by have := hgrow.size; simp; omega
          go_wp2_with fail
          clear hown hgrow hat hlt5 t5 f5 ht5 HFW HXS HXK HBB HBI HLW HOS hsW
          generalize w5.setCell ⟨T, 4, none⟩ (.slice (some ⟨g, 0, none⟩) (kk.length + 1) cap) = W6 at HF5 HLS5 hsz5 ⊢
          rw [← HTK.out] at HF5
          go_roundw
          case rel => exact ⟨k + 1, _, _, by go_num, by omega, HF5.out, (fun e => by have e2 : some g = some SB := e; injection e2 with e3; exact HOS5.out e3), HLS5.out, hsz5⟩
          case measure => simp [RowKit.intOf]; omega
      · obtain rfl : k = 5 := by omega
        have HE : Hid (infoE true = .mk ⟨#[104, 116, 116, 112, 58, 47, 47, 106, 97, 98, 98, 101, 114, 46, 111, 114, 103, 47, 112, 114, 111, 116, 111, 99, 111, 108, 47, 100, 105, 115, 99, 111, 35, 105, 110, 102, 111]⟩ ⟨#[113, 117, 101, 114, 121]⟩ [] ⟨#[]⟩ (k1 ++ (L.take 5).map featE)) := by
          show _ = _
          rw [HK1.out, HLL.out]; rfl
        generalize k1 ++ (L.take 5).map featE = kk at HF HE
        obtain ⟨x0, x1, x2, x3, x4⟩ := HF.out.load
        obtain ⟨q0, q1, q2, q3, q4⟩ := bx5 HF.out.rb
        have p0 := Lib.frozen_of_heap HF.out.rb 0
        have p1 := Lib.frozen_of_heap HF.out.rb 1
        have p2 := Lib.frozen_of_heap HF.out.rb 2
        have p3 := Lib.frozen_of_heap HF.out.rb 3
        have p4 := Lib.frozen_of_heap HF.out.rb 4
        clear HOS HLS
        go_wp2_with fail
        refine bodyPost_ret (v := .agg #[.string ⟨#[104, 116, 116, 112, 58, 47, 47, 106, 97, 98, 98, 101, 114, 46, 111, 114, 103, 47, 112, 114, 111, 116, 111, 99, 111, 108, 47, 100, 105, 115, 99, 111, 35, 105, 110, 102, 111]⟩, .string ⟨#[113, 117, 101, 114, 121]⟩, .slice none 0 0, .string ⟨#[]⟩, .slice a kk.length c]) (by simp [results, Tryz.results16, go_sem, q0, q1, q2, q3, q4]) rfl ?_
        rw [HE.out]
        have hf := HF.out.fin (u0 := .string ⟨#[104, 116, 116, 112, 58, 47, 47, 106, 97, 98, 98, 101, 114, 46, 111, 114, 103, 47, 112, 114, 111, 116, 111, 99, 111, 108, 47, 100, 105, 115, 99, 111, 35, 105, 110, 102, 111]⟩) (u1 := .string ⟨#[113, 117, 101, 114, 121]⟩) (u2 := .slice none 0 0) (u3 := .string ⟨#[]⟩) (u4 := .slice a kk.length c)
        exact ⟨_, rfl, hf.1, hf.2⟩
theorem rInfo_any (b : Bool) (w : World) : Calls Tryz.prog 16 #[.bool b] w (ElP (infoE b) w) := by
  cases b
  · exact rinfo_f w
  · exact rinfo_t w
end Go.Proofs.YtlklmoohoobjjaaGreatDoor
